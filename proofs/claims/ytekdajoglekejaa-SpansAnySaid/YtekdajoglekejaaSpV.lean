/- The law's own: a row in another order. -/
import Derived.Test.YtekdajoglekejaaSoLS
import Derived.Test.YtekdajoglekejaaSpD
import Derived.Test.YtekdajoglekejaaSpO
import Derived.Test.YtekdajoglekejaaSlApp
import Derived.Deep.LoopGhost
import Derived.Deep.DeepCutAuto
namespace Go.Proofs.Ytekdajoglekejaa
open Go.RowKit
set_option linter.unusedVariables false

theorem and_1023 (x : Int) : 0 ≤ bits .and .i64 x 1023 ∧ bits .and .i64 x 1023 ≤ 1023 := by
  unfold bits
  simp only
  have h : ((BitVec.ofInt IntKind.i64.bits x) &&& (BitVec.ofInt IntKind.i64.bits 1023)).toNat ≤ 1023 := by
    rw [BitVec.toNat_and]
    exact Nat.le_trans Nat.and_le_right (by decide)
  generalize ((BitVec.ofInt IntKind.i64.bits x) &&& (BitVec.ofInt IntKind.i64.bits 1023)).toNat = y at *
  rw [IntKind.wrap_i64]
  omega
theorem place_of (x : Int) (n i : Nat) (h : i < n) (hn : n ≤ 1000) : ∃ k : Nat, i ≤ k ∧ k < n ∧ IntKind.i64.wrap ((i : Int) + (bits .and .i64 x 1023).tmod ((n : Int) - (i : Int))) = (k : Int) := by
  obtain ⟨h0, h1⟩ := and_1023 x
  generalize bits .and .i64 x 1023 = z at *
  have hp : (0 : Int) < (n : Int) - (i : Int) := by omega
  rw [Int.tmod_eq_emod_of_nonneg h0]
  have a := Int.emod_nonneg z (show (n : Int) - (i : Int) ≠ 0 by omega)
  have b := Int.emod_lt_of_pos z hp
  refine ⟨(i + z % ((n : Int) - i)).toNat, by omega, by omega, ?_⟩
  rw [IntKind.wrap_i64]
  omega

set_option maxHeartbeats 4000000 in
set_option maxRecDepth 100000 in
theorem s_moved (at0 bt0 : Option Addr) (l : List Sn) (o : List Int) (c d : Nat) (hl : l.length ≤ 1000) (w : World) (h : Sl Sn.enc 3 w (.slice at0 l.length c) l) (h' : Sl encI 1 w (.slice bt0 o.length d) o) :
    Calls Try.prog 19 #[.slice at0 l.length c, .slice bt0 o.length d] w fun e w' => ∃ (m : List Sn) (v : Value), e = .returned v ∧ Sl Sn.enc 3 w' v m ∧ m.Perm l ∧ New w w' := by
  obtain ⟨i0, hi, hz0, hz1, hz2⟩ := info_parts sn_info
  have HI := Lib.hid hi
  have HZ0 := Lib.hid hz0
  have HZ1 := Lib.hid hz1
  have HZ2 := Lib.hid hz2
  have HS := Lib.hid (fun W n => h.keep (n : New w W))
  have HO := Lib.hid h'.row'.2.2.2.2
  have hol : o.length ≤ maxLen := by obtain ⟨_, h1, h2, _⟩ := h'.row'; omega
  unfold maxLen at hol
  clear h h' hi hz0 hz1 hz2
  go_enter Try.func19, Try.ntmps19
  have OW : (w.alloc (.cells #[] 31)).ownsRow w.heap.size 31 3 (.slice (some ⟨w.heap.size, 0, none⟩) 0 0) ([] : List Sn).length (([] : List Sn).flatMap Sn.enc) :=
    ⟨by simp, Or.inr ⟨w.heap.size, 0, #[], rfl, Nat.le_refl _, heap_new w _, Nat.zero_le _, Nat.zero_le _, by simp, by simp⟩⟩
  go_wp2_with (at_builtin; refine wpList_append_sl rfl _ _ 22 rfl Sn.enc_len Sn.enc_one w.heap.size 31 i0 (.agg #[.int .i64 0, .int .i64 0, .bool false]) 24 Try.underlying22 HI.out HZ0.out HZ1.out HZ2.out rfl (by decide) _ [] rfl OW _ l rfl (HS.out _ (by (repeat (first | (with_reducible exact New.refl _) | (with_reducible assumption) | ((with_reducible refine New.setB ?_ ?_ _); focus (first | omega | (simp; omega) | (simp; done))) | (with_reducible refine New.alloc ?_ _) | (with_reducible refine New.drew ?_) | (with_reducible refine New.drewN ?_ _) | (with_reducible refine New.hat ?_ _) | ((with_reducible apply New.snart); (with_reducible assumption)))))) (by unfold maxLen; simp; omega) (by simp; omega) (by simp) ?_)
  intro v W1 hown hnew _
  change W1.ownsRow _ _ _ _ l.length (l.flatMap Sn.enc) at hown
  have hn1 : New w W1 := hnew w (by (repeat (first | (with_reducible exact New.refl _) | (with_reducible assumption) | ((with_reducible refine New.setB ?_ ?_ _); focus (first | omega | (simp; omega) | (simp; done))) | (with_reducible refine New.alloc ?_ _) | (with_reducible refine New.drew ?_) | (with_reducible refine New.drewN ?_ _) | (with_reducible refine New.hat ?_ _) | ((with_reducible apply New.snart); (with_reducible assumption))))) (Nat.le_refl _)
  clear hnew OW
  rcases hown.2 with ⟨rfl, hl0⟩ | ⟨g, cap, cur, rfl, hbg, hg, hcn, hcm, -⟩
  · obtain rfl := List.eq_nil_of_length_eq_zero hl0
    clear hown
    go_wp2_with fail
    refine wp_loop_rounds 1 ?_
    rw [rounds_succ]
    go_wp2_with fail
    go_ret
    exact ⟨[], _, rfl, Sl.nil, List.Perm.refl _, hn1⟩
  · have HW := Lib.hid (WRow.of_own hown)
    have HC := Lib.hid (And.intro hcn hcm)
    have HBG := Lib.hid hbg
    obtain ⟨n, hn⟩ : ∃ n, n = l.length := ⟨_, rfl⟩
    rw [← hn] at hl hcn ⊢
    have HN := Lib.hid hn
    have hg2 : g < W1.heap.size := by
      rcases Nat.lt_or_ge g W1.heap.size with q | q
      · exact q
      · rw [Array.getElem?_eq_none q] at hg; cases hg
    clear hown hn hg hcm hcn
    obtain ⟨no, hno⟩ : ∃ no, no = o.length := ⟨_, rfl⟩
    rw [← hno] at hol ⊢
    have HNO := Lib.hid hno
    clear hno
    go_wp2_with fail
    go_loopg [6] n (fun gk s6 wr => ∃ (i : Nat) (m : List Sn), s6 = .int .i64 i ∧ i ≤ n ∧ n - i ≤ gk ∧ m.length = n ∧ Hid (m.Perm l) ∧ Hid (WRow wr g m) ∧ Hid (New w wr))
    case atStart => exact ⟨0, l, rfl, by omega, by omega, HN.out.symm, Lib.hid (List.Perm.refl _), HW, Lib.hid hn1⟩
    case round =>
      obtain ⟨i, m, rfl, hi, hgk, hml, HP, HR, hnr⟩ := hrel
      by_cases hlt : i < n
      · by_cases hlo : i < no
        · have hio : i < o.length := by rw [← HNO.out]; exact hlo
          obtain ⟨be, oe, rfl, hB⟩ := HO.out (by omega)
          have e0 : wr.cell? ⟨be, oe + i, none⟩ = some (.int .i64 o[i]) := by have := (hB.keep hnr.out) i hio 0 (by simp [encI]); rw [Nat.mul_one, Nat.add_zero] at this; exact this
          obtain ⟨x, hx⟩ : ∃ x, x = o[i] := ⟨_, rfl⟩
          rw [← hx] at e0
          have him : i < m.length := by omega
          obtain ⟨k, hik, hkn, hkw⟩ := place_of x n i hlt hl
          have hkm : k < m.length := by clear hkw; omega
          obtain ⟨p0, p1, p2⟩ := sn_cells HR.out i him
          obtain ⟨q0, q1, q2⟩ := sn_cells HR.out k hkm
          clear hB hx
          go_upto_region 6 with fail
          clear e0 hkw
          have fr := HR.out.free
          rw [hml] at fr
          have f0 := fr (i * 3) (by omega)
          have f1 := fr (i * 3 + 1) (by omega)
          have f2 := fr (i * 3 + 2) (by omega)
          have g0 := fr (k * 3) (by omega)
          have g1 := fr (k * 3 + 1) (by omega)
          have g2 := fr (k * 3 + 2) (by omega)
          have HK : Hid (WRow (((wr.setCells g (i * 3) m[k].enc).setCells g (k * 3) m[i].enc).drew) g ((m.set i m[k]).set k m[i]) ∧ ((m.set i m[k]).set k m[i]).Perm l ∧ New w (((wr.setCells g (i * 3) m[k].enc).setCells g (k * 3) m[i].enc).drew)) := Lib.hid ⟨((HR.out.put i him m[k]).put k (by rw [List.length_set]; exact hkm) m[i]).keep ((New.refl _).drew), (List.set_set_perm him hkm).trans HP.out, (new_setCells (new_setCells hnr.out HBG.out _ _) HBG.out _ _).drew⟩
          have hml2 : ((m.set i m[k]).set k m[i]).length = n := by rw [List.length_set, List.length_set]; exact hml
          generalize (m.set i m[k]).set k m[i] = m' at HK hml2
          obtain ⟨p, hp⟩ : ∃ p, p = m[i] := ⟨_, rfl⟩
          obtain ⟨q, hq⟩ : ∃ q, q = m[k] := ⟨_, rfl⟩
          rw [← hp] at p0 p1 p2 HK
          rw [← hq] at q0 q1 q2 HK
          clear fr hp hq him hkm
          by_cases hki : i = k
          · subst hki
            have e : p = q := Sn.ext' (by rw [p0] at q0; injection q0 with q0; injection q0) (by rw [p1] at q1; injection q1 with q1; injection q1) (by rw [p2] at q2; injection q2 with q2; injection q2)
            subst e
            go_big_region
            generalize hW : World.drew _ = W
            have HK2 : Hid (WRow W g m' ∧ m'.Perm l ∧ New w W) := by subst hW; exact HK
            clear hW HK p0 p1 p2 q0 q1 q2 f0 f1 f2 g0 g1 g2
            go_wp2_with fail
            go_roundg (n - (i + 1))
            case measure => omega
            case rel => exact ⟨i + 1, m', by go_num, by omega, by omega, hml2, Lib.hid HK2.out.2.1, Lib.hid HK2.out.1, Lib.hid HK2.out.2.2⟩
          · go_big_region
            generalize hW : World.drew _ = W
            have HK2 : Hid (WRow W g m' ∧ m'.Perm l ∧ New w W) := by subst hW; exact HK
            clear hW HK p0 p1 p2 q0 q1 q2 f0 f1 f2 g0 g1 g2
            go_wp2_with fail
            go_roundg (n - (i + 1))
            case measure => omega
            case rel => exact ⟨i + 1, m', by go_num, by omega, by omega, hml2, Lib.hid HK2.out.2.1, Lib.hid HK2.out.1, Lib.hid HK2.out.2.2⟩
        · have hlo' : no ≤ i := by omega
          have hd : decide (i < no) = false := decide_eq_false hlo
          clear hlo hlo'
          go_wp2_with fail
          go_ret
          exact ⟨m, .slice (some ⟨g, 0, none⟩) n cap, rfl, ⟨some ⟨g, 0, none⟩, cap, by rw [hml], by rw [hml, HN.out]; exact HC.out.1, HC.out.2, fun h => (by cases h), fun _ => ⟨g, 0, rfl, HR.out.row⟩⟩, HP.out, hnr.out⟩
      · have hd : decide (i < n) = false := decide_eq_false hlt
        clear hlt
        go_wp2_with fail
        go_ret
        exact ⟨m, .slice (some ⟨g, 0, none⟩) n cap, rfl, ⟨some ⟨g, 0, none⟩, cap, by rw [hml], by rw [hml, HN.out]; exact HC.out.1, HC.out.2, fun h => (by cases h), fun _ => ⟨g, 0, rfl, HR.out.row⟩⟩, HP.out, hnr.out⟩

end Go.Proofs.Ytekdajoglekejaa
