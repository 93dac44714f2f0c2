/- The law SpansTop. -/
import Derived.Test.YtekdajoglekejaaSpX
import Derived.Deep.LoopGhost
import Derived.Deep.DeepCutAuto
namespace Go.Proofs.Ytekdajoglekejaa
open Go.RowKit
set_option linter.unusedVariables false

theorem any_succ {α : Type} (f : α → Bool) (l : List α) (k : Nat) (h : k < l.length) : (l.take (k + 1)).any f = ((l.take k).any f || f l[k]) := by
  rw [List.take_succ_eq_append_getElem h, List.any_append]; simp

/-- Does a piece that may be walked end at this top? -/
def topF (q p : Sn) : Bool := p.hi == q.hi && p.wk
def lowF (q p : Sn) : Bool := p.lo == q.lo
theorem top_any {l R : List Sn} (h : IsM l R) {q : Sn} (hq : q ∈ R) : l.any (topF q) = q.wk := by
  rw [Bool.eq_iff_iff, h.top q hq, List.any_eq_true]
  constructor
  · rintro ⟨p, hp, k⟩
    unfold topF at k
    simp only [Bool.and_eq_true, beq_iff_eq] at k
    exact ⟨p, hp, k⟩
  · rintro ⟨p, hp, k⟩
    exact ⟨p, hp, by unfold topF; simp [k]⟩
theorem low_any {l R : List Sn} (h : IsM l R) {q : Sn} (hq : q ∈ R) : l.any (lowF q) = true := by
  rw [List.any_eq_true]
  obtain ⟨p, hp, k⟩ := h.low q hq
  exact ⟨p, hp, by unfold lowF; simp [k]⟩

set_option maxHeartbeats 8000000 in
set_option maxRecDepth 100000 in
theorem l_top (at0 : Option Addr) (l : List Sn) (c : Nat) (w : World) (h : Sl Sn.enc 3 w (.slice at0 l.length c) l) :
    Calls Try.prog 6 #[.slice at0 l.length c] w fun e w' => e = .returned (.bool true) ∧ New w w' := by
  have KW := Lib.hid (fun W => s_wakes W)
  have hlm : l.length ≤ maxLen := by obtain ⟨_, h1, h2, _⟩ := h.row'; omega
  have KM := Lib.hid (fun hl W n => k_merge at0 l c hl W (h.keep (n : New w W)))
  have HR := Lib.hid h.row'.2.2.2.2
  clear h
  unfold maxLen at hlm
  obtain ⟨n, hn⟩ : ∃ n, n = l.length := ⟨_, rfl⟩
  rw [← hn] at hlm KM ⊢
  have HN := Lib.hid hn
  clear hn
  go_enter Try.func6, Try.ntmps6
  go_wp2_with fail
  · rename_i hl
    refine (KW.out _).mono ?_
    rintro e w1 ⟨rfl, n1⟩
    have hn := New.trans (by (repeat (first | (with_reducible exact New.refl _) | (with_reducible assumption) | ((with_reducible refine New.setB ?_ ?_ _); focus (first | omega | (simp; omega) | (simp; done))) | (with_reducible refine New.alloc ?_ _) | (with_reducible refine New.drew ?_) | (with_reducible refine New.drewN ?_ _) | (with_reducible refine New.hat ?_ _) | ((with_reducible apply New.snart); (with_reducible assumption)))) : New w _) n1
    clear n1
    go_wp2_with fail
    go_ret
    exact ⟨rfl, hn⟩
  · rename_i hl
    refine (KM.out (by omega) _ (by (repeat (first | (with_reducible exact New.refl _) | (with_reducible assumption) | ((with_reducible refine New.setB ?_ ?_ _); focus (first | omega | (simp; omega) | (simp; done))) | (with_reducible refine New.alloc ?_ _) | (with_reducible refine New.drew ?_) | (with_reducible refine New.drewN ?_ _) | (with_reducible refine New.hat ?_ _) | ((with_reducible apply New.snart); (with_reducible assumption)))))).mono ?_
    rintro e w1 hm
    obtain ⟨n1, R, a1, c1, r, hR, hRl, rfl, h1⟩ := hm.flat
    obtain ⟨m, hm'⟩ : ∃ m, m = R.length := ⟨_, rfl⟩
    rw [← hm'] at hRl ⊢
    have HM := Lib.hid hm'
    have HN1 := Lib.hid n1
    have HQ := Lib.hid h1.row'.2.2.2.2
    have hr : r = 0 ∨ (r = 2 ∧ m = 0) := by
      rcases hR with ⟨_, k, e⟩ | ⟨_, _, e⟩
      · exact .inr ⟨e, by rw [hm', k]; rfl⟩
      · exact .inl e
    have HI : Hid (r = 0 → IsM l R) := Lib.hid (fun h0 => by
      rcases hR with ⟨_, k, e⟩ | ⟨_, k, e⟩
      · omega
      · exact k)
    have hRn : m ≤ n := by rw [HN.out]; exact hRl
    clear hm hR h1 n1 hm' hRl
    rcases hr with rfl | ⟨rfl, rfl⟩
    rotate_left
    · clear HI
      go_wp2_with fail
      refine wp_loop_rounds 1 ?_
      rw [rounds_succ]
      go_wp2_with fail
      refine (KW.out _).mono ?_
      rintro e w1 ⟨rfl, n1⟩
      have hn := HN1.out.trans (New.trans (by (repeat (first | (with_reducible exact New.refl _) | (with_reducible assumption) | ((with_reducible refine New.setB ?_ ?_ _); focus (first | omega | (simp; omega) | (simp; done))) | (with_reducible refine New.alloc ?_ _) | (with_reducible refine New.drew ?_) | (with_reducible refine New.drewN ?_ _) | (with_reducible refine New.hat ?_ _) | ((with_reducible apply New.snart); (with_reducible assumption))))) n1)
      clear n1
      go_wp2_with fail
      go_ret
      exact ⟨rfl, hn⟩
    · replace HI : Hid (IsM l R) := Lib.hid (HI.out rfl)
      go_wp2_with fail
      go_loopg [5] m (fun gk s5 wr => ∃ i : Nat, s5 = .int .i64 i ∧ i ≤ m ∧ m - i ≤ gk ∧ Hid (New w1 wr))
      case atStart => exact ⟨0, rfl, by omega, by omega, Lib.hid (by (repeat (first | (with_reducible exact New.refl _) | (with_reducible assumption) | ((with_reducible refine New.setB ?_ ?_ _); focus (first | omega | (simp; omega) | (simp; done))) | (with_reducible refine New.alloc ?_ _) | (with_reducible refine New.drew ?_) | (with_reducible refine New.drewN ?_ _) | (with_reducible refine New.hat ?_ _) | ((with_reducible apply New.snart); (with_reducible assumption)))))⟩
      case round =>
        obtain ⟨i, rfl, hi, hgk, hnr⟩ := hrel
        by_cases hlt : i < m
        · have him : i < R.length := by rw [← HM.out]; exact hlt
          obtain ⟨bq, oq, rfl, hA⟩ := HQ.out (by omega)
          have HA := Lib.hid hA
          obtain ⟨q, hq⟩ : ∃ q, q = R[i] := ⟨_, rfl⟩
          have HTOP : Hid (l.any (topF q) = q.wk) := Lib.hid (top_any HI.out (by rw [hq]; exact List.getElem_mem him))
          have HLOW : Hid (l.any (lowF q) = true) := Lib.hid (low_any HI.out (by rw [hq]; exact List.getElem_mem him))
          have HQE := Lib.hid hq
          clear hA hq
          go_wp2_with fail
          refine Code.at (fun W0 hW => ?_)
          have hnr0 : Hid (New w1 W0) := Lib.hid (hnr.out.trans (by subst hW; (repeat (first | (with_reducible exact New.refl _) | (with_reducible assumption) | ((with_reducible refine New.setB ?_ ?_ _); focus (first | omega | (simp; omega) | (simp; done))) | (with_reducible refine New.alloc ?_ _) | (with_reducible refine New.drew ?_) | (with_reducible refine New.drewN ?_ _) | (with_reducible refine New.hat ?_ _) | ((with_reducible apply New.snart); (with_reducible assumption))))))
          clear hW hnr
          go_loopg [6, 7, 8] n (fun gj s6 s7 s8 wq => ∃ (k : Nat) (sm bt : Bool), s6 = .bool sm ∧ s7 = .bool bt ∧ s8 = .int .i64 k ∧ k ≤ n ∧ n - k ≤ gj ∧ Hid (sm = (l.take k).any (topF q)) ∧ Hid (bt = (l.take k).any (lowF q)) ∧ Hid (New w1 wq))
          case atStart => exact ⟨0, false, false, rfl, rfl, rfl, by omega, by omega, Lib.hid (by simp), Lib.hid (by simp), hnr0⟩
          case round =>
            obtain ⟨k, sm, bt, rfl, rfl, rfl, hk, hgj, HSM, HBT, hnq⟩ := hrel
            by_cases hlk : k < n
            · have hkl : k < l.length := by rw [← HN.out]; exact hlk
              obtain ⟨be, oe, rfl, hB⟩ := HR.out (by omega)
              obtain ⟨e0, e1, e2⟩ := Sn.cells (hB.keep (HN1.out.trans hnq.out)) k hkl
              obtain ⟨q0, q1, q2⟩ := Sn.cells (HA.out.keep hnq.out) i him
              rw [← HQE.out] at q0 q1 q2
              obtain ⟨E, hE⟩ : ∃ E, E = l[k] := ⟨_, rfl⟩
              rw [← hE] at e0 e1 e2
              obtain ⟨t1, ht1⟩ : ∃ t, (E.hi == q.hi) = t := ⟨_, rfl⟩
              obtain ⟨t2, ht2⟩ : ∃ t, (E.lo == q.lo) = t := ⟨_, rfl⟩
              have HSS : Hid ((sm || t1 && E.wk) = (l.take (k + 1)).any (topF q)) := Lib.hid (by rw [any_succ _ _ _ hkl, ← HSM.out, ← hE, ← ht1]; rfl)
              have HBB : Hid ((bt || t2) = (l.take (k + 1)).any (lowF q)) := Lib.hid (by rw [any_succ _ _ _ hkl, ← HBT.out, ← hE, ← ht2]; rfl)
              clear hE hB HSM HBT q2
              cases sm <;> cases t1 <;> cases bt
              all_goals
                go_upto_region 11 with fail
                (refine wp_region_hat (by kernel_rfl) (by kernel_rfl) ?_; intro hatc hatf; (repeat (go_big_quiet_step ((fail)))); refine wpQuiet_nil ?_; rintro _ ⟨X, rfl⟩)
                clear hatc hatf
                have hnq2 := Lib.hid (hnq.out.trans X.h)
                (replace e0 := New.keep X.h e0; replace e1 := New.keep X.h e1; replace e2 := New.keep X.h e2; replace q0 := New.keep X.h q0; replace q1 := New.keep X.h q1)
                generalize X.w = W2 at *
                clear X
                go_upto_region 12 with fail
                (refine wp_region_hat (by kernel_rfl) (by kernel_rfl) ?_; intro hatc hatf; (repeat (go_big_quiet_step ((fail)))); refine wpQuiet_nil ?_; rintro _ ⟨X, rfl⟩)
                clear hatc hatf
                have hnq3 := Lib.hid (hnq2.out.trans X.h)
                generalize X.w = W3 at *
                clear X
                go_wp2_with fail
                go_roundg (n - (k + 1))
                case measure => omega
                case rel => exact ⟨k + 1, _, _, rfl, rfl, by go_num, by omega, by omega, HSS, HBB, hnq3⟩
            · have e : k = n := by omega
              subst e
              have hsm : sm = q.wk := by have := HSM.out; rw [HN.out, List.take_length, HTOP.out] at this; exact this
              have hbt : bt = true := by have := HBT.out; rw [HN.out, List.take_length, HLOW.out] at this; exact this
              subst hsm hbt
              obtain ⟨q0, q1, q2⟩ := Sn.cells (HA.out.keep hnq.out) i him
              rw [← HQE.out] at q0 q1 q2
              clear HSM HBT
              go_wp2_with fail
              go_roundg (m - (i + 1))
              case measure => omega
              case rel => exact ⟨i + 1, by go_num, by omega, by omega, hnq⟩
        · have e : i = m := by omega
          subst e
          go_wp2_with fail
          refine (KW.out _).mono ?_
          rintro e w3 ⟨rfl, n3⟩
          have hn := HN1.out.trans (hnr.out.trans (New.trans (by (repeat (first | (with_reducible exact New.refl _) | (with_reducible assumption) | ((with_reducible refine New.setB ?_ ?_ _); focus (first | omega | (simp; omega) | (simp; done))) | (with_reducible refine New.alloc ?_ _) | (with_reducible refine New.drew ?_) | (with_reducible refine New.drewN ?_ _) | (with_reducible refine New.hat ?_ _) | ((with_reducible apply New.snart); (with_reducible assumption))))) n3))
          clear n3
          go_wp2_with fail
          go_ret
          exact ⟨rfl, hn⟩

end Go.Proofs.Ytekdajoglekejaa
