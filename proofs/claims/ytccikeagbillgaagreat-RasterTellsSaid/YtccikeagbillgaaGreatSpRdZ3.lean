import Derived.Test.YtccikeagbillgaaGreatSpRbZ3
import Derived.Test.YtccikeagbillgaaGreatSpQZ3
import Derived.Deep.LoopGhost
import Derived.Deep.DeepCutAuto

/- The document's own Check, Put, Solid, Same. -/
namespace Go.Proofs.YtccikeagbillgaaGreat
open Go.RowKit
set_option linter.unusedVariables false

theorem Sl.with_eq {α : Type} {enc : α → List Value} {k : Nat} {w : World} {v : Value} {l : List α} (h : Sl enc k w v l) : ∃ a c, v = .slice a l.length c ∧ True := by
  obtain ⟨a, c, e, _⟩ := h
  exact ⟨a, c, e, trivial⟩

set_option maxHeartbeats 2000000 in
set_option maxRecDepth 100000 in
theorem rs_same (at0 bt0 : Option Addr) (l m : List Sn) (c d : Nat) (hl : l.length ≤ 1000) (hm : m.length ≤ 1000) (w : World) (h : Sl Sn.enc 3 w (.slice at0 l.length c) l) (h' : Sl Sn.enc 3 w (.slice bt0 m.length d) m) :
    Calls Tryz.prog 12 #[.slice at0 l.length c, .slice bt0 m.length d] w fun e w' => e = .returned (.bool (Sn.allEq l m)) ∧ New w w' := by
  have HH := Lib.hid h.row'.2.2.2.2
  have HG := Lib.hid h'.row'.2.2.2.2
  clear h h'
  obtain ⟨r, hr⟩ : ∃ r, r = Sn.allEq l m := ⟨_, rfl⟩
  rw [← hr]
  have HR := Lib.hid hr
  clear hr
  by_cases hlm : l.length = m.length
  rotate_left
  · have HE : Hid (r = false) := Lib.hid (by
      rw [HR.out]
      cases h : Sn.allEq l m with
      | false => rfl
      | true => exact absurd (by rw [(Sn.allEq_iff l m).1 h]) hlm)
    have hd : ((l.length : Int) != (m.length : Int)) = true := by simpa using fun h => hlm (by omega)
    clear hlm
    go_enter Tryz.func12, Tryz.ntmps12
    go_wp2_with fail
    go_ret
    exact ⟨by rw [HE.out]; rfl, by (repeat (first | (with_reducible exact New.refl _) | (with_reducible assumption) | ((with_reducible refine New.setB ?_ ?_ _); focus (first | omega | (simp; omega) | (simp; done))) | (with_reducible refine New.alloc ?_ _) | (with_reducible refine New.drew ?_) | (with_reducible refine New.drewN ?_ _) | (with_reducible refine New.hat ?_ _) | ((with_reducible apply New.snart); (with_reducible assumption))))⟩
  · obtain ⟨n, hn⟩ : ∃ n, n = l.length := ⟨_, rfl⟩
    have HNM : Hid (n = m.length) := Lib.hid (hn.trans hlm)
    have HN := Lib.hid hn
    rw [← hlm, ← hn]
    rw [← hn] at hl
    clear hn hlm hm
    go_enter Tryz.func12, Tryz.ntmps12
    go_wp2_with fail
    go_loopg [5] n (fun gk s5 wr => ∃ i : Nat, s5 = .int .i64 i ∧ i ≤ n ∧ n - i ≤ gk ∧ Hid (l.take i = m.take i) ∧ Hid (New w wr))
    case atStart => exact ⟨0, rfl, by omega, by omega, Lib.hid (by simp), Lib.hid (by (repeat (first | (with_reducible exact New.refl _) | (with_reducible assumption) | ((with_reducible refine New.setB ?_ ?_ _); focus (first | omega | (simp; omega) | (simp; done))) | (with_reducible refine New.alloc ?_ _) | (with_reducible refine New.drew ?_) | (with_reducible refine New.drewN ?_ _) | (with_reducible refine New.hat ?_ _) | ((with_reducible apply New.snart); (with_reducible assumption)))))⟩
    case round =>
      obtain ⟨i, rfl, hi, hgk, HT, hnr⟩ := hrel
      by_cases hlt : i < n
      · have hil : i < l.length := by rw [← HN.out]; exact hlt
        have him : i < m.length := by rw [← HNM.out]; exact hlt
        obtain ⟨b0, off, rfl, hA⟩ := HH.out (by omega)
        obtain ⟨b1, off1, rfl, hA1⟩ := HG.out (by omega)
        obtain ⟨c0, c1, c2⟩ := Sn.cells (hA.keep hnr.out) i hil
        obtain ⟨d0, d1, d2⟩ := Sn.cells (hA1.keep hnr.out) i him
        clear hA hA1
        have hq := fun W => sn_neq W l[i] m[i]
        cases he : l[i].eqB m[i]
        · rw [he] at hq
          have HE : Hid (r = false) := Lib.hid (by
            rw [HR.out]
            cases h : Sn.allEq l m with
            | false => rfl
            | true =>
              have h1 := (Sn.allEq_iff l m).1 h
              subst h1
              rw [(Sn.eqB_iff _ _).2 rfl] at he
              cases he)
          clear he
          go_upto_region 6 with fail
          (refine wp_region_hat (by kernel_rfl) (by kernel_rfl) ?_; intro hatc hatf; (repeat (go_big_quiet_step ((fail)))); refine wpQuiet_nil ?_; rintro _ ⟨X, rfl⟩)
          clear hatc hatf
          have n2 := hnr.out.trans X.h
          generalize X.w = W2 at *
          clear X
          go_wp2_with fail
          go_ret
          exact ⟨by rw [HE.out]; rfl, n2⟩
        · rw [he] at hq
          have HE := Lib.hid ((Sn.eqB_iff _ _).1 he)
          clear he
          go_upto_region 6 with fail
          (refine wp_region_hat (by kernel_rfl) (by kernel_rfl) ?_; intro hatc hatf; (repeat (go_big_quiet_step ((fail)))); refine wpQuiet_nil ?_; rintro _ ⟨X, rfl⟩)
          clear hatc hatf
          have n2 := Lib.hid (hnr.out.trans X.h)
          generalize X.w = W2 at *
          clear X c0 c1 c2 d0 d1 d2 hq
          go_wp2_with fail
          go_roundg (n - (i + 1))
          case measure => omega
          case rel => exact ⟨i + 1, by go_num, by omega, by omega, Lib.hid (by rw [List.take_succ_eq_append_getElem hil, List.take_succ_eq_append_getElem him, HT.out, HE.out]), n2⟩
      · have HE : Hid (r = true) := Lib.hid (by
          rw [HR.out, Sn.allEq_iff]
          have := HT.out
          rwa [List.take_of_length_le (by have := HN.out; omega), List.take_of_length_le (by have := HNM.out; omega)] at this)
        go_wp2_with fail
        go_ret
        exact ⟨by rw [HE.out]; rfl, hnr.out⟩

end Go.Proofs.YtccikeagbillgaaGreat
