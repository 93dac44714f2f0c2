/- The library's Equal, of slices of a kind. -/
import Derived.Test.YtekdajoglekejaaSpA
import Derived.Test.YtekdajoglekejaaHatS
import Derived.Deep.LoopGhost
namespace Go.Proofs.Ytekdajoglekejaa
open Go.RowKit
set_option linter.unusedVariables false

def Sn.allEq : List Sn → List Sn → Bool
  | [], [] => true
  | a :: l, b :: m => a.eqB b && Sn.allEq l m
  | _, _ => false
theorem Sn.allEq_iff : ∀ l m : List Sn, Sn.allEq l m = true ↔ l = m
  | [], [] => by simp [Sn.allEq]
  | [], _ :: _ => by simp [Sn.allEq]
  | _ :: _, [] => by simp [Sn.allEq]
  | a :: l, b :: m => by simp [Sn.allEq, Sn.eqB_iff, Sn.allEq_iff l m]

set_option maxHeartbeats 4000000 in
theorem sn_neq (w : World) (a b : Sn) : (binOp .neq 31 (.agg #[.int .i64 a.lo, .int .i64 a.hi, .bool a.wk]) (.agg #[.int .i64 b.lo, .int .i64 b.hi, .bool b.wk])).run Try.prog w = .ok (.bool (!a.eqB b)) w := by
  obtain ⟨a0, a1, a2⟩ := a
  obtain ⟨b0, b1, b2⟩ := b
  unfold Sn.eqB
  cases h0 : (a0 == b0)
  · go_simp
  · skip
    cases h1 : (a1 == b1)
    · go_simp
    · skip
      cases h2 : (a2 == b2)
      · go_simp
      · go_simp

set_option maxHeartbeats 4000000 in
set_option maxRecDepth 100000 in
theorem sn_equal (a0 b0 : Option Addr) (l m : List Sn) (c d : Nat) (hl : l.length ≤ 1000) (hm : m.length ≤ 1000) (w : World) (H : RowIn Sn.enc 3 w a0 l) (G : RowIn Sn.enc 3 w b0 m) :
    Calls Try.prog 30 #[.slice a0 l.length c, .slice b0 m.length d] w fun e w' => e = .returned (.bool (Sn.allEq l m)) ∧ New w w' := by
  have HH := Lib.hid H
  have HG := Lib.hid G
  clear H G
  by_cases hlm : l.length = m.length
  rotate_left
  · have hd : ((l.length : Int) != (m.length : Int)) = true := by simpa using fun h => hlm (by omega)
    have hr : Sn.allEq l m = false := by
      cases h : Sn.allEq l m with
      | false => rfl
      | true => exact absurd (by rw [(Sn.allEq_iff l m).1 h]) hlm
    have HR := Lib.hid hr
    clear hlm hr
    go_enter Try.func30, Try.ntmps30
    go_wp2_with fail
    go_ret
    rw [HR.out]
    exact ⟨rfl, New.refl _⟩
  have hd : ((l.length : Int) != (m.length : Int)) = false := by simp; omega
  have HLM := Lib.hid hlm
  clear hlm
  have hlm1 : l.length ≤ m.length := by rw [HLM.out]; omega
  have hlm2 : m.length ≤ l.length := by rw [HLM.out]; omega
  go_enter Try.func30, Try.ntmps30
  go_wp2_with fail
  clear hd
  go_loopg [13] l.length (fun k s wr => ∃ i : Nat, s = .int .i64 i ∧ i + k = l.length ∧ l.take i = m.take i ∧ New w wr)
  case atStart => exact ⟨0, by simp, by omega, by simp, New.refl _⟩
  case round =>
    obtain ⟨i, rfl, hik, hall, hn⟩ := hrel
    have HA := Lib.hid hall
    clear hall
    by_cases hlt : i < l.length
    · obtain ⟨b, off, rfl, hA⟩ := HH.out (by omega)
      obtain ⟨b', off', rfl, hA2⟩ := HG.out (by omega)
      have hA' := hA.keep hn
      have hA2' := hA2.keep hn
      obtain ⟨c0, c1, c2⟩ := Sn.cells hA' i hlt
      obtain ⟨d0, d1, d2⟩ := Sn.cells hA2' i (by omega)
      have hq := fun W => sn_neq W l[i] (m[i]'(by omega))
      clear hA hA' hA2 hA2'
      cases he : l[i].eqB (m[i]'(by omega))
      · rw [he] at hq
        have HNO : Hid (Sn.allEq l m = false) := by
          show _ = false
          cases h : Sn.allEq l m with
          | false => rfl
          | true =>
            have h1 := (Sn.allEq_iff l m).1 h
            subst h1
            rw [(Sn.eqB_iff _ _).2 rfl] at he
            cases he
        clear he
        go_wp2_with fail
        (refine wp_region_hat (by kernel_rfl) (by kernel_rfl) ?_; intro hatc hatf; (repeat (go_big_quiet_step ((fail)))); refine wpQuiet_nil ?_; rintro _ ⟨x, rfl⟩)
        go_wp2_with fail
        go_ret
        rw [HNO.out]
        exact ⟨rfl, hn.hat x⟩
      · rw [he] at hq
        have HE := Lib.hid ((Sn.eqB_iff _ _).1 he)
        clear he
        go_wp2_with fail
        (refine wp_region_hat (by kernel_rfl) (by kernel_rfl) ?_; intro hatc hatf; (repeat (go_big_quiet_step ((fail)))); refine wpQuiet_nil ?_; rintro _ ⟨x, rfl⟩)
        go_wp2_with fail
        go_roundg (gk - 1)
        case measure => omega
        case rel => exact ⟨i + 1, by go_num, by omega, by rw [List.take_succ_eq_append_getElem hlt, List.take_succ_eq_append_getElem (show i < m.length by omega), HA.out, HE.out], hn.hat x⟩
    · have hr : Sn.allEq l m = true := (Sn.allEq_iff l m).2 (by
        have := HA.out
        rwa [List.take_of_length_le (by omega), List.take_of_length_le (by omega)] at this)
      have HR := Lib.hid hr
      clear hr
      go_wp2_with fail
      go_ret
      rw [HR.out]
      exact ⟨rfl, hn⟩

end Go.Proofs.Ytekdajoglekejaa
