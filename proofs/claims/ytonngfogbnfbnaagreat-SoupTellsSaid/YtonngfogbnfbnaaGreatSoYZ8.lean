import Derived.Test.YtonngfogbnfbnaaGreatSoSZ8
import Derived.Test.YtonngfogbnfbnaaGreatHatS
import Derived.ChangeKeysEq
import Derived.OwnWalk
import Derived.Deep.LoopGhost
import Derived.Test.YtonngfogbnfbnaaGreatSoCZ8

/- Triangles' corners compared. -/
namespace Go.Proofs.YtonngfogbnfbnaaGreat
open Go.RowKit
set_option linter.unusedVariables false

set_option maxHeartbeats 4000000 in
theorem t_corners (w : World) (a1 a2 a3 a4 a5 a6 a7 a8 a9 b1 b2 b3 b4 b5 b6 b7 b8 b9 : Int) : (Op.equalIn 9999 33 (.agg #[.int .i64 a1, .int .i64 a2, .int .i64 a3, .int .i64 a4, .int .i64 a5, .int .i64 a6, .int .i64 a7, .int .i64 a8, .int .i64 a9]) (.agg #[.int .i64 b1, .int .i64 b2, .int .i64 b3, .int .i64 b4, .int .i64 b5, .int .i64 b6, .int .i64 b7, .int .i64 b8, .int .i64 b9])).run Tryz.prog w
    = .ok (a1 == b1 && a2 == b2 && a3 == b3 && a4 == b4 && a5 == b5 && a6 == b6 && a7 == b7 && a8 == b8 && a9 == b9) w := by
  obtain ⟨i, hi, -⟩ := info_parts (show (Tryz.prog.info? 32).map (fun i => (i.zero, i.size, i.bytes)) = some (some (.agg #[.int .i64 0, .int .i64 0, .int .i64 0]), 3, 24) from by kernel_rfl)
  rw [show (9999 : Nat) = 9998 + 1 from rfl, run_equalIn_array w 9998 _ _ Tryz.underlying33 hi, show List.range 3 = [0, 1, 2] from rfl, show Tryz.prog.cellsOf 32 = 3 from by kernel_rfl]
  clear hi
  simp only [Op.eqItems]
  cases h1 : (a1 == b1)
  · go_simp
  · cases h2 : (a2 == b2)
    · go_simp
    · cases h3 : (a3 == b3)
      · go_simp
      · cases h4 : (a4 == b4)
        · go_simp
        · cases h5 : (a5 == b5)
          · go_simp
          · cases h6 : (a6 == b6)
            · go_simp
            · cases h7 : (a7 == b7)
              · go_simp
              · cases h8 : (a8 == b8)
                · go_simp
                · cases h9 : (a9 == b9)
                  · go_simp
                  · go_simp

end Go.Proofs.YtonngfogbnfbnaaGreat

/- The library's Equal, of slices of a kind. -/
namespace Go.Proofs.YtonngfogbnfbnaaGreat
open Go.RowKit
set_option linter.unusedVariables false

def HopR.allEq : List HopR → List HopR → Bool
  | [], [] => true
  | a :: l, b :: m => a.eqB b && HopR.allEq l m
  | _, _ => false
theorem HopR.allEq_iff : ∀ l m : List HopR, HopR.allEq l m = true ↔ l = m
  | [], [] => by simp [HopR.allEq]
  | [], _ :: _ => by simp [HopR.allEq]
  | _ :: _, [] => by simp [HopR.allEq]
  | a :: l, b :: m => by simp [HopR.allEq, HopR.eqB_iff, HopR.allEq_iff l m]

set_option maxHeartbeats 4000000 in
theorem h_neq (w : World) (a b : HopR) : (binOp .neq 45 (.agg #[.int .i64 a.i, .int .i64 a.fx, .int .i64 a.fz, .int .i64 a.fy, .int .i64 a.tx, .int .i64 a.tz, .int .i64 a.ty, .bool a.bo, .int .i64 a.ar, .int .i64 a.co]) (.agg #[.int .i64 b.i, .int .i64 b.fx, .int .i64 b.fz, .int .i64 b.fy, .int .i64 b.tx, .int .i64 b.tz, .int .i64 b.ty, .bool b.bo, .int .i64 b.ar, .int .i64 b.co])).run Tryz.prog w = .ok (.bool (!a.eqB b)) w := by
  obtain ⟨a0, a1, a2, a3, a4, a5, a6, a7, a8, a9⟩ := a
  obtain ⟨b0, b1, b2, b3, b4, b5, b6, b7, b8, b9⟩ := b
  unfold HopR.eqB
  cases h0 : (a0 == b0)
  · go_simp
  · skip
    cases h1 : (a1 == b1)
    · go_simp
    · skip
      cases h2 : (a2 == b2)
      · go_simp
      · skip
        cases h3 : (a3 == b3)
        · go_simp
        · skip
          cases h4 : (a4 == b4)
          · go_simp
          · skip
            cases h5 : (a5 == b5)
            · go_simp
            · skip
              cases h6 : (a6 == b6)
              · go_simp
              · skip
                cases h7 : (a7 == b7)
                · go_simp
                · skip
                  cases h8 : (a8 == b8)
                  · go_simp
                  · skip
                    cases h9 : (a9 == b9)
                    · go_simp
                    · go_simp

set_option maxHeartbeats 4000000 in
set_option maxRecDepth 100000 in
theorem h_equal (a0 b0 : Option Addr) (l m : List HopR) (c d : Nat) (hl : l.length ≤ 1000) (hm : m.length ≤ 1000) (w : World) (H : RowIn HopR.enc 10 w a0 l) (G : RowIn HopR.enc 10 w b0 m) :
    Calls Tryz.prog 46 #[.slice a0 l.length c, .slice b0 m.length d] w fun e w' => e = .returned (.bool (HopR.allEq l m)) ∧ New w w' := by
  have HH := Lib.hid H
  have HG := Lib.hid G
  clear H G
  by_cases hlm : l.length = m.length
  rotate_left
  · have hd : ((l.length : Int) != (m.length : Int)) = true := by simpa using fun h => hlm (by omega)
    have hr : HopR.allEq l m = false := by
      cases h : HopR.allEq l m with
      | false => rfl
      | true => exact absurd (by rw [(HopR.allEq_iff l m).1 h]) hlm
    have HR := Lib.hid hr
    clear hlm hr
    go_enter Tryz.func46, Tryz.ntmps46
    go_wp2_with fail
    go_ret
    rw [HR.out]
    exact ⟨rfl, New.refl _⟩
  have hd : ((l.length : Int) != (m.length : Int)) = false := by simp; omega
  have HLM := Lib.hid hlm
  clear hlm
  have hlm1 : l.length ≤ m.length := by rw [HLM.out]; omega
  have hlm2 : m.length ≤ l.length := by rw [HLM.out]; omega
  go_enter Tryz.func46, Tryz.ntmps46
  go_wp2_with fail
  clear hd
  go_loopg [13] l.length (fun k s wr => ∃ i : Nat, s = .int .i64 i ∧ i + k = l.length ∧ l.take i = m.take i ∧ New w wr)
  case atStart => exact ⟨0, by simp, by omega, by simp, New.refl _⟩
  case round =>
    obtain ⟨i, rfl, hik, hall, hn⟩ := hrel
    have HA := Lib.hid hall
    clear hall
    by_cases hlt : i < l.length
    · obtain ⟨b, off, rfl, hA⟩ := HH.out (by omega)
      obtain ⟨b', off', rfl, hA2⟩ := HG.out (by omega)
      have hA' := hA.keep hn
      have hA2' := hA2.keep hn
      obtain ⟨c0, c1, c2, c3, c4, c5, c6, c7, c8, c9⟩ := HopR.cells hA' i hlt
      obtain ⟨d0, d1, d2, d3, d4, d5, d6, d7, d8, d9⟩ := HopR.cells hA2' i (by omega)
      have hq := fun W => h_neq W l[i] (m[i]'(by omega))
      clear hA hA' hA2 hA2'
      cases he : l[i].eqB (m[i]'(by omega))
      · rw [he] at hq
        have HNO : Hid (HopR.allEq l m = false) := by
          show _ = false
          cases h : HopR.allEq l m with
          | false => rfl
          | true =>
            have h1 := (HopR.allEq_iff l m).1 h
            subst h1
            rw [(HopR.eqB_iff _ _).2 rfl] at he
            cases he
        clear he
        go_wp2_with fail
        (refine wp_region_hat (by kernel_rfl) (by kernel_rfl) ?_; intro hatc hatf; (repeat (go_big_quiet_step ((fail)))); refine wpQuiet_nil ?_; rintro _ ⟨x, rfl⟩)
        go_wp2_with fail
        go_ret
        rw [HNO.out]
        exact ⟨rfl, hn.hat x⟩
      · rw [he] at hq
        have HE := Lib.hid ((HopR.eqB_iff _ _).1 he)
        clear he
        go_wp2_with fail
        (refine wp_region_hat (by kernel_rfl) (by kernel_rfl) ?_; intro hatc hatf; (repeat (go_big_quiet_step ((fail)))); refine wpQuiet_nil ?_; rintro _ ⟨x, rfl⟩)
        go_wp2_with fail
        go_roundg (gk - 1)
        case measure => omega
        case rel => exact ⟨i + 1, by go_num, by omega, by rw [List.take_succ_eq_append_getElem hlt, List.take_succ_eq_append_getElem (show i < m.length by omega), HA.out, HE.out], hn.hat x⟩
    · have hr : HopR.allEq l m = true := (HopR.allEq_iff l m).2 (by
        have := HA.out
        rwa [List.take_of_length_le (by omega), List.take_of_length_le (by omega)] at this)
      have HR := Lib.hid hr
      clear hr
      go_wp2_with fail
      go_ret
      rw [HR.out]
      exact ⟨rfl, hn⟩

end Go.Proofs.YtonngfogbnfbnaaGreat

/- The library's Equal, of slices of a kind. -/
namespace Go.Proofs.YtonngfogbnfbnaaGreat
open Go.RowKit
set_option linter.unusedVariables false

def BoxR.allEq : List BoxR → List BoxR → Bool
  | [], [] => true
  | a :: l, b :: m => a.eqB b && BoxR.allEq l m
  | _, _ => false
theorem BoxR.allEq_iff : ∀ l m : List BoxR, BoxR.allEq l m = true ↔ l = m
  | [], [] => by simp [BoxR.allEq]
  | [], _ :: _ => by simp [BoxR.allEq]
  | _ :: _, [] => by simp [BoxR.allEq]
  | a :: l, b :: m => by simp [BoxR.allEq, BoxR.eqB_iff, BoxR.allEq_iff l m]

set_option maxHeartbeats 4000000 in
theorem b_neq (w : World) (a b : BoxR) : (binOp .neq 39 (.agg #[.int .i64 a.i, .int .i64 a.x0, .int .i64 a.z0, .int .i64 a.x1, .int .i64 a.z1, .int .i64 a.y0, .int .i64 a.y1, .int .i64 a.ar]) (.agg #[.int .i64 b.i, .int .i64 b.x0, .int .i64 b.z0, .int .i64 b.x1, .int .i64 b.z1, .int .i64 b.y0, .int .i64 b.y1, .int .i64 b.ar])).run Tryz.prog w = .ok (.bool (!a.eqB b)) w := by
  obtain ⟨a0, a1, a2, a3, a4, a5, a6, a7⟩ := a
  obtain ⟨b0, b1, b2, b3, b4, b5, b6, b7⟩ := b
  unfold BoxR.eqB
  cases h0 : (a0 == b0)
  · go_simp
  · skip
    cases h1 : (a1 == b1)
    · go_simp
    · skip
      cases h2 : (a2 == b2)
      · go_simp
      · skip
        cases h3 : (a3 == b3)
        · go_simp
        · skip
          cases h4 : (a4 == b4)
          · go_simp
          · skip
            cases h5 : (a5 == b5)
            · go_simp
            · skip
              cases h6 : (a6 == b6)
              · go_simp
              · skip
                cases h7 : (a7 == b7)
                · go_simp
                · go_simp

set_option maxHeartbeats 4000000 in
set_option maxRecDepth 100000 in
theorem b_equal (a0 b0 : Option Addr) (l m : List BoxR) (c d : Nat) (hl : l.length ≤ 1000) (hm : m.length ≤ 1000) (w : World) (H : RowIn BoxR.enc 8 w a0 l) (G : RowIn BoxR.enc 8 w b0 m) :
    Calls Tryz.prog 45 #[.slice a0 l.length c, .slice b0 m.length d] w fun e w' => e = .returned (.bool (BoxR.allEq l m)) ∧ New w w' := by
  have HH := Lib.hid H
  have HG := Lib.hid G
  clear H G
  by_cases hlm : l.length = m.length
  rotate_left
  · have hd : ((l.length : Int) != (m.length : Int)) = true := by simpa using fun h => hlm (by omega)
    have hr : BoxR.allEq l m = false := by
      cases h : BoxR.allEq l m with
      | false => rfl
      | true => exact absurd (by rw [(BoxR.allEq_iff l m).1 h]) hlm
    have HR := Lib.hid hr
    clear hlm hr
    go_enter Tryz.func45, Tryz.ntmps45
    go_wp2_with fail
    go_ret
    rw [HR.out]
    exact ⟨rfl, New.refl _⟩
  have hd : ((l.length : Int) != (m.length : Int)) = false := by simp; omega
  have HLM := Lib.hid hlm
  clear hlm
  have hlm1 : l.length ≤ m.length := by rw [HLM.out]; omega
  have hlm2 : m.length ≤ l.length := by rw [HLM.out]; omega
  go_enter Tryz.func45, Tryz.ntmps45
  go_wp2_with fail
  clear hd
  go_loopg [13] l.length (fun k s wr => ∃ i : Nat, s = .int .i64 i ∧ i + k = l.length ∧ l.take i = m.take i ∧ New w wr)
  case atStart => exact ⟨0, by simp, by omega, by simp, New.refl _⟩
  case round =>
    obtain ⟨i, rfl, hik, hall, hn⟩ := hrel
    have HA := Lib.hid hall
    clear hall
    by_cases hlt : i < l.length
    · obtain ⟨b, off, rfl, hA⟩ := HH.out (by omega)
      obtain ⟨b', off', rfl, hA2⟩ := HG.out (by omega)
      have hA' := hA.keep hn
      have hA2' := hA2.keep hn
      obtain ⟨c0, c1, c2, c3, c4, c5, c6, c7⟩ := BoxR.cells hA' i hlt
      obtain ⟨d0, d1, d2, d3, d4, d5, d6, d7⟩ := BoxR.cells hA2' i (by omega)
      have hq := fun W => b_neq W l[i] (m[i]'(by omega))
      clear hA hA' hA2 hA2'
      cases he : l[i].eqB (m[i]'(by omega))
      · rw [he] at hq
        have HNO : Hid (BoxR.allEq l m = false) := by
          show _ = false
          cases h : BoxR.allEq l m with
          | false => rfl
          | true =>
            have h1 := (BoxR.allEq_iff l m).1 h
            subst h1
            rw [(BoxR.eqB_iff _ _).2 rfl] at he
            cases he
        clear he
        go_wp2_with fail
        (refine wp_region_hat (by kernel_rfl) (by kernel_rfl) ?_; intro hatc hatf; (repeat (go_big_quiet_step ((fail)))); refine wpQuiet_nil ?_; rintro _ ⟨x, rfl⟩)
        go_wp2_with fail
        go_ret
        rw [HNO.out]
        exact ⟨rfl, hn.hat x⟩
      · rw [he] at hq
        have HE := Lib.hid ((BoxR.eqB_iff _ _).1 he)
        clear he
        go_wp2_with fail
        (refine wp_region_hat (by kernel_rfl) (by kernel_rfl) ?_; intro hatc hatf; (repeat (go_big_quiet_step ((fail)))); refine wpQuiet_nil ?_; rintro _ ⟨x, rfl⟩)
        go_wp2_with fail
        go_roundg (gk - 1)
        case measure => omega
        case rel => exact ⟨i + 1, by go_num, by omega, by rw [List.take_succ_eq_append_getElem hlt, List.take_succ_eq_append_getElem (show i < m.length by omega), HA.out, HE.out], hn.hat x⟩
    · have hr : BoxR.allEq l m = true := (BoxR.allEq_iff l m).2 (by
        have := HA.out
        rwa [List.take_of_length_le (by omega), List.take_of_length_le (by omega)] at this)
      have HR := Lib.hid hr
      clear hr
      go_wp2_with fail
      go_ret
      rw [HR.out]
      exact ⟨rfl, hn⟩

end Go.Proofs.YtonngfogbnfbnaaGreat

/- The library's Equal, of slices of a kind. -/
namespace Go.Proofs.YtonngfogbnfbnaaGreat
open Go.RowKit
set_option linter.unusedVariables false

def TriR.allEq : List TriR → List TriR → Bool
  | [], [] => true
  | a :: l, b :: m => a.eqB b && TriR.allEq l m
  | _, _ => false
theorem TriR.allEq_iff : ∀ l m : List TriR, TriR.allEq l m = true ↔ l = m
  | [], [] => by simp [TriR.allEq]
  | [], _ :: _ => by simp [TriR.allEq]
  | _ :: _, [] => by simp [TriR.allEq]
  | a :: l, b :: m => by simp [TriR.allEq, TriR.eqB_iff, TriR.allEq_iff l m]

set_option maxHeartbeats 4000000 in
theorem t_neq (w : World) (a b : TriR) : (binOp .neq 35 (.agg #[.int .i64 a.i, .int .i64 a.x0, .int .i64 a.y0, .int .i64 a.z0, .int .i64 a.x1, .int .i64 a.y1, .int .i64 a.z1, .int .i64 a.x2, .int .i64 a.y2, .int .i64 a.z2]) (.agg #[.int .i64 b.i, .int .i64 b.x0, .int .i64 b.y0, .int .i64 b.z0, .int .i64 b.x1, .int .i64 b.y1, .int .i64 b.z1, .int .i64 b.x2, .int .i64 b.y2, .int .i64 b.z2])).run Tryz.prog w = .ok (.bool (!a.eqB b)) w := by
  obtain ⟨a0, a1, a2, a3, a4, a5, a6, a7, a8, a9⟩ := a
  obtain ⟨b0, b1, b2, b3, b4, b5, b6, b7, b8, b9⟩ := b
  have hV := t_corners w a1 a2 a3 a4 a5 a6 a7 a8 a9 b1 b2 b3 b4 b5 b6 b7 b8 b9
  unfold TriR.eqB
  simp only [Bool.and_assoc] at hV ⊢
  generalize (a1 == b1 && (a2 == b2 && (a3 == b3 && (a4 == b4 && (a5 == b5 && (a6 == b6 && (a7 == b7 && (a8 == b8 && a9 == b9)))))))) = v at *
  cases h0 : (a0 == b0)
  · go_simp
  · cases v
    · go_simp
    · go_simp

set_option maxHeartbeats 4000000 in
set_option maxRecDepth 100000 in
theorem t_equal (a0 b0 : Option Addr) (l m : List TriR) (c d : Nat) (hl : l.length ≤ 1000) (hm : m.length ≤ 1000) (w : World) (H : RowIn TriR.enc 10 w a0 l) (G : RowIn TriR.enc 10 w b0 m) :
    Calls Tryz.prog 44 #[.slice a0 l.length c, .slice b0 m.length d] w fun e w' => e = .returned (.bool (TriR.allEq l m)) ∧ New w w' := by
  have HH := Lib.hid H
  have HG := Lib.hid G
  clear H G
  by_cases hlm : l.length = m.length
  rotate_left
  · have hd : ((l.length : Int) != (m.length : Int)) = true := by simpa using fun h => hlm (by omega)
    have hr : TriR.allEq l m = false := by
      cases h : TriR.allEq l m with
      | false => rfl
      | true => exact absurd (by rw [(TriR.allEq_iff l m).1 h]) hlm
    have HR := Lib.hid hr
    clear hlm hr
    go_enter Tryz.func44, Tryz.ntmps44
    go_wp2_with fail
    go_ret
    rw [HR.out]
    exact ⟨rfl, New.refl _⟩
  have hd : ((l.length : Int) != (m.length : Int)) = false := by simp; omega
  have HLM := Lib.hid hlm
  clear hlm
  have hlm1 : l.length ≤ m.length := by rw [HLM.out]; omega
  have hlm2 : m.length ≤ l.length := by rw [HLM.out]; omega
  go_enter Tryz.func44, Tryz.ntmps44
  go_wp2_with fail
  clear hd
  go_loopg [13] l.length (fun k s wr => ∃ i : Nat, s = .int .i64 i ∧ i + k = l.length ∧ l.take i = m.take i ∧ New w wr)
  case atStart => exact ⟨0, by simp, by omega, by simp, New.refl _⟩
  case round =>
    obtain ⟨i, rfl, hik, hall, hn⟩ := hrel
    have HA := Lib.hid hall
    clear hall
    by_cases hlt : i < l.length
    · obtain ⟨b, off, rfl, hA⟩ := HH.out (by omega)
      obtain ⟨b', off', rfl, hA2⟩ := HG.out (by omega)
      have hA' := hA.keep hn
      have hA2' := hA2.keep hn
      obtain ⟨c0, c1, c2, c3, c4, c5, c6, c7, c8, c9⟩ := TriR.cells hA' i hlt
      obtain ⟨d0, d1, d2, d3, d4, d5, d6, d7, d8, d9⟩ := TriR.cells hA2' i (by omega)
      have hq := fun W => t_neq W l[i] (m[i]'(by omega))
      clear hA hA' hA2 hA2'
      cases he : l[i].eqB (m[i]'(by omega))
      · rw [he] at hq
        have HNO : Hid (TriR.allEq l m = false) := by
          show _ = false
          cases h : TriR.allEq l m with
          | false => rfl
          | true =>
            have h1 := (TriR.allEq_iff l m).1 h
            subst h1
            rw [(TriR.eqB_iff _ _).2 rfl] at he
            cases he
        clear he
        go_wp2_with fail
        (refine wp_region_hat (by kernel_rfl) (by kernel_rfl) ?_; intro hatc hatf; (repeat (go_big_quiet_step ((fail)))); refine wpQuiet_nil ?_; rintro _ ⟨x, rfl⟩)
        go_wp2_with fail
        go_ret
        rw [HNO.out]
        exact ⟨rfl, hn.hat x⟩
      · rw [he] at hq
        have HE := Lib.hid ((TriR.eqB_iff _ _).1 he)
        clear he
        go_wp2_with fail
        (refine wp_region_hat (by kernel_rfl) (by kernel_rfl) ?_; intro hatc hatf; (repeat (go_big_quiet_step ((fail)))); refine wpQuiet_nil ?_; rintro _ ⟨x, rfl⟩)
        go_wp2_with fail
        go_roundg (gk - 1)
        case measure => omega
        case rel => exact ⟨i + 1, by go_num, by omega, by rw [List.take_succ_eq_append_getElem hlt, List.take_succ_eq_append_getElem (show i < m.length by omega), HA.out, HE.out], hn.hat x⟩
    · have hr : TriR.allEq l m = true := (TriR.allEq_iff l m).2 (by
        have := HA.out
        rwa [List.take_of_length_le (by omega), List.take_of_length_le (by omega)] at this)
      have HR := Lib.hid hr
      clear hr
      go_wp2_with fail
      go_ret
      rw [HR.out]
      exact ⟨rfl, hn⟩

end Go.Proofs.YtonngfogbnfbnaaGreat

/- Package soup: Same; what the laws make for themselves. -/
namespace Go.Proofs.YtonngfogbnfbnaaGreat
open Go.RowKit
set_option linter.unusedVariables false

def sameS (S T : SoupV) : Bool := TriR.allEq S.ts T.ts && BoxR.allEq S.bs T.bs && HopR.allEq S.hs T.hs
theorem sameS_iff {S T : SoupV} : sameS S T = true ↔ S.ts = T.ts ∧ S.bs = T.bs ∧ S.hs = T.hs := by
  unfold sameS
  rw [Bool.and_eq_true, Bool.and_eq_true, TriR.allEq_iff, BoxR.allEq_iff, HopR.allEq_iff, and_assoc]
structure SoupV.few (S : SoupV) : Prop where
  t : S.ts.length ≤ 900
  b : S.bs.length ≤ 900
  h : S.hs.length ≤ 900

set_option maxHeartbeats 4000000 in
set_option maxRecDepth 100000 in
theorem s_same (S T : SoupV) (w : World) (hS : S.ok w) (hT : T.ok w) (fS : S.few) (fT : T.few) :
    Calls Tryz.prog 17 #[.agg #[.slice S.a0 S.ts.length S.c0, .slice S.a1 S.bs.length S.c1, .slice S.a2 S.hs.length S.c2], .agg #[.slice T.a0 T.ts.length T.c0, .slice T.a1 T.bs.length T.c1, .slice T.a2 T.hs.length T.c2]] w fun e w' => e = .returned (.bool (sameS S T)) ∧ New w w' := by
  have f1 := fS.t
  have f2 := fS.b
  have f3 := fS.h
  have g1 := fT.t
  have g2 := fT.b
  have g3 := fT.h
  have K1 := Lib.hid (fun W (n : New w W) => t_equal S.a0 T.a0 S.ts T.ts S.c0 T.c0 (by omega) (by omega) W (hS.t.row.2.2.2.2.keep n) (hT.t.row.2.2.2.2.keep n))
  have K2 := Lib.hid (fun W (n : New w W) => b_equal S.a1 T.a1 S.bs T.bs S.c1 T.c1 (by omega) (by omega) W (hS.b.row.2.2.2.2.keep n) (hT.b.row.2.2.2.2.keep n))
  have K3 := Lib.hid (fun W (n : New w W) => h_equal S.a2 T.a2 S.hs T.hs S.c2 T.c2 (by omega) (by omega) W (hS.h.row.2.2.2.2.keep n) (hT.h.row.2.2.2.2.keep n))
  obtain ⟨v, hv⟩ : ∃ v, v = sameS S T := ⟨_, rfl⟩
  rw [← hv]
  unfold sameS at hv
  have HV := Lib.hid hv
  generalize TriR.allEq S.ts T.ts = x at *
  generalize BoxR.allEq S.bs T.bs = y at *
  generalize HopR.allEq S.hs T.hs = z at *
  clear hv hS hT fS fT f1 f2 f3 g1 g2 g3
  go_enter Tryz.func17, Tryz.ntmps17
  go_wp2_with fail
  generalize hW : World.alloc _ _ = W
  have hn : New w W := by subst hW; (repeat (first | (with_reducible exact New.refl _) | (with_reducible assumption) | ((with_reducible refine New.setB ?_ ?_ _); focus (first | omega | (simp; omega) | (simp; done))) | (with_reducible refine New.alloc ?_ _) | (with_reducible refine New.drew ?_) | (with_reducible refine New.drewN ?_ _) | (with_reducible refine New.hat ?_ _) | ((with_reducible apply New.snart); (with_reducible assumption))))
  have p1 : W.cell? ⟨w.heap.size, 1, none⟩ = some (.slice S.a1 S.bs.length S.c1) := by subst hW; go_simp
  have p2 : W.cell? ⟨w.heap.size, 2, none⟩ = some (.slice S.a2 S.hs.length S.c2) := by subst hW; go_simp
  have q1 : W.cell? ⟨w.heap.size + 1, 1, none⟩ = some (.slice T.a1 T.bs.length T.c1) := by subst hW; go_simp
  have q2 : W.cell? ⟨w.heap.size + 1, 2, none⟩ = some (.slice T.a2 T.hs.length T.c2) := by subst hW; go_simp
  clear hW
  refine (K1.out _ hn).mono ?_
  rintro e W1 ⟨rfl, n1⟩
  replace hn := hn.trans n1
  replace p1 := n1.keep p1
  replace p2 := n1.keep p2
  replace q1 := n1.keep q1
  replace q2 := n1.keep q2
  clear n1 K1
  cases x
  · have HF : Hid (v = false) := by show v = false; rw [HV.out]; rfl
    go_wp2_with fail
    go_ret
    exact ⟨retBo HF.out.symm, hn⟩
  go_wp2_with fail
  refine (K2.out _ hn).mono ?_
  rintro e W2 ⟨rfl, n1⟩
  replace hn := hn.trans n1
  replace p2 := n1.keep p2
  replace q2 := n1.keep q2
  clear n1 K2
  cases y
  · have HF : Hid (v = false) := by show v = false; rw [HV.out]; rfl
    go_wp2_with fail
    go_ret
    exact ⟨retBo HF.out.symm, hn⟩
  go_wp2_with fail
  refine (K3.out _ hn).mono ?_
  rintro e W3 ⟨rfl, n1⟩
  replace hn := hn.trans n1
  clear n1 K3
  have HF : Hid (v = z) := by show v = z; rw [HV.out]; rfl
  go_wp2_with fail
  go_ret
  exact ⟨retBo HF.out.symm, hn⟩

def SoupV.great (S : SoupV) : Bool := decide (220 < S.ts.length) || decide (20 < S.bs.length) || decide (20 < S.hs.length)
theorem SoupV.few_of {S : SoupV} (h : S.great = false) : S.few := by
  simp only [SoupV.great, Bool.or_eq_false_iff, decide_eq_false_iff_not] at h
  exact ⟨by omega, by omega, by omega⟩

set_option maxHeartbeats 2000000 in
theorem s_great (S : SoupV) (w : World) (hS : S.ok w) : Calls Tryz.prog 4 #[.agg #[.slice S.a0 S.ts.length S.c0, .slice S.a1 S.bs.length S.c1, .slice S.a2 S.hs.length S.c2]] w fun e w' => e = .returned (.bool S.great) ∧ New w w' := by
  have h1 := hS.t.row.2.1
  have h2 := hS.b.row.2.1
  have h3 := hS.h.row.2.1
  have m1 := hS.t.row.2.2.1
  have m2 := hS.b.row.2.2.1
  have m3 := hS.h.row.2.2.1
  unfold maxLen at m1 m2 m3
  obtain ⟨v, hv⟩ : ∃ v, v = S.great := ⟨_, rfl⟩
  rw [← hv]
  have HV : Hid (v = (decide ((220 : Int) < (S.ts.length : Int)) || decide ((20 : Int) < (S.bs.length : Int)) || decide ((20 : Int) < (S.hs.length : Int)))) := by
    show v = _
    rw [hv]
    unfold SoupV.great
    rw [Bool.eq_iff_iff]
    simp only [Bool.or_eq_true, decide_eq_true_eq]
    omega
  clear hv hS
  generalize S.ts.length = a at *
  generalize S.bs.length = b at *
  generalize S.hs.length = c at *
  cases e1 : decide ((220 : Int) < (a : Int)) <;> cases e2 : decide ((20 : Int) < (b : Int)) <;> cases e3 : decide ((20 : Int) < (c : Int))
  all_goals
    rw [e1, e2, e3] at HV
    go_enter Tryz.func4, Tryz.ntmps4
    go_wp2_with fail
    go_ret
    exact ⟨retBo HV.out.symm, by (repeat (first | (with_reducible exact New.refl _) | (with_reducible assumption) | ((with_reducible refine New.setB ?_ ?_ _); focus (first | omega | (simp; omega) | (simp; done))) | (with_reducible refine New.alloc ?_ _) | (with_reducible refine New.drew ?_) | (with_reducible refine New.drewN ?_ _) | (with_reducible refine New.hat ?_ _) | ((with_reducible apply New.snart); (with_reducible assumption))))⟩

def cfg0 : CfgR := ⟨0, 1, 3, 1, 1, 8, 8⟩
def one0 (i : Int) : TriR := ⟨i, 0, 0, 0, 2, 0, 0, 0, 0, 2⟩
set_option maxHeartbeats 2000000 in
theorem s_config (w : World) : Calls Tryz.prog 19 #[] w fun e w' => e = .returned (.agg #[.int .i64 0, .int .i64 1, .int .i64 3, .int .i64 1, .int .i64 1, .int .i64 8, .int .i64 8]) ∧ New w w' := by
  go_enter Tryz.func19, Tryz.ntmps19
  go_wp2_with fail
  refine bodyPost_ret (v := .agg #[.int .i64 0, .int .i64 1, .int .i64 3, .int .i64 1, .int .i64 1, .int .i64 8, .int .i64 8]) (by simp [results, Tryz.results19, go_sem]) rfl ⟨rfl, by (repeat (first | (with_reducible exact New.refl _) | (with_reducible assumption) | ((with_reducible refine New.setB ?_ ?_ _); focus (first | omega | (simp; omega) | (simp; done))) | (with_reducible refine New.alloc ?_ _) | (with_reducible refine New.drew ?_) | (with_reducible refine New.drewN ?_ _) | (with_reducible refine New.hat ?_ _) | ((with_reducible apply New.snart); (with_reducible assumption))))⟩
set_option maxHeartbeats 2000000 in
theorem s_one (i : Int) (w : World) : Calls Tryz.prog 20 #[.int .i64 i] w fun e w' => e = .returned (.agg #[.int .i64 i, .int .i64 0, .int .i64 0, .int .i64 0, .int .i64 2, .int .i64 0, .int .i64 0, .int .i64 0, .int .i64 0, .int .i64 2]) ∧ New w w' := by
  go_enter Tryz.func20, Tryz.ntmps20
  go_wp2_with fail
  refine bodyPost_ret (v := .agg #[.int .i64 i, .int .i64 0, .int .i64 0, .int .i64 0, .int .i64 2, .int .i64 0, .int .i64 0, .int .i64 0, .int .i64 0, .int .i64 2]) (by simp [results, Tryz.results20, go_sem]) rfl ⟨rfl, by (repeat (first | (with_reducible exact New.refl _) | (with_reducible assumption) | ((with_reducible refine New.setB ?_ ?_ _); focus (first | omega | (simp; omega) | (simp; done))) | (with_reducible refine New.alloc ?_ _) | (with_reducible refine New.drew ?_) | (with_reducible refine New.drewN ?_ _) | (with_reducible refine New.hat ?_ _) | ((with_reducible apply New.snart); (with_reducible assumption))))⟩

end Go.Proofs.YtonngfogbnfbnaaGreat
