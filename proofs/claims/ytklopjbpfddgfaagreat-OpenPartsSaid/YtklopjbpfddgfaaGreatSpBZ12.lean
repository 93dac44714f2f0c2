import Derived.Test.YtklopjbpfddgfaaGreatSpAZ12
import Derived.Test.YtklopjbpfddgfaaGreatSteadyZ12
import Derived.Deep.LoopGhost

/- Package spans: tests of pieces; the first one that is wanted. -/
namespace Go.Proofs.YtklopjbpfddgfaaGreat
open Go.RowKit
set_option linter.unusedVariables false

/-- No piece that may be. -/
def badS (p : Sn) : Bool := decide (p.lo < -2048) || decide (p.hi < p.lo) || decide (2048 < p.hi)
theorem badS_not (p : Sn) : badS p = false ↔ -2048 ≤ p.lo ∧ p.lo ≤ p.hi ∧ p.hi ≤ 2048 := by
  unfold badS
  simp only [Bool.or_eq_false_iff, decide_eq_false_iff_not]
  omega
/-- Is this height in the span? -/
def hasS (y : Int) (p : Sn) : Bool := decide (p.lo ≤ y) && decide (y ≤ p.hi)
theorem hasS_iff (y : Int) (p : Sn) : hasS y p = true ↔ p.lo ≤ y ∧ y ≤ p.hi := by unfold hasS; simp
def fstB (f : Sn → Bool) (l : List Sn) : Bool := l.any f
def fstI (f : Sn → Bool) (l : List Sn) : Int := if l.any f = true then (l.findIdx f : Int) else 0
theorem fst_hit {f : Sn → Bool} {l : List Sn} {i : Nat} (h : i < l.length) (hf : f l[i] = true) (hb : ∀ k (hk : k < l.length), k < i → f l[k] = false) : fstB f l = true ∧ fstI f l = i := by
  have h1 : l.any f = true := List.any_eq_true.2 ⟨_, List.getElem_mem h, hf⟩
  have h2 : l.findIdx f = i := (List.findIdx_eq h).2 ⟨hf, fun j hj => hb j (by omega) hj⟩
  unfold fstB fstI
  rw [h1, h2]
  simp
theorem fst_none {f : Sn → Bool} {l : List Sn} (hb : ∀ k (hk : k < l.length), f l[k] = false) : fstB f l = false ∧ fstI f l = 0 := by
  have h1 : l.any f = false := by
    rw [List.any_eq_false]
    intro x hx
    obtain ⟨i, hi, rfl⟩ := List.getElem_of_mem hx
    rw [hb i hi]; simp
  unfold fstB fstI
  rw [h1]
  simp

set_option maxHeartbeats 1000000 in
theorem k_bad (p : Sn) (w : World) : Calls Tryz.prog 78 #[.agg #[.int .i64 p.lo, .int .i64 p.hi, .bool p.wk]] w fun e w' => e = .returned (.bool (badS p)) ∧ New w w' := by
  unfold badS
  obtain ⟨a, b, c⟩ := p
  simp only
  go_enter Tryz.func78, Tryz.ntmps78
  go_wp2_with fail
  all_goals
    go_ret
    exact ⟨rfl, by (repeat (first | (with_reducible exact New.refl _) | (with_reducible assumption) | ((with_reducible refine New.setB ?_ ?_ _); focus (first | omega | (simp; omega) | (simp; done))) | (with_reducible refine New.alloc ?_ _) | (with_reducible refine New.drew ?_) | (with_reducible refine New.drewN ?_ _) | (with_reducible refine New.hat ?_ _) | ((with_reducible apply New.snart); (with_reducible assumption))))⟩

set_option maxHeartbeats 2000000 in
set_option maxRecDepth 100000 in
theorem k_firstBad (at0 : Option Addr) (l : List Sn) (c : Nat) (hl : l.length ≤ maxLen) (w : World) (H : RowIn Sn.enc 3 w at0 l) :
    Calls Tryz.prog 77 #[.slice at0 l.length c, .func (.func 78) #[] #[]] w fun e w' => e = .returned (.tuple #[.int .i64 (fstI (badS) l), .bool (fstB (badS) l)]) ∧ New w w' := by
  have HI := Lib.hid (fun x W (n : New w W) => k_bad x W)
  obtain ⟨z, hz⟩ : ∃ z, z = fstI (badS) l := ⟨_, rfl⟩
  obtain ⟨b, hb⟩ : ∃ b, b = fstB (badS) l := ⟨_, rfl⟩
  rw [← hz, ← hb]
  have HZ := Lib.hid (And.intro hz hb)
  have HH := Lib.hid H
  unfold maxLen at hl
  clear hz hb H
  go_enter Tryz.func77, Tryz.ntmps77
  go_wp2_with fail
  go_loopg [10] l.length (fun k s wr => ∃ i : Nat, s = .int .i64 i ∧ i + k = l.length ∧ Hid (∀ j (hj : j < l.length), j < i → (badS) l[j] = false) ∧ Hid (New w wr))
  case atStart => exact ⟨0, by simp, by omega, Lib.hid (fun _ _ h => absurd h (by omega)), Lib.hid (New.refl _)⟩
  case round =>
    obtain ⟨i, rfl, hik, HNO, hn⟩ := hrel
    by_cases hlt : i < l.length
    · obtain ⟨b0, off, rfl, hA⟩ := HH.out (by omega)
      have hA' := hA.keep hn.out
      obtain ⟨c0, c1, c2⟩ := Sn.cells hA' i hlt
      clear hA hA'
      cases he : (badS) l[i]
      · have HC := Lib.hid (fun W n => by have q := HI.out l[i] W n; rw [he] at q; exact q : ∀ W, New w W → Calls Tryz.prog 78 #[.agg #[.int .i64 l[i].lo, .int .i64 l[i].hi, .bool l[i].wk]] W fun e w' => e = .returned (.bool false) ∧ New W w')
        have HE := Lib.hid he
        clear he HI
        go_wp2_with fail
        refine (HC.out _ (hn.out.trans (by (repeat (first | (with_reducible exact New.refl _) | (with_reducible assumption) | ((with_reducible refine New.setB ?_ ?_ _); focus (first | omega | (simp; omega) | (simp; done))) | (with_reducible refine New.alloc ?_ _) | (with_reducible refine New.drew ?_) | (with_reducible refine New.drewN ?_ _) | (with_reducible refine New.hat ?_ _) | ((with_reducible apply New.snart); (with_reducible assumption))))))).mono ?_
        rintro e W1 ⟨rfl, n1⟩
        have n2 := Lib.hid (hn.out.trans (New.trans (by (repeat (first | (with_reducible exact New.refl _) | (with_reducible assumption) | ((with_reducible refine New.setB ?_ ?_ _); focus (first | omega | (simp; omega) | (simp; done))) | (with_reducible refine New.alloc ?_ _) | (with_reducible refine New.drew ?_) | (with_reducible refine New.drewN ?_ _) | (with_reducible refine New.hat ?_ _) | ((with_reducible apply New.snart); (with_reducible assumption))))) n1))
        clear n1
        go_wp2_with fail
        go_roundg (gk - 1)
        case measure => omega
        case rel =>
          refine ⟨i + 1, by go_num, by omega, Lib.hid (fun j hj hji => ?_), n2⟩
          by_cases h : j < i
          · exact HNO.out j hj h
          · obtain rfl : j = i := by omega
            exact HE.out
      · have HC := Lib.hid (fun W n => by have q := HI.out l[i] W n; rw [he] at q; exact q : ∀ W, New w W → Calls Tryz.prog 78 #[.agg #[.int .i64 l[i].lo, .int .i64 l[i].hi, .bool l[i].wk]] W fun e w' => e = .returned (.bool true) ∧ New W w')
        have HE : Hid (b = true ∧ z = i) := Lib.hid (by rw [HZ.out.1, HZ.out.2]; exact fst_hit hlt he (fun k hk hki => HNO.out k hk hki))
        clear he HI
        go_wp2_with fail
        refine (HC.out _ (hn.out.trans (by (repeat (first | (with_reducible exact New.refl _) | (with_reducible assumption) | ((with_reducible refine New.setB ?_ ?_ _); focus (first | omega | (simp; omega) | (simp; done))) | (with_reducible refine New.alloc ?_ _) | (with_reducible refine New.drew ?_) | (with_reducible refine New.drewN ?_ _) | (with_reducible refine New.hat ?_ _) | ((with_reducible apply New.snart); (with_reducible assumption))))))).mono ?_
        rintro e W1 ⟨rfl, n1⟩
        have n2 := Lib.hid (hn.out.trans (New.trans (by (repeat (first | (with_reducible exact New.refl _) | (with_reducible assumption) | ((with_reducible refine New.setB ?_ ?_ _); focus (first | omega | (simp; omega) | (simp; done))) | (with_reducible refine New.alloc ?_ _) | (with_reducible refine New.drew ?_) | (with_reducible refine New.drewN ?_ _) | (with_reducible refine New.hat ?_ _) | ((with_reducible apply New.snart); (with_reducible assumption))))) n1))
        clear n1
        go_wp2_with fail
        rw [HE.out.1, HE.out.2]
        refine bodyPost_ret (v := .tuple #[.int .i64 i, .bool true]) (by simp [results, Tryz.results77, go_sem, *]) rfl ?_
        exact ⟨rfl, n2.out⟩
    · have HE : Hid (b = false ∧ z = 0) := Lib.hid (by rw [HZ.out.1, HZ.out.2]; exact fst_none (fun k hk => HNO.out k hk (by omega)))
      go_wp2_with fail
      rw [HE.out.1, HE.out.2]
      refine bodyPost_ret (v := .tuple #[.int .i64 0, .bool false]) (by simp [results, Tryz.results77, go_sem, *]) rfl ?_
      exact ⟨rfl, hn.out⟩

set_option maxHeartbeats 1000000 in
theorem k_pieces (at0 : Option Addr) (l : List Sn) (c : Nat) (hl : l.length ≤ maxLen) (w : World) (H : RowIn Sn.enc 3 w at0 l) :
    Calls Tryz.prog 53 #[.slice at0 l.length c] w fun e w' => e = .returned (.bool (!fstB badS l)) ∧ New w w' := by
  have HC := Lib.hid (fun W n => k_firstBad at0 l c hl W (H.keep (n : New w W)))
  clear H hl
  generalize fstB badS l = b at *
  generalize fstI badS l = z at *
  go_enter Tryz.func53, Tryz.ntmps53
  go_wp2_with fail
  refine (HC.out _ (by (repeat (first | (with_reducible exact New.refl _) | (with_reducible assumption) | ((with_reducible refine New.setB ?_ ?_ _); focus (first | omega | (simp; omega) | (simp; done))) | (with_reducible refine New.alloc ?_ _) | (with_reducible refine New.drew ?_) | (with_reducible refine New.drewN ?_ _) | (with_reducible refine New.hat ?_ _) | ((with_reducible apply New.snart); (with_reducible assumption)))))).mono ?_
  rintro e W1 ⟨rfl, n1⟩
  have hn : New w W1 := New.trans (by (repeat (first | (with_reducible exact New.refl _) | (with_reducible assumption) | ((with_reducible refine New.setB ?_ ?_ _); focus (first | omega | (simp; omega) | (simp; done))) | (with_reducible refine New.alloc ?_ _) | (with_reducible refine New.drew ?_) | (with_reducible refine New.drewN ?_ _) | (with_reducible refine New.hat ?_ _) | ((with_reducible apply New.snart); (with_reducible assumption))))) n1
  clear n1
  go_wp2_with fail
  go_ret
  exact ⟨rfl, hn⟩

/-- May these be spans? -/
def chk : List Sn → Bool
  | [] => true
  | [p] => !badS p
  | p :: q :: l => !badS p && decide (p.hi < q.lo) && chk (q :: l)

end Go.Proofs.YtklopjbpfddgfaaGreat
