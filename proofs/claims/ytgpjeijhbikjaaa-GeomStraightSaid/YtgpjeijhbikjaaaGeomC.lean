/- The contract of Bounds of package geom. -/
import Derived.Test.YtgpjeijhbikjaaaGeomB
import Derived.Test.YtgpjeijhbikjaaaPts
import Derived.Deep.LoopGhost
namespace Go.Proofs.Ytgpjeijhbikjaaa
open Go.RowKit
set_option linter.unusedVariables false

structure Bnd where
  x0 : Int
  z0 : Int
  x1 : Int
  z1 : Int

def bnd : List (Int × Int) → Bnd → Bnd
  | [], b => b
  | p :: l, b => bnd l ⟨min b.x0 (inI p.1), min b.z0 (inI p.2), max b.x1 (inI p.1), max b.z1 (inI p.2)⟩
def bndAll (l : List (Int × Int)) : Bnd := bnd l ⟨1048576, 1048576, -1048576, -1048576⟩
def bndV (b : Bnd) (ok : Bool) : Value := .tuple #[.int .i64 b.x0, .int .i64 b.z0, .int .i64 b.x1, .int .i64 b.z1, .bool ok]

set_option maxHeartbeats 1000000 in
theorem gbounds_none (at0 : Option Addr) (c : Nat) (w : World) :
    Calls Try.prog 8 #[.slice at0 0 c] w fun e w' => e = .returned (bndV ⟨0, 0, 0, 0⟩ false) ∧ New w w' := by
  go_enter Try.func8, Try.ntmps8
  go_wp2_with fail
  refine bodyPost_ret (v := bndV ⟨0, 0, 0, 0⟩ false) (by simp [results, Try.results8, go_sem, bndV]) rfl ⟨rfl, ?_⟩
  (repeat (first | (with_reducible exact New.refl _) | (with_reducible assumption) | ((with_reducible refine New.setB ?_ ?_ _); focus (first | omega | (simp; omega) | (simp; done))) | (with_reducible refine New.alloc ?_ _) | (with_reducible refine New.drew ?_) | (with_reducible refine New.drewN ?_ _) | (with_reducible refine New.hat ?_ _) | ((with_reducible apply New.snart); (with_reducible assumption))))

set_option maxHeartbeats 1000000 in
theorem gbounds_some (at0 : Option Addr) (l : List (Int × Int)) (c : Nat) (w : World) (h0 : 0 < l.length) (hl : l.length ≤ maxLen) (H : PtsIn w at0 l) :
    Calls Try.prog 8 #[.slice at0 l.length c] w fun e w' => e = .returned (bndV (bndAll l) true) ∧ New w w' := by
  obtain ⟨b, off, rfl, hp⟩ := H h0
  have HP := Lib.hid hp
  unfold maxLen at hl
  have hne : ((l.length : Int) == 0) = false := by simp; intro h; simp [h] at h0
  clear hp H
  go_enter Try.func8, Try.ntmps8
  go_wp2_with fail
  go_loopg [2, 3, 4, 5, 14] l.length (fun k p q r s i wr => ∃ (j : Nat) (bd : Bnd), j + k = l.length ∧ i = .int .i64 j ∧ p = .int .i64 bd.x0 ∧ q = .int .i64 bd.z0 ∧ r = .int .i64 bd.x1 ∧ s = .int .i64 bd.z1 ∧ bnd (l.drop j) bd = bndAll l ∧ New w wr)
  case atStart => exact ⟨0, ⟨1048576, 1048576, -1048576, -1048576⟩, by omega, rfl, rfl, rfl, rfl, rfl, rfl, New.refl _⟩
  case round =>
    obtain ⟨j, bd, hj, rfl, rfl, rfl, rfl, rfl, hb, hn⟩ := hrel
    have HB := Lib.hid hb
    clear hb hne
    by_cases hlt : j < l.length
    · have c1 := hn.keep (HP.out j hlt).1
      have c2 := hn.keep (HP.out j hlt).2
      go_wp2_with fail
      generalize hW : World.alloc _ _ = W
      replace c1 : W.cell? ⟨wr.heap.size, 0, none⟩ = some (.int .i64 l[j].1) := by subst hW; go_simp
      replace c2 : W.cell? ⟨wr.heap.size, 1, none⟩ = some (.int .i64 l[j].2) := by subst hW; go_simp
      have g1 : W.frozen? ⟨wr.heap.size, 0, none⟩ = false := by subst hW; go_simp
      have g2 : W.frozen? ⟨wr.heap.size, 1, none⟩ = false := by subst hW; go_simp
      have hz : w.heap.size ≤ wr.heap.size := hn.size
      replace hn : New w W := by subst hW; (repeat (first | (with_reducible exact New.refl _) | (with_reducible assumption) | ((with_reducible refine New.setB ?_ ?_ _); focus (first | omega | (simp; omega) | (simp; done))) | (with_reducible refine New.alloc ?_ _) | (with_reducible refine New.drew ?_) | (with_reducible refine New.drewN ?_ _) | (with_reducible refine New.hat ?_ _) | ((with_reducible apply New.snart); (with_reducible assumption))))
      clear hW
      refine (gtame_any _ _ _).mono ?_
      rintro e W1 ⟨rfl, n1⟩
      ((replace g1 : World.frozen? W1 _ = _ := New.keepF (New.trans (by (repeat (first | (with_reducible exact New.refl _) | (with_reducible assumption) | ((with_reducible refine New.setB ?_ ?_ _); focus (first | omega | (simp; omega) | (simp; done))) | (with_reducible refine New.alloc ?_ _) | (with_reducible refine New.drew ?_) | (with_reducible refine New.drewN ?_ _) | (with_reducible refine New.hat ?_ _) | ((with_reducible apply New.snart); (with_reducible assumption))))) n1) c1 g1); (replace g2 : World.frozen? W1 _ = _ := New.keepF (New.trans (by (repeat (first | (with_reducible exact New.refl _) | (with_reducible assumption) | ((with_reducible refine New.setB ?_ ?_ _); focus (first | omega | (simp; omega) | (simp; done))) | (with_reducible refine New.alloc ?_ _) | (with_reducible refine New.drew ?_) | (with_reducible refine New.drewN ?_ _) | (with_reducible refine New.hat ?_ _) | ((with_reducible apply New.snart); (with_reducible assumption))))) n1) c2 g2); (replace c1 : World.cell? W1 _ = some _ := New.keep (New.trans (by (repeat (first | (with_reducible exact New.refl _) | (with_reducible assumption) | ((with_reducible refine New.setB ?_ ?_ _); focus (first | omega | (simp; omega) | (simp; done))) | (with_reducible refine New.alloc ?_ _) | (with_reducible refine New.drew ?_) | (with_reducible refine New.drewN ?_ _) | (with_reducible refine New.hat ?_ _) | ((with_reducible apply New.snart); (with_reducible assumption))))) n1) c1); (replace c2 : World.cell? W1 _ = some _ := New.keep (New.trans (by (repeat (first | (with_reducible exact New.refl _) | (with_reducible assumption) | ((with_reducible refine New.setB ?_ ?_ _); focus (first | omega | (simp; omega) | (simp; done))) | (with_reducible refine New.alloc ?_ _) | (with_reducible refine New.drew ?_) | (with_reducible refine New.drewN ?_ _) | (with_reducible refine New.hat ?_ _) | ((with_reducible apply New.snart); (with_reducible assumption))))) n1) c2); (try replace hn : New _ W1 := New.trans hn (New.trans (by (repeat (first | (with_reducible exact New.refl _) | (with_reducible assumption) | ((with_reducible refine New.setB ?_ ?_ _); focus (first | omega | (simp; omega) | (simp; done))) | (with_reducible refine New.alloc ?_ _) | (with_reducible refine New.drew ?_) | (with_reducible refine New.drewN ?_ _) | (with_reducible refine New.hat ?_ _) | ((with_reducible apply New.snart); (with_reducible assumption))))) n1)))
      clear n1
      go_wp2_with fail
      generalize hW : World.setCell _ _ _ = W2
      replace c1 : W2.cell? ⟨wr.heap.size, 0, none⟩ = some (.int .i64 (inI l[j].1)) := by subst hW; go_simp
      replace c2 : W2.cell? ⟨wr.heap.size, 1, none⟩ = some (.int .i64 (inI l[j].2)) := by subst hW; go_simp
      replace hn : New w W2 := by subst hW; (repeat (first | (with_reducible exact New.refl _) | (with_reducible assumption) | ((with_reducible refine New.setB ?_ ?_ _); focus (first | omega | (simp; omega) | (simp; done))) | (with_reducible refine New.alloc ?_ _) | (with_reducible refine New.drew ?_) | (with_reducible refine New.drewN ?_ _) | (with_reducible refine New.hat ?_ _) | ((with_reducible apply New.snart); (with_reducible assumption))))
      clear hW g1 g2
      (refine wp_region_steady 10 (by kernel_rfl) (by kernel_rfl) ?_; (intro hatc hatf; simp only [List.take_succ_cons, List.take_zero, List.drop_succ_cons, List.drop_zero]; (repeat (first | (refine mildWalk_made (by decide) ?_; simp only [Act.put, List.setIfInBounds_toArray, List.set_cons_zero, List.set_cons_succ]) | (refine mildWalk_step (by decide) (fun K hK => ?_); go_simp; first | (refine hK _ ?_; clear hK K) | (apply Exists.intro; refine ⟨fun _ => ?_, hK _ ?_⟩; (fail); clear hK K)))); refine mildWalk_nil ?_; (try simp only [List.setIfInBounds_toArray, List.set_cons_zero, List.set_cons_succ])))
      intro x
      replace c1 := New.keep x.h c1
      replace c2 := New.keep x.h c2
      replace hn := New.trans hn x.h
      generalize x.w = W3 at *
      clear hatc hatf
      go_wp2_with fail
      (refine wp_region_steady 10 (by kernel_rfl) (by kernel_rfl) ?_; (intro hatc hatf; simp only [List.take_succ_cons, List.take_zero, List.drop_succ_cons, List.drop_zero]; (repeat (first | (refine mildWalk_made (by decide) ?_; simp only [Act.put, List.setIfInBounds_toArray, List.set_cons_zero, List.set_cons_succ]) | (refine mildWalk_step (by decide) (fun K hK => ?_); go_simp; first | (refine hK _ ?_; clear hK K) | (apply Exists.intro; refine ⟨fun _ => ?_, hK _ ?_⟩; (fail); clear hK K)))); refine mildWalk_nil ?_; (try simp only [List.setIfInBounds_toArray, List.set_cons_zero, List.set_cons_succ])))
      intro x
      replace hn := New.trans hn x.h
      generalize x.w = W4 at *
      clear hatc hatf
      go_wp2_with fail
      go_roundg (gk - 1)
      case measure => omega
      case rel => exact ⟨j + 1, ⟨min bd.x0 (inI l[j].1), min bd.z0 (inI l[j].2), max bd.x1 (inI l[j].1), max bd.z1 (inI l[j].2)⟩, by omega, by go_num, rfl, rfl, rfl, rfl, by have := HB.out; rw [drop_cons hlt] at this; exact this, hn⟩
    · have hj' : j = l.length := by omega
      have hbd : bd = bndAll l := by have := HB.out; rw [hj', List.drop_length] at this; exact this
      have hlt' : decide ((j : Int) < (l.length : Int)) = false := by simp; omega
      subst hbd
      clear HB
      go_wp2_with fail
      refine bodyPost_ret (v := bndV (bndAll l) true) (by simp [results, Try.results8, go_sem, bndV]) rfl ⟨rfl, hn⟩

end Go.Proofs.Ytgpjeijhbikjaaa
