/- The contract of the document's Bounds. -/
import Derived.Test.YtgpjeijhbikjaaaGeomD
namespace Go.Proofs.Ytgpjeijhbikjaaa
open Go.RowKit
set_option linter.unusedVariables false

set_option maxHeartbeats 1000000 in
theorem rbounds_none (at0 : Option Addr) (c : Nat) (w : World) :
    Calls Try.prog 9 #[.slice at0 0 c] w fun e w' => e = .returned (bndV ⟨0, 0, 0, 0⟩ false) ∧ New w w' := by
  go_enter Try.func9, Try.ntmps9
  go_wp2_with fail
  refine bodyPost_ret (v := bndV ⟨0, 0, 0, 0⟩ false) (by simp [results, Try.results9, go_sem, bndV]) rfl ⟨rfl, ?_⟩
  (repeat (first | (with_reducible exact New.refl _) | (with_reducible assumption) | ((with_reducible refine New.setB ?_ ?_ _); focus (first | omega | (simp; omega) | (simp; done))) | (with_reducible refine New.alloc ?_ _) | (with_reducible refine New.drew ?_) | (with_reducible refine New.drewN ?_ _) | (with_reducible refine New.hat ?_ _) | ((with_reducible apply New.snart); (with_reducible assumption))))

set_option maxHeartbeats 1000000 in
theorem rbounds_some (at0 : Option Addr) (l : List (Int × Int)) (c : Nat) (w : World) (h0 : 0 < l.length) (hl : l.length ≤ maxLen) (H : PtsIn w at0 l) :
    Calls Try.prog 9 #[.slice at0 l.length c] w fun e w' => e = .returned (bndV (bndAll l) true) ∧ New w w' := by
  obtain ⟨b, off, rfl, hp⟩ := H h0
  have HP := Lib.hid hp
  unfold maxLen at hl
  have hne : ((l.length : Int) == 0) = false := by simp; intro h; simp [h] at h0
  have hlt0 : decide ((0 : Int) < (l.length : Int)) = true := by simp; omega
  have c1 := (hp 0 h0).1
  have c2 := (hp 0 h0).2
  simp only [Nat.zero_mul, Nat.add_zero] at c1 c2
  have e0 : bnd (l.drop 1) ⟨inI l[0].1, inI l[0].2, inI l[0].1, inI l[0].2⟩ = bndAll l := by
    have h1 := inI_bd l[0].1
    have h2 := inI_bd l[0].2
    unfold bndAll
    conv => rhs; rw [← List.drop_zero (l := l), drop_cons h0]
    simp only [bnd]
    congr 2 <;> omega
  have E0 := Lib.hid e0
  clear e0 hp H
  go_enter Try.func9, Try.ntmps9
  go_wp2_with fail
  refine (rin_any _ _ _).mono ?_
  rintro e W1 ⟨rfl, n1⟩
  clear c1 c2 hne hlt0
  go_wp2_with fail
  refine Code.at (fun W hW => ?_)
  obtain ⟨pb, hpb⟩ : ∃ n, W1.heap.size = n := ⟨_, rfl⟩
  simp only [hpb] at hW ⊢
  have c1 : W.cell? ⟨pb, 0, none⟩ = some (.int .i64 (inI l[0].1)) := by subst hpb; subst hW; go_simp
  have c2 : W.cell? ⟨pb, 1, none⟩ = some (.int .i64 (inI l[0].2)) := by subst hpb; subst hW; go_simp
  have g1 : W.frozen? ⟨pb, 0, none⟩ = false := by subst hpb; subst hW; go_simp
  have g2 : W.frozen? ⟨pb, 1, none⟩ = false := by subst hpb; subst hW; go_simp
  have hz : w.heap.size ≤ pb := by rw [← hpb]; exact n1.size
  have hn : New w W := by subst hpb; subst hW; (repeat (first | (with_reducible exact New.refl _) | (with_reducible assumption) | ((with_reducible refine New.setB ?_ ?_ _); focus (first | omega | (simp; omega) | (simp; done))) | (with_reducible refine New.alloc ?_ _) | (with_reducible refine New.drew ?_) | (with_reducible refine New.drewN ?_ _) | (with_reducible refine New.hat ?_ _) | ((with_reducible apply New.snart); (with_reducible assumption))))
  clear hW hpb n1
  (refine wp_region_steady 12 (by kernel_rfl) (by kernel_rfl) ?_; (intro hatc hatf; simp only [List.take_succ_cons, List.take_zero, List.drop_succ_cons, List.drop_zero]; (repeat (first | (refine mildWalk_made (by decide) ?_; simp only [Act.put, List.setIfInBounds_toArray, List.set_cons_zero, List.set_cons_succ]) | (refine mildWalk_step (by decide) (fun K hK => ?_); go_simp; first | (refine hK _ ?_; clear hK K) | (apply Exists.intro; refine ⟨fun _ => ?_, hK _ ?_⟩; (fail); clear hK K)))); refine mildWalk_nil ?_; (try simp only [List.setIfInBounds_toArray, List.set_cons_zero, List.set_cons_succ])))
  intro x
  have n1 := x.h
  ((replace g1 : World.frozen? x.w _ = _ := New.keepF (New.trans (by (repeat (first | (with_reducible exact New.refl _) | (with_reducible assumption) | ((with_reducible refine New.setB ?_ ?_ _); focus (first | omega | (simp; omega) | (simp; done))) | (with_reducible refine New.alloc ?_ _) | (with_reducible refine New.drew ?_) | (with_reducible refine New.drewN ?_ _) | (with_reducible refine New.hat ?_ _) | ((with_reducible apply New.snart); (with_reducible assumption))))) n1) c1 g1); (replace g2 : World.frozen? x.w _ = _ := New.keepF (New.trans (by (repeat (first | (with_reducible exact New.refl _) | (with_reducible assumption) | ((with_reducible refine New.setB ?_ ?_ _); focus (first | omega | (simp; omega) | (simp; done))) | (with_reducible refine New.alloc ?_ _) | (with_reducible refine New.drew ?_) | (with_reducible refine New.drewN ?_ _) | (with_reducible refine New.hat ?_ _) | ((with_reducible apply New.snart); (with_reducible assumption))))) n1) c2 g2); (replace c1 : World.cell? x.w _ = some _ := New.keep (New.trans (by (repeat (first | (with_reducible exact New.refl _) | (with_reducible assumption) | ((with_reducible refine New.setB ?_ ?_ _); focus (first | omega | (simp; omega) | (simp; done))) | (with_reducible refine New.alloc ?_ _) | (with_reducible refine New.drew ?_) | (with_reducible refine New.drewN ?_ _) | (with_reducible refine New.hat ?_ _) | ((with_reducible apply New.snart); (with_reducible assumption))))) n1) c1); (replace c2 : World.cell? x.w _ = some _ := New.keep (New.trans (by (repeat (first | (with_reducible exact New.refl _) | (with_reducible assumption) | ((with_reducible refine New.setB ?_ ?_ _); focus (first | omega | (simp; omega) | (simp; done))) | (with_reducible refine New.alloc ?_ _) | (with_reducible refine New.drew ?_) | (with_reducible refine New.drewN ?_ _) | (with_reducible refine New.hat ?_ _) | ((with_reducible apply New.snart); (with_reducible assumption))))) n1) c2); (try replace hn : New _ x.w := New.trans hn (New.trans (by (repeat (first | (with_reducible exact New.refl _) | (with_reducible assumption) | ((with_reducible refine New.setB ?_ ?_ _); focus (first | omega | (simp; omega) | (simp; done))) | (with_reducible refine New.alloc ?_ _) | (with_reducible refine New.drew ?_) | (with_reducible refine New.drewN ?_ _) | (with_reducible refine New.hat ?_ _) | ((with_reducible apply New.snart); (with_reducible assumption))))) n1)))
  clear n1 hatc hatf
  generalize x.w = V at *
  go_wp2_with fail
  go_loopg [8, 9, 10, 11, 12] (l.length - 1) (fun k p q r s i wr => ∃ (j : Nat) (bd : Bnd) (u v : Int), j + k = l.length ∧ 1 ≤ j ∧ i = .int .i64 j ∧ p = .int .i64 bd.x0 ∧ q = .int .i64 bd.z0 ∧ r = .int .i64 bd.x1 ∧ s = .int .i64 bd.z1 ∧ bnd (l.drop j) bd = bndAll l ∧ New w wr ∧ wr.cell? ⟨pb, 0, none⟩ = some (.int .i64 u) ∧ wr.cell? ⟨pb, 1, none⟩ = some (.int .i64 v) ∧ wr.frozen? ⟨pb, 0, none⟩ = false ∧ wr.frozen? ⟨pb, 1, none⟩ = false)
  case atStart => exact ⟨1, ⟨inI l[0].1, inI l[0].2, inI l[0].1, inI l[0].2⟩, _, _, by omega, by omega, rfl, rfl, rfl, rfl, rfl, E0.out, hn, c1, c2, g1, g2⟩
  case round =>
    clear E0 c1 c2 g1 g2 hn
    obtain ⟨j, bd, u, v, hj, hj1, rfl, rfl, rfl, rfl, rfl, hb, hn, c3, c4, g3, g4⟩ := hrel
    have HB := Lib.hid hb
    clear hb
    by_cases hlt : j < l.length
    · have c1 := hn.keep (HP.out j hlt).1
      have c2 := hn.keep (HP.out j hlt).2
      go_wp2_with fail
      refine (rin_any _ _ _).mono ?_
      rintro e W3 ⟨rfl, n1⟩
      ((replace g3 : World.frozen? W3 _ = _ := New.keepF (New.trans (by (repeat (first | (with_reducible exact New.refl _) | (with_reducible assumption) | ((with_reducible refine New.setB ?_ ?_ _); focus (first | omega | (simp; omega) | (simp; done))) | (with_reducible refine New.alloc ?_ _) | (with_reducible refine New.drew ?_) | (with_reducible refine New.drewN ?_ _) | (with_reducible refine New.hat ?_ _) | ((with_reducible apply New.snart); (with_reducible assumption))))) n1) c3 g3); (replace g4 : World.frozen? W3 _ = _ := New.keepF (New.trans (by (repeat (first | (with_reducible exact New.refl _) | (with_reducible assumption) | ((with_reducible refine New.setB ?_ ?_ _); focus (first | omega | (simp; omega) | (simp; done))) | (with_reducible refine New.alloc ?_ _) | (with_reducible refine New.drew ?_) | (with_reducible refine New.drewN ?_ _) | (with_reducible refine New.hat ?_ _) | ((with_reducible apply New.snart); (with_reducible assumption))))) n1) c4 g4); (replace c3 : World.cell? W3 _ = some _ := New.keep (New.trans (by (repeat (first | (with_reducible exact New.refl _) | (with_reducible assumption) | ((with_reducible refine New.setB ?_ ?_ _); focus (first | omega | (simp; omega) | (simp; done))) | (with_reducible refine New.alloc ?_ _) | (with_reducible refine New.drew ?_) | (with_reducible refine New.drewN ?_ _) | (with_reducible refine New.hat ?_ _) | ((with_reducible apply New.snart); (with_reducible assumption))))) n1) c3); (replace c4 : World.cell? W3 _ = some _ := New.keep (New.trans (by (repeat (first | (with_reducible exact New.refl _) | (with_reducible assumption) | ((with_reducible refine New.setB ?_ ?_ _); focus (first | omega | (simp; omega) | (simp; done))) | (with_reducible refine New.alloc ?_ _) | (with_reducible refine New.drew ?_) | (with_reducible refine New.drewN ?_ _) | (with_reducible refine New.hat ?_ _) | ((with_reducible apply New.snart); (with_reducible assumption))))) n1) c4); (try replace hn : New _ W3 := New.trans hn (New.trans (by (repeat (first | (with_reducible exact New.refl _) | (with_reducible assumption) | ((with_reducible refine New.setB ?_ ?_ _); focus (first | omega | (simp; omega) | (simp; done))) | (with_reducible refine New.alloc ?_ _) | (with_reducible refine New.drew ?_) | (with_reducible refine New.drewN ?_ _) | (with_reducible refine New.hat ?_ _) | ((with_reducible apply New.snart); (with_reducible assumption))))) n1)))
      clear n1 c1 c2
      go_wp2_with fail
      go_roundg (gk - 1)
      case measure => omega
      case rel => exact ⟨j + 1, ⟨min bd.x0 (inI l[j].1), min bd.z0 (inI l[j].2), max bd.x1 (inI l[j].1), max bd.z1 (inI l[j].2)⟩, inI l[j].1, inI l[j].2, by omega, by omega, by go_num, rfl, rfl, rfl, rfl, by have := HB.out; rw [drop_cons hlt] at this; exact this, by (repeat (first | (with_reducible exact New.refl _) | (with_reducible assumption) | ((with_reducible refine New.setB ?_ ?_ _); focus (first | omega | (simp; omega) | (simp; done))) | (with_reducible refine New.alloc ?_ _) | (with_reducible refine New.drew ?_) | (with_reducible refine New.drewN ?_ _) | (with_reducible refine New.hat ?_ _) | ((with_reducible apply New.snart); (with_reducible assumption)))), by go_simp, by go_simp, by go_simp, by go_simp⟩
    · have hj' : j = l.length := by omega
      have hbd : bd = bndAll l := by have := HB.out; rw [hj', List.drop_length] at this; exact this
      have hlt' : decide ((j : Int) < (l.length : Int)) = false := by simp; omega
      subst hbd
      clear HB
      go_wp2_with fail
      refine bodyPost_ret (v := bndV (bndAll l) true) (by simp [results, Try.results9, go_sem, bndV]) rfl ⟨rfl, hn⟩

end Go.Proofs.Ytgpjeijhbikjaaa
