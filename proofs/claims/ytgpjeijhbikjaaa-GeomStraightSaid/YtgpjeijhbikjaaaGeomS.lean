/- The contract of steps of package geom. -/
import Derived.Test.YtgpjeijhbikjaaaGeomD
import Derived.Test.YtgpjeijhbikjaaaPtsW
import Derived.Test.YtgpjeijhbikjaaaPtEq
import Derived.Outline
namespace Go.Proofs.Ytgpjeijhbikjaaa
open Go.RowKit
set_option linter.unusedVariables false

theorem nil_or_snoc {α : Type} (l : List α) : l = [] ∨ ∃ i q, l = i ++ [q] := by
  rcases List.eq_nil_or_concat l with h | ⟨i, q, h⟩
  · exact Or.inl h
  · exact Or.inr ⟨i, q, by rw [h, List.concat_eq_append]⟩

def inP (p : Int × Int) : Int × Int := (inI p.1, inI p.2)

/-- The row as it grows: what has been taken, and what is to come. -/
def runSteps (acc : List (Int × Int)) : List (Int × Int) → List (Int × Int)
  | [] => acc
  | p :: l => if acc.getLast? = some (inP p) then runSteps acc l else runSteps (acc ++ [inP p]) l

theorem two_cells (w : World) (t : TypeId) (x z : Int) : ∀ j u, ([.int .i64 x, .int .i64 z] : List Value)[j]? = some u → (w.alloc (.cells #[.int .i64 x, .int .i64 z] t)).cell? ((⟨w.heap.size, 0, none⟩ : Addr).add j) = some u := by
  intro j u h
  match j with
  | 0 => simp at h; subst h; exact cell_of_heap (o := 0) (heap_new _ _) rfl
  | 1 => simp at h; subst h; exact cell_of_heap (o := 1) (heap_new _ _) rfl
  | j + 2 => simp at h
theorem two_one (x z : Int) : ∀ u ∈ ([.int .i64 x, .int .i64 z] : List Value), u.oneCell' = true := by
  intro u h
  simp at h
  rcases h with rfl | rfl <;> rfl

def StepsPost (base : Nat) (w : World) (R : List (Int × Int)) (e : Ending) (w' : World) : Prop :=
  ∃ g cap : Nat, e = .returned (.slice (some ⟨g, 0, none⟩) R.length cap) ∧ Owns w' base 23 (.slice (some ⟨g, 0, none⟩) R.length cap) R ∧ New w w'

theorem ptInfo : (Try.prog.info? 23).map (fun i => (i.zero, i.size, i.bytes)) = some (some (.agg #[.int .i64 0, .int .i64 0]), 2, 16) := by kernel_rfl

set_option maxHeartbeats 1000000 in
theorem gsteps_any (at0 : Option Addr) (l : List (Int × Int)) (c : Nat) (w : World) (hl : l.length ≤ 100) (H : PtsIn w at0 l) :
    Calls Try.prog 31 #[.slice at0 l.length c] w (StepsPost w.heap.size w (runSteps [] l)) := by
  obtain ⟨i0, hi, hz0, hz1, hz2⟩ := info_parts ptInfo
  have HP := Lib.hid H
  have HI := Lib.hid hi
  have HZ := Lib.hid hz0
  have HS := Lib.hid hz1
  have HB := Lib.hid hz2
  clear H hi hz0 hz1 hz2
  go_enter Try.func31, Try.ntmps31
  go_wp2_with (at_make; refine wpList_make_own _ rfl _ _ 24 rfl w.heap.size 23 i0 _ 2 Try.underlying24 HI.out HZ.out HS.out _ _ _ l.length rfl rfl rfl (by rw [HB.out]; omega) (by unfold maxLen; omega) (Nat.le_refl _) ?_)
  intro w1 hown hgr
  obtain ⟨g, hg⟩ : ∃ g, w.heap.size = g := ⟨_, rfl⟩
  have hn : New w w1 := New.grown (New.refl _) hgr (fun k hk => by cases hk)
  have own : Owns w1 g 23 (.slice (some ⟨g, 0, none⟩) 0 l.length) [] := by rw [← hg]; exact hown
  clear hown hgr
  rw [hg]
  have HG := Lib.hid hg
  clear hg
  go_wp2_with fail
  go_loopg [3, 11] l.length (fun k v i wr => ∃ (j : Nat) (acc : List (Int × Int)), j + k = l.length ∧ i = .int .i64 j ∧ v = .slice (some ⟨g, 0, none⟩) acc.length l.length ∧ acc.length ≤ j ∧ runSteps acc (l.drop j) = runSteps [] l ∧ Owns wr g 23 (.slice (some ⟨g, 0, none⟩) acc.length l.length) acc ∧ New w wr)
  case atStart => exact ⟨0, [], by omega, rfl, rfl, Nat.le_refl _, rfl, own, hn⟩
  case round =>
    clear own hn
    obtain ⟨j, acc, hj, rfl, rfl, hacc, hrun, own, hn⟩ := hrel
    have HR := Lib.hid hrun
    have OW := Lib.hid own
    clear hrun
    by_cases hlt : j < l.length
    · obtain ⟨b, off, rfl, hp⟩ := HP.out (by omega)
      have c1 := hn.keep (hp j hlt).1
      have c2 := hn.keep (hp j hlt).2
      have hgb : g < wr.heap.size := own.at.2.2.2.2
      clear own hp
      go_wp2_with fail
      refine Calls.at (fun W hW => ?_)
      obtain ⟨pb, hpb⟩ : ∃ n, wr.heap.size = n := ⟨_, rfl⟩
      simp only [hpb] at hW hgb ⊢
      replace c1 : W.cell? ⟨pb, 0, none⟩ = some (.int .i64 l[j].1) := by subst hpb; subst hW; go_simp
      replace c2 : W.cell? ⟨pb, 1, none⟩ = some (.int .i64 l[j].2) := by subst hpb; subst hW; go_simp
      have g1 : W.frozen? ⟨pb, 0, none⟩ = false := by subst hpb; subst hW; go_simp
      have g2 : W.frozen? ⟨pb, 1, none⟩ = false := by subst hpb; subst hW; go_simp
      have hz : w.heap.size ≤ pb := by rw [← hpb]; exact hn.size
      have n0 : New wr W := by subst hpb; subst hW; (repeat (first | (with_reducible exact New.refl _) | (with_reducible assumption) | ((with_reducible refine New.setB ?_ ?_ _); focus (first | omega | (simp; omega) | (simp; done))) | (with_reducible refine New.alloc ?_ _) | (with_reducible refine New.drew ?_) | (with_reducible refine New.drewN ?_ _) | (with_reducible refine New.hat ?_ _) | ((with_reducible apply New.snart); (with_reducible assumption))))
      clear hW hpb
      replace hn := New.trans hn n0
      have own := Owns.new OW.out n0
      clear OW n0
      refine (gtame_any _ _ _).mono ?_
      rintro e W1 ⟨rfl, n1⟩
      ((replace g1 : World.frozen? W1 _ = _ := New.keepF (New.trans (by (repeat (first | (with_reducible exact New.refl _) | (with_reducible assumption) | ((with_reducible refine New.setB ?_ ?_ _); focus (first | omega | (simp; omega) | (simp; done))) | (with_reducible refine New.alloc ?_ _) | (with_reducible refine New.drew ?_) | (with_reducible refine New.drewN ?_ _) | (with_reducible refine New.hat ?_ _) | ((with_reducible apply New.snart); (with_reducible assumption))))) n1) c1 g1); (replace g2 : World.frozen? W1 _ = _ := New.keepF (New.trans (by (repeat (first | (with_reducible exact New.refl _) | (with_reducible assumption) | ((with_reducible refine New.setB ?_ ?_ _); focus (first | omega | (simp; omega) | (simp; done))) | (with_reducible refine New.alloc ?_ _) | (with_reducible refine New.drew ?_) | (with_reducible refine New.drewN ?_ _) | (with_reducible refine New.hat ?_ _) | ((with_reducible apply New.snart); (with_reducible assumption))))) n1) c2 g2); (replace c1 : World.cell? W1 _ = some _ := New.keep (New.trans (by (repeat (first | (with_reducible exact New.refl _) | (with_reducible assumption) | ((with_reducible refine New.setB ?_ ?_ _); focus (first | omega | (simp; omega) | (simp; done))) | (with_reducible refine New.alloc ?_ _) | (with_reducible refine New.drew ?_) | (with_reducible refine New.drewN ?_ _) | (with_reducible refine New.hat ?_ _) | ((with_reducible apply New.snart); (with_reducible assumption))))) n1) c1); (replace c2 : World.cell? W1 _ = some _ := New.keep (New.trans (by (repeat (first | (with_reducible exact New.refl _) | (with_reducible assumption) | ((with_reducible refine New.setB ?_ ?_ _); focus (first | omega | (simp; omega) | (simp; done))) | (with_reducible refine New.alloc ?_ _) | (with_reducible refine New.drew ?_) | (with_reducible refine New.drewN ?_ _) | (with_reducible refine New.hat ?_ _) | ((with_reducible apply New.snart); (with_reducible assumption))))) n1) c2); (try replace hn : New _ W1 := New.trans hn (New.trans (by (repeat (first | (with_reducible exact New.refl _) | (with_reducible assumption) | ((with_reducible refine New.setB ?_ ?_ _); focus (first | omega | (simp; omega) | (simp; done))) | (with_reducible refine New.alloc ?_ _) | (with_reducible refine New.drew ?_) | (with_reducible refine New.drewN ?_ _) | (with_reducible refine New.hat ?_ _) | ((with_reducible apply New.snart); (with_reducible assumption))))) n1)))
      replace own := own.new n1
      clear n1
      go_wp2_with fail
      refine Code.at (fun W2 hW => ?_)
      replace c1 : W2.cell? ⟨pb, 0, none⟩ = some (.int .i64 (inI l[j].1)) := by subst hW; go_simp
      replace c2 : W2.cell? ⟨pb, 1, none⟩ = some (.int .i64 (inI l[j].2)) := by subst hW; go_simp
      replace hn : New w W2 := by subst hW; (repeat (first | (with_reducible exact New.refl _) | (with_reducible assumption) | ((with_reducible refine New.setB ?_ ?_ _); focus (first | omega | (simp; omega) | (simp; done))) | (with_reducible refine New.alloc ?_ _) | (with_reducible refine New.drew ?_) | (with_reducible refine New.drewN ?_ _) | (with_reducible refine New.hat ?_ _) | ((with_reducible apply New.snart); (with_reducible assumption))))
      replace own : Owns W2 g 23 (.slice (some ⟨g, 0, none⟩) acc.length l.length) acc := by
        subst hW
        exact ownsRow_setCell_other (ownsRow_setCell_other own (by simp [Value.ownBlock]; omega) _) (by simp [Value.ownBlock]; omega) _
      clear hW g1 g2
      rcases nil_or_snoc acc with rfl | ⟨init, q, rfl⟩
      · simp only [List.length_nil] at own ⊢
        have OW := Lib.hid own
        clear own
        (refine wp_region_hat (by kernel_rfl) (by kernel_rfl) ?_; intro hatc hatf; (repeat (go_big_quiet_step ((fail)))); refine wpQuiet_nil ?_; rintro _ ⟨x, rfl⟩)
        have n1 := x.h
        ((replace c1 : World.cell? x.w _ = some _ := New.keep (New.trans (by (repeat (first | (with_reducible exact New.refl _) | (with_reducible assumption) | ((with_reducible refine New.setB ?_ ?_ _); focus (first | omega | (simp; omega) | (simp; done))) | (with_reducible refine New.alloc ?_ _) | (with_reducible refine New.drew ?_) | (with_reducible refine New.drewN ?_ _) | (with_reducible refine New.hat ?_ _) | ((with_reducible apply New.snart); (with_reducible assumption))))) n1) c1); (replace c2 : World.cell? x.w _ = some _ := New.keep (New.trans (by (repeat (first | (with_reducible exact New.refl _) | (with_reducible assumption) | ((with_reducible refine New.setB ?_ ?_ _); focus (first | omega | (simp; omega) | (simp; done))) | (with_reducible refine New.alloc ?_ _) | (with_reducible refine New.drew ?_) | (with_reducible refine New.drewN ?_ _) | (with_reducible refine New.hat ?_ _) | ((with_reducible apply New.snart); (with_reducible assumption))))) n1) c2); (try replace hn : New _ x.w := New.trans hn (New.trans (by (repeat (first | (with_reducible exact New.refl _) | (with_reducible assumption) | ((with_reducible refine New.setB ?_ ?_ _); focus (first | omega | (simp; omega) | (simp; done))) | (with_reducible refine New.alloc ?_ _) | (with_reducible refine New.drew ?_) | (with_reducible refine New.drewN ?_ _) | (with_reducible refine New.hat ?_ _) | ((with_reducible apply New.snart); (with_reducible assumption))))) n1)))
        have own := Owns.new OW.out n1
        clear n1 hatc hatf OW
        generalize x.w = W5 at *
        have own1 : W5.ownsRow g 23 2 (.slice (some ⟨g, 0, none⟩) 0 l.length) 0 (ptCells []) := own
        have OW := Lib.hid own1
        clear own own1
        go_wp2_with (at_builtin; refine wpList_append_fits _ rfl _ _ 24 rfl g 23 i0 2 Try.underlying24 HI.out HS.out g _ l.length _ rfl (World.ownsRow.alloc OW.out _) ⟨W5.heap.size, 0, none⟩ 1 1 [.int .i64 (inI l[j].1), .int .i64 (inI l[j].2)] rfl rfl (two_cells _ _ _ _) (two_one _ _) (by omega) ?_)
        intro w2 own2 hgr
        have hn2 : New w w2 := New.grown (New.alloc hn _) hgr (fun k hk => by injection hk with hk; rw [← hk, HG.out]; exact Nat.le_refl _)
        clear OW hgr
        go_wp2_with fail
        go_roundg (gk - 1)
        case measure => omega
        case rel =>
          refine ⟨j + 1, ([] : List (Int × Int)) ++ [inP l[j]], by omega, by go_num, by simp, by first | (simp; done) | (simp; omega), ?_, ?_, hn2⟩
          · have := HR.out
            rw [drop_cons hlt] at this
            simpa [runSteps] using this
          · unfold Owns
            rw [ptCells_append]
            simpa [ptCells, inP] using own2
      · have pt := own.pts
        have hm : init.length < (init ++ [q]).length := by simp
        have c3 := (pt init.length hm).1
        have c4 := (pt init.length hm).2
        have e1 : (init ++ [q])[init.length] = q := by simp
        have e2 : (init ++ [q]).length = init.length + 1 := by simp
        rw [e1] at c3 c4
        simp only [Nat.zero_add] at c3 c4
        have OW := Lib.hid own
        clear own pt hm e1
        simp only [e2]
        have q3 : init.length + 1 ≤ 100 := by rw [e2] at hacc; omega
        have q1 : (((init.length + 1 : Nat) : Int) == 0) = false := by simp; omega
        have q2 : ((init.length : Int) + 1 == 0) = false := by simp; omega
        clear e2
        have PN := pt_neq
        (refine wp_region_hat (by kernel_rfl) (by kernel_rfl) ?_; intro hatc hatf; (repeat (go_big_quiet_step ((fail)))); refine wpQuiet_nil ?_; rintro _ ⟨x, rfl⟩)
        clear PN
        have n1 := x.h
        ((replace c1 : World.cell? x.w _ = some _ := New.keep (New.trans (by (repeat (first | (with_reducible exact New.refl _) | (with_reducible assumption) | ((with_reducible refine New.setB ?_ ?_ _); focus (first | omega | (simp; omega) | (simp; done))) | (with_reducible refine New.alloc ?_ _) | (with_reducible refine New.drew ?_) | (with_reducible refine New.drewN ?_ _) | (with_reducible refine New.hat ?_ _) | ((with_reducible apply New.snart); (with_reducible assumption))))) n1) c1); (replace c2 : World.cell? x.w _ = some _ := New.keep (New.trans (by (repeat (first | (with_reducible exact New.refl _) | (with_reducible assumption) | ((with_reducible refine New.setB ?_ ?_ _); focus (first | omega | (simp; omega) | (simp; done))) | (with_reducible refine New.alloc ?_ _) | (with_reducible refine New.drew ?_) | (with_reducible refine New.drewN ?_ _) | (with_reducible refine New.hat ?_ _) | ((with_reducible apply New.snart); (with_reducible assumption))))) n1) c2); (try replace hn : New _ x.w := New.trans hn (New.trans (by (repeat (first | (with_reducible exact New.refl _) | (with_reducible assumption) | ((with_reducible refine New.setB ?_ ?_ _); focus (first | omega | (simp; omega) | (simp; done))) | (with_reducible refine New.alloc ?_ _) | (with_reducible refine New.drew ?_) | (with_reducible refine New.drewN ?_ _) | (with_reducible refine New.hat ?_ _) | ((with_reducible apply New.snart); (with_reducible assumption))))) n1)))
        have own := Owns.new OW.out n1
        clear n1 hatc hatf OW c3 c4
        generalize x.w = W5 at *
        cases hq : ptEq q.1 q.2 (inI l[j].1) (inI l[j].2)
        · have e2 : (init ++ [q]).length = init.length + 1 := by simp
          have hne : ¬ q = inP l[j] := by intro h; rw [h] at hq; simp [ptEq, inP] at hq
          have own1 : W5.ownsRow g 23 2 (.slice (some ⟨g, 0, none⟩) (init.length + 1) l.length) (init.length + 1) (ptCells (init ++ [q])) := by have := own; unfold Owns at this; rw [e2] at this; exact this
          have OW := Lib.hid own1
          rw [e2] at hacc
          clear own own1 e2
          go_wp2_with (at_builtin; refine wpList_append_fits _ rfl _ _ 24 rfl g 23 i0 2 Try.underlying24 HI.out HS.out g _ l.length _ rfl (World.ownsRow.alloc OW.out _) ⟨W5.heap.size, 0, none⟩ 1 1 [.int .i64 (inI l[j].1), .int .i64 (inI l[j].2)] rfl rfl (two_cells _ _ _ _) (two_one _ _) (by omega) ?_)
          intro w2 own2 hgr
          have hn2 : New w w2 := New.grown (New.alloc hn _) hgr (fun k hk => by injection hk with hk; rw [← hk, HG.out]; exact Nat.le_refl _)
          clear OW hgr
          go_wp2_with fail
          go_roundg (gk - 1)
          case measure => omega
          case rel =>
            refine ⟨j + 1, (init ++ [q]) ++ [inP l[j]], by omega, by go_num, by simp, by first | (simp; done) | (simp; omega), ?_, ?_, hn2⟩
            · have := HR.out
              rw [drop_cons hlt] at this
              simpa [runSteps, hne] using this
            · unfold Owns
              rw [ptCells_append]
              simpa [ptCells, inP] using own2
        · go_wp2_with fail
          go_roundg (gk - 1)
          case measure => omega
          case rel =>
            refine ⟨j + 1, init ++ [q], by omega, by go_num, by simp, Nat.le_succ_of_le hacc, ?_, own, hn⟩
            have := HR.out
            rw [drop_cons hlt] at this
            have e : (init ++ [q]).getLast? = some (inP l[j]) := by
              obtain ⟨e1, e2⟩ := ptEq_iff.1 hq
              simp [inP, ← e1, ← e2]
            simpa [runSteps, e] using this
    · have hj' : j = l.length := by omega
      have hlt' : decide ((j : Int) < (l.length : Int)) = false := by simp; omega
      have hacc2 : acc = runSteps [] l := by have := HR.out; rw [hj', List.drop_length] at this; exact this
      clear own
      go_wp2_with fail
      go_ret
      refine ⟨g, l.length, ?_, ?_, hn⟩
      · rw [← hacc2]; rfl
      · rw [← hacc2, HG.out]; exact OW.out

end Go.Proofs.Ytgpjeijhbikjaaa
