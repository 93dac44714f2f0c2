/- The contract of the document's Straight. -/
import Derived.Test.YtgpjeijhbikjaaaGeomU
import Derived.Test.YtgpjeijhbikjaaaGeomG
namespace Go.Proofs.Ytgpjeijhbikjaaa
open Go.RowKit
set_option linter.unusedVariables false

/-- The document's row as it grows. -/
def runDoc (acc : List (Int × Int)) : List (Int × Int) → List (Int × Int)
  | [] => acc
  | [p] => match acc.getLast? with
    | some q => if q = inP p then acc else acc ++ [inP p]
    | none => acc ++ [inP p]
  | p :: r :: l => match acc.getLast? with
    | some q => if q = inP p then runDoc acc (r :: l) else if onP q r (inP p) = true then runDoc acc (r :: l) else runDoc (acc ++ [inP p]) (r :: l)
    | none => runDoc (acc ++ [inP p]) (r :: l)

theorem ownsNew {w w' : World} {base : Nat} {e : TypeId} {v : Value} {n : Nat} {l : List (Int × Int)} (h : w.ownsRow base e 2 v n (ptCells l)) (hn : New w w') : w'.ownsRow base e 2 v n (ptCells l) := by
  have hl : n = l.length := by
    have := h.1
    rw [ptCells_length] at this
    omega
  subst hl
  exact Owns.new h hn
theorem owns_form {w : World} {base : Nat} {e : TypeId} {v : Value} {n : Nat} {l : List (Int × Int)} (h : w.ownsRow base e 2 v (n + 1) (ptCells l)) : ∃ g cap, v = .slice (some ⟨g, 0, none⟩) (n + 1) cap := by
  rcases h.2 with ⟨_, h⟩ | ⟨g, cap, cur, hv, _⟩
  · omega
  · exact ⟨g, cap, hv⟩
theorem owns_pts {w : World} {base : Nat} {e : TypeId} {g cap n : Nat} {l : List (Int × Int)} (h : w.ownsRow base e 2 (.slice (some ⟨g, 0, none⟩) n cap) n (ptCells l)) : PtsAt w g 0 l := by
  have hl : n = l.length := by
    have := h.1
    rw [ptCells_length] at this
    omega
  subst hl
  exact Owns.pts h

set_option maxHeartbeats 4000000 in
theorem rstraight_any (at0 : Option Addr) (l : List (Int × Int)) (c : Nat) (w : World) (hl : l.length ≤ 100) (H : PtsIn w at0 l) :
    Calls Try.prog 18 #[.slice at0 l.length c] w (RowPost w (runDoc [] l)) := by
  obtain ⟨i0, hi, hz0, hz1, hz2⟩ := info_parts ptInfo
  have HP := Lib.hid H
  have HI := Lib.hid hi
  have HZ := Lib.hid hz0
  have HS := Lib.hid hz1
  have HB := Lib.hid hz2
  clear H hi hz0 hz1 hz2
  go_enter Try.func18, Try.ntmps18
  go_wp2_with fail
  go_loopg [3, 4] l.length (fun k v i wr => ∃ (j : Nat) (acc : List (Int × Int)), j + k = l.length ∧ i = .int .i64 j ∧ acc.length ≤ j ∧ runDoc acc (l.drop j) = runDoc [] l ∧ (acc = [] → v = .slice none 0 0) ∧ Owns wr w.heap.size 23 v acc ∧ New w wr)
  case atStart => exact ⟨0, [], by omega, rfl, Nat.le_refl _, rfl, fun _ => rfl, World.ownsRow_nil _ _ _ _, New.refl _⟩
  case round =>
    obtain ⟨j, acc, hj, rfl, hacc, hrun, hnil, own, hn⟩ := hrel
    have HR := Lib.hid hrun
    have OW := Lib.hid (show wr.ownsRow w.heap.size 23 2 _ acc.length (ptCells acc) from own)
    have HN := Lib.hid hnil
    clear hrun own hnil
    by_cases hlt : j < l.length
    · obtain ⟨b, off, rfl, hp⟩ := HP.out (by omega)
      have c1 := hn.keep (hp j hlt).1
      have c2 := hn.keep (hp j hlt).2
      have HPP := Lib.hid hp
      clear hp
      go_wp2_with fail
      refine (rin_any _ _ _).mono ?_
      rintro e W1 ⟨rfl, n1⟩
      replace hn := New.trans hn n1
      replace OW := Lib.hid (ownsNew OW.out n1)
      clear n1 c1 c2
      go_wp2_with fail
      refine Code.at (fun W hW => ?_)
      obtain ⟨pb, hpb⟩ : ∃ n, W1.heap.size = n := ⟨_, rfl⟩
      simp only [hpb] at hW ⊢
      have c5 : W.cell? ⟨pb, 0, none⟩ = some (.int .i64 (inI l[j].1)) := by subst hpb; subst hW; go_simp
      have c6 : W.cell? ⟨pb, 1, none⟩ = some (.int .i64 (inI l[j].2)) := by subst hpb; subst hW; go_simp
      have n0 : New W1 W := by subst hpb; subst hW; (repeat (first | (with_reducible exact New.refl _) | (with_reducible assumption) | ((with_reducible refine New.setB ?_ ?_ _); focus (first | omega | (simp; omega) | (simp; done))) | (with_reducible refine New.alloc ?_ _) | (with_reducible refine New.drew ?_) | (with_reducible refine New.drewN ?_ _) | (with_reducible refine New.hat ?_ _) | ((with_reducible apply New.snart); (with_reducible assumption))))
      clear hW hpb
      replace hn := New.trans hn n0
      replace OW := Lib.hid (ownsNew OW.out n0)
      clear n0
      rcases nil_or_snoc acc with rfl | ⟨init, q, rfl⟩
      · obtain rfl := HN.out rfl
        simp only [List.length_nil] at OW
        (refine wp_region_hat (by kernel_rfl) (by kernel_rfl) ?_; intro hatc hatf; (repeat (go_big_quiet_step ((fail)))); refine wpQuiet_nil ?_; rintro _ ⟨x, rfl⟩)
        have n1 := x.h
        ((replace c5 : World.cell? x.w _ = some _ := New.keep (New.trans (by (repeat (first | (with_reducible exact New.refl _) | (with_reducible assumption) | ((with_reducible refine New.setB ?_ ?_ _); focus (first | omega | (simp; omega) | (simp; done))) | (with_reducible refine New.alloc ?_ _) | (with_reducible refine New.drew ?_) | (with_reducible refine New.drewN ?_ _) | (with_reducible refine New.hat ?_ _) | ((with_reducible apply New.snart); (with_reducible assumption))))) n1) c5); (replace c6 : World.cell? x.w _ = some _ := New.keep (New.trans (by (repeat (first | (with_reducible exact New.refl _) | (with_reducible assumption) | ((with_reducible refine New.setB ?_ ?_ _); focus (first | omega | (simp; omega) | (simp; done))) | (with_reducible refine New.alloc ?_ _) | (with_reducible refine New.drew ?_) | (with_reducible refine New.drewN ?_ _) | (with_reducible refine New.hat ?_ _) | ((with_reducible apply New.snart); (with_reducible assumption))))) n1) c6); (try replace hn : New _ x.w := New.trans hn (New.trans (by (repeat (first | (with_reducible exact New.refl _) | (with_reducible assumption) | ((with_reducible refine New.setB ?_ ?_ _); focus (first | omega | (simp; omega) | (simp; done))) | (with_reducible refine New.alloc ?_ _) | (with_reducible refine New.drew ?_) | (with_reducible refine New.drewN ?_ _) | (with_reducible refine New.hat ?_ _) | ((with_reducible apply New.snart); (with_reducible assumption))))) n1)))
        replace OW := Lib.hid (ownsNew OW.out n1)
        clear n1 hatc hatf
        generalize x.w = W5 at *
        go_wp2_with fail
        (refine wp_region_hat (by kernel_rfl) (by kernel_rfl) ?_; intro hatc hatf; (repeat (go_big_quiet_step ((fail)))); refine wpQuiet_nil ?_; rintro _ ⟨x, rfl⟩)
        have n1 := x.h
        ((replace c5 : World.cell? x.w _ = some _ := New.keep (New.trans (by (repeat (first | (with_reducible exact New.refl _) | (with_reducible assumption) | ((with_reducible refine New.setB ?_ ?_ _); focus (first | omega | (simp; omega) | (simp; done))) | (with_reducible refine New.alloc ?_ _) | (with_reducible refine New.drew ?_) | (with_reducible refine New.drewN ?_ _) | (with_reducible refine New.hat ?_ _) | ((with_reducible apply New.snart); (with_reducible assumption))))) n1) c5); (replace c6 : World.cell? x.w _ = some _ := New.keep (New.trans (by (repeat (first | (with_reducible exact New.refl _) | (with_reducible assumption) | ((with_reducible refine New.setB ?_ ?_ _); focus (first | omega | (simp; omega) | (simp; done))) | (with_reducible refine New.alloc ?_ _) | (with_reducible refine New.drew ?_) | (with_reducible refine New.drewN ?_ _) | (with_reducible refine New.hat ?_ _) | ((with_reducible apply New.snart); (with_reducible assumption))))) n1) c6); (try replace hn : New _ x.w := New.trans hn (New.trans (by (repeat (first | (with_reducible exact New.refl _) | (with_reducible assumption) | ((with_reducible refine New.setB ?_ ?_ _); focus (first | omega | (simp; omega) | (simp; done))) | (with_reducible refine New.alloc ?_ _) | (with_reducible refine New.drew ?_) | (with_reducible refine New.drewN ?_ _) | (with_reducible refine New.hat ?_ _) | ((with_reducible apply New.snart); (with_reducible assumption))))) n1)))
        replace OW := Lib.hid (ownsNew OW.out n1)
        clear n1 hatc hatf
        generalize x.w = W5 at *
        go_wp2_with (at_builtin; refine wpList_append_own _ rfl _ _ 24 rfl w.heap.size 23 i0 _ 2 16 Try.underlying24 HI.out HZ.out HS.out HB.out rfl (by decide) _ _ _ rfl (World.ownsRow.alloc OW.out _) ⟨W5.heap.size, 0, none⟩ 1 1 [.int .i64 (inI l[j].1), .int .i64 (inI l[j].2)] rfl rfl (two_cells _ _ _ _) (two_one _ _) (by unfold maxLen; omega) (by omega) (by have := hn.size; simp; omega) ?_)
        intro v' w2 own2 hgr hnil
        have hn2 : New w w2 := New.grown (New.alloc hn _) hgr (fun k hk => (World.ownsRow.lt OW.out k hk).1)
        clear OW hgr hnil
        go_wp2_with fail
        go_roundg (gk - 1)
        case measure => omega
        case rel =>
          refine ⟨j + 1, ([] : List (Int × Int)) ++ [inP l[j]], by omega, by go_num, (by first | (simp; done) | (simp; omega)), ?_, by simp, ?_, hn2⟩
          · have := HR.out
            rw [drop_cons hlt] at this
            cases hq : l.drop (j + 1) with
            | nil => rw [hq] at this; simpa [runDoc] using this
            | cons r rs => rw [hq] at this; simpa [runDoc] using this
          · unfold Owns
            rw [ptCells_append]
            simpa [ptCells, inP] using own2
      · have e2 : (init ++ [q]).length = init.length + 1 := by simp
        rw [e2] at OW hacc
        have q3 : init.length + 1 ≤ 100 := by omega
        have q2 : decide ((0 : Int) < (init.length : Int) + 1) = true := by rw [decide_eq_true_eq]; omega
        obtain ⟨g, cap, rfl⟩ := owns_form OW.out
        have pt := owns_pts OW.out
        have c3 := (pt init.length (by simp)).1
        have c4 := (pt init.length (by simp)).2
        have e1 : (init ++ [q])[init.length] = q := by simp
        rw [e1] at c3 c4
        simp only [Nat.zero_add] at c3 c4
        clear pt e1 e2
        have PN := pt_eql
        (refine wp_region_hat (by kernel_rfl) (by kernel_rfl) ?_; intro hatc hatf; (repeat (go_big_quiet_step ((fail)))); refine wpQuiet_nil ?_; rintro _ ⟨x, rfl⟩)
        have n1 := x.h
        ((replace c5 : World.cell? x.w _ = some _ := New.keep (New.trans (by (repeat (first | (with_reducible exact New.refl _) | (with_reducible assumption) | ((with_reducible refine New.setB ?_ ?_ _); focus (first | omega | (simp; omega) | (simp; done))) | (with_reducible refine New.alloc ?_ _) | (with_reducible refine New.drew ?_) | (with_reducible refine New.drewN ?_ _) | (with_reducible refine New.hat ?_ _) | ((with_reducible apply New.snart); (with_reducible assumption))))) n1) c5); (replace c6 : World.cell? x.w _ = some _ := New.keep (New.trans (by (repeat (first | (with_reducible exact New.refl _) | (with_reducible assumption) | ((with_reducible refine New.setB ?_ ?_ _); focus (first | omega | (simp; omega) | (simp; done))) | (with_reducible refine New.alloc ?_ _) | (with_reducible refine New.drew ?_) | (with_reducible refine New.drewN ?_ _) | (with_reducible refine New.hat ?_ _) | ((with_reducible apply New.snart); (with_reducible assumption))))) n1) c6); (replace c3 : World.cell? x.w _ = some _ := New.keep (New.trans (by (repeat (first | (with_reducible exact New.refl _) | (with_reducible assumption) | ((with_reducible refine New.setB ?_ ?_ _); focus (first | omega | (simp; omega) | (simp; done))) | (with_reducible refine New.alloc ?_ _) | (with_reducible refine New.drew ?_) | (with_reducible refine New.drewN ?_ _) | (with_reducible refine New.hat ?_ _) | ((with_reducible apply New.snart); (with_reducible assumption))))) n1) c3); (replace c4 : World.cell? x.w _ = some _ := New.keep (New.trans (by (repeat (first | (with_reducible exact New.refl _) | (with_reducible assumption) | ((with_reducible refine New.setB ?_ ?_ _); focus (first | omega | (simp; omega) | (simp; done))) | (with_reducible refine New.alloc ?_ _) | (with_reducible refine New.drew ?_) | (with_reducible refine New.drewN ?_ _) | (with_reducible refine New.hat ?_ _) | ((with_reducible apply New.snart); (with_reducible assumption))))) n1) c4); (try replace hn : New _ x.w := New.trans hn (New.trans (by (repeat (first | (with_reducible exact New.refl _) | (with_reducible assumption) | ((with_reducible refine New.setB ?_ ?_ _); focus (first | omega | (simp; omega) | (simp; done))) | (with_reducible refine New.alloc ?_ _) | (with_reducible refine New.drew ?_) | (with_reducible refine New.drewN ?_ _) | (with_reducible refine New.hat ?_ _) | ((with_reducible apply New.snart); (with_reducible assumption))))) n1)))
        replace OW := Lib.hid (ownsNew OW.out n1)
        clear n1 hatc hatf
        generalize x.w = W5 at *
        clear PN
        cases hq : ptEq q.1 q.2 (inI l[j].1) (inI l[j].2)
        · have hne : ¬ q = inP l[j] := by intro h; rw [h] at hq; simp [ptEq, inP] at hq
          have HNE := Lib.hid hne
          clear hne
          go_wp2_with fail
          by_cases h1 : j + 1 < l.length
          · have hd1 : decide ((j : Int) + 1 < (l.length : Int)) = true := by simp; omega
            have c9 := hn.keep (HPP.out (j + 1) h1).1
            have c10 := hn.keep (HPP.out (j + 1) h1).2
            have hdr2 : l.drop (j + 1) = l[j + 1] :: l.drop (j + 1 + 1) := drop_cons h1
            have HDR2 := Lib.hid hdr2
            clear hdr2
            obtain ⟨o, ho⟩ : ∃ o, onB q.1 q.2 l[j + 1].1 l[j + 1].2 (inI l[j].1) (inI l[j].2) = o := ⟨_, rfl⟩
            have CO := Lib.hid (fun W => by have q' := ron_any q.1 q.2 l[j + 1].1 l[j + 1].2 (inI l[j].1) (inI l[j].2) W; rw [ho] at q'; exact q' : ∀ W, Calls Try.prog 13 #[.agg #[.int .i64 q.1, .int .i64 q.2], .agg #[.int .i64 l[j + 1].1, .int .i64 l[j + 1].2], .agg #[.int .i64 (inI l[j].1), .int .i64 (inI l[j].2)]] W fun e w' => e = .returned (.bool o) ∧ New W w')
            have HO := Lib.hid ho
            clear ho
            (refine wp_region_hat (by kernel_rfl) (by kernel_rfl) ?_; intro hatc hatf; (repeat (go_big_quiet_step ((go_at_call 13; exact Calls.hat (CO.out _))))); refine wpQuiet_nil ?_; rintro _ ⟨x, rfl⟩)
            have n1 := x.h
            ((replace c5 : World.cell? x.w _ = some _ := New.keep (New.trans (by (repeat (first | (with_reducible exact New.refl _) | (with_reducible assumption) | ((with_reducible refine New.setB ?_ ?_ _); focus (first | omega | (simp; omega) | (simp; done))) | (with_reducible refine New.alloc ?_ _) | (with_reducible refine New.drew ?_) | (with_reducible refine New.drewN ?_ _) | (with_reducible refine New.hat ?_ _) | ((with_reducible apply New.snart); (with_reducible assumption))))) n1) c5); (replace c6 : World.cell? x.w _ = some _ := New.keep (New.trans (by (repeat (first | (with_reducible exact New.refl _) | (with_reducible assumption) | ((with_reducible refine New.setB ?_ ?_ _); focus (first | omega | (simp; omega) | (simp; done))) | (with_reducible refine New.alloc ?_ _) | (with_reducible refine New.drew ?_) | (with_reducible refine New.drewN ?_ _) | (with_reducible refine New.hat ?_ _) | ((with_reducible apply New.snart); (with_reducible assumption))))) n1) c6); (replace c3 : World.cell? x.w _ = some _ := New.keep (New.trans (by (repeat (first | (with_reducible exact New.refl _) | (with_reducible assumption) | ((with_reducible refine New.setB ?_ ?_ _); focus (first | omega | (simp; omega) | (simp; done))) | (with_reducible refine New.alloc ?_ _) | (with_reducible refine New.drew ?_) | (with_reducible refine New.drewN ?_ _) | (with_reducible refine New.hat ?_ _) | ((with_reducible apply New.snart); (with_reducible assumption))))) n1) c3); (replace c4 : World.cell? x.w _ = some _ := New.keep (New.trans (by (repeat (first | (with_reducible exact New.refl _) | (with_reducible assumption) | ((with_reducible refine New.setB ?_ ?_ _); focus (first | omega | (simp; omega) | (simp; done))) | (with_reducible refine New.alloc ?_ _) | (with_reducible refine New.drew ?_) | (with_reducible refine New.drewN ?_ _) | (with_reducible refine New.hat ?_ _) | ((with_reducible apply New.snart); (with_reducible assumption))))) n1) c4); (try replace hn : New _ x.w := New.trans hn (New.trans (by (repeat (first | (with_reducible exact New.refl _) | (with_reducible assumption) | ((with_reducible refine New.setB ?_ ?_ _); focus (first | omega | (simp; omega) | (simp; done))) | (with_reducible refine New.alloc ?_ _) | (with_reducible refine New.drew ?_) | (with_reducible refine New.drewN ?_ _) | (with_reducible refine New.hat ?_ _) | ((with_reducible apply New.snart); (with_reducible assumption))))) n1)))
            replace OW := Lib.hid (ownsNew OW.out n1)
            clear n1 hatc hatf
            generalize x.w = W5 at *
            clear CO c9 c10
            cases o
            · go_wp2_with (at_builtin; refine wpList_append_own _ rfl _ _ 24 rfl w.heap.size 23 i0 _ 2 16 Try.underlying24 HI.out HZ.out HS.out HB.out rfl (by decide) _ _ _ rfl (World.ownsRow.alloc OW.out _) ⟨W5.heap.size, 0, none⟩ 1 1 [.int .i64 (inI l[j].1), .int .i64 (inI l[j].2)] rfl rfl (two_cells _ _ _ _) (two_one _ _) (by unfold maxLen; omega) (by omega) (by have := hn.size; simp; omega) ?_)
              intro v' w2 own2 hgr hnil
              have hn2 : New w w2 := New.grown (New.alloc hn _) hgr (fun k hk => (World.ownsRow.lt OW.out k hk).1)
              clear OW hgr hnil
              go_wp2_with fail
              go_roundg (gk - 1)
              case measure => omega
              case rel =>
                refine ⟨j + 1, (init ++ [q]) ++ [inP l[j]], by omega, by go_num, (by first | (simp; done) | (simp; omega)), ?_, by simp, ?_, hn2⟩
                · have := HR.out
                  rw [drop_cons hlt] at this
                  rw [HDR2.out] at this
                  have ho : onP q l[j + 1] (inP l[j]) = false := HO.out
                  have hne := HNE.out
                  rw [HDR2.out]
                  simpa [runDoc, hne, ho] using this
                · unfold Owns
                  rw [ptCells_append]
                  simpa [ptCells, inP] using own2
            · go_wp2_with fail
              go_roundg (gk - 1)
              case measure => omega
              case rel =>
                refine ⟨j + 1, init ++ [q], by omega, by go_num, by simp; omega, ?_, by simp, ?_, hn⟩
                · have := HR.out
                  rw [drop_cons hlt, HDR2.out] at this
                  have ho : onP q l[j + 1] (inP l[j]) = true := HO.out
                  have hne := HNE.out
                  rw [HDR2.out]
                  simpa [runDoc, hne, ho] using this
                · have := OW.out
                  unfold Owns
                  simpa using this
          · have hd1 : decide ((j : Int) + 1 < (l.length : Int)) = false := by simp; omega
            (refine wp_region_hat (by kernel_rfl) (by kernel_rfl) ?_; intro hatc hatf; (repeat (go_big_quiet_step ((fail)))); refine wpQuiet_nil ?_; rintro _ ⟨x, rfl⟩)
            have n1 := x.h
            ((replace c5 : World.cell? x.w _ = some _ := New.keep (New.trans (by (repeat (first | (with_reducible exact New.refl _) | (with_reducible assumption) | ((with_reducible refine New.setB ?_ ?_ _); focus (first | omega | (simp; omega) | (simp; done))) | (with_reducible refine New.alloc ?_ _) | (with_reducible refine New.drew ?_) | (with_reducible refine New.drewN ?_ _) | (with_reducible refine New.hat ?_ _) | ((with_reducible apply New.snart); (with_reducible assumption))))) n1) c5); (replace c6 : World.cell? x.w _ = some _ := New.keep (New.trans (by (repeat (first | (with_reducible exact New.refl _) | (with_reducible assumption) | ((with_reducible refine New.setB ?_ ?_ _); focus (first | omega | (simp; omega) | (simp; done))) | (with_reducible refine New.alloc ?_ _) | (with_reducible refine New.drew ?_) | (with_reducible refine New.drewN ?_ _) | (with_reducible refine New.hat ?_ _) | ((with_reducible apply New.snart); (with_reducible assumption))))) n1) c6); (replace c3 : World.cell? x.w _ = some _ := New.keep (New.trans (by (repeat (first | (with_reducible exact New.refl _) | (with_reducible assumption) | ((with_reducible refine New.setB ?_ ?_ _); focus (first | omega | (simp; omega) | (simp; done))) | (with_reducible refine New.alloc ?_ _) | (with_reducible refine New.drew ?_) | (with_reducible refine New.drewN ?_ _) | (with_reducible refine New.hat ?_ _) | ((with_reducible apply New.snart); (with_reducible assumption))))) n1) c3); (replace c4 : World.cell? x.w _ = some _ := New.keep (New.trans (by (repeat (first | (with_reducible exact New.refl _) | (with_reducible assumption) | ((with_reducible refine New.setB ?_ ?_ _); focus (first | omega | (simp; omega) | (simp; done))) | (with_reducible refine New.alloc ?_ _) | (with_reducible refine New.drew ?_) | (with_reducible refine New.drewN ?_ _) | (with_reducible refine New.hat ?_ _) | ((with_reducible apply New.snart); (with_reducible assumption))))) n1) c4); (try replace hn : New _ x.w := New.trans hn (New.trans (by (repeat (first | (with_reducible exact New.refl _) | (with_reducible assumption) | ((with_reducible refine New.setB ?_ ?_ _); focus (first | omega | (simp; omega) | (simp; done))) | (with_reducible refine New.alloc ?_ _) | (with_reducible refine New.drew ?_) | (with_reducible refine New.drewN ?_ _) | (with_reducible refine New.hat ?_ _) | ((with_reducible apply New.snart); (with_reducible assumption))))) n1)))
            replace OW := Lib.hid (ownsNew OW.out n1)
            clear n1 hatc hatf
            generalize x.w = W5 at *
            go_wp2_with (at_builtin; refine wpList_append_own _ rfl _ _ 24 rfl w.heap.size 23 i0 _ 2 16 Try.underlying24 HI.out HZ.out HS.out HB.out rfl (by decide) _ _ _ rfl (World.ownsRow.alloc OW.out _) ⟨W5.heap.size, 0, none⟩ 1 1 [.int .i64 (inI l[j].1), .int .i64 (inI l[j].2)] rfl rfl (two_cells _ _ _ _) (two_one _ _) (by unfold maxLen; omega) (by omega) (by have := hn.size; simp; omega) ?_)
            intro v' w2 own2 hgr hnil
            have hn2 : New w w2 := New.grown (New.alloc hn _) hgr (fun k hk => (World.ownsRow.lt OW.out k hk).1)
            clear OW hgr hnil
            go_wp2_with fail
            go_roundg (gk - 1)
            case measure => omega
            case rel =>
              refine ⟨j + 1, (init ++ [q]) ++ [inP l[j]], by omega, by go_num, (by first | (simp; done) | (simp; omega)), ?_, by simp, ?_, hn2⟩
              · have := HR.out
                rw [drop_cons hlt] at this
                rw [List.drop_eq_nil_of_le (show l.length ≤ j + 1 by omega)] at this
                rw [List.drop_eq_nil_of_le (show l.length ≤ j + 1 by omega)]
                have hne := HNE.out
                simpa [runDoc, hne] using this
              · unfold Owns
                rw [ptCells_append]
                simpa [ptCells, inP] using own2
        · go_wp2_with fail
          go_roundg (gk - 1)
          case measure => omega
          case rel =>
            refine ⟨j + 1, init ++ [q], by omega, by go_num, by simp; omega, ?_, by simp, ?_, hn⟩
            · have := HR.out
              rw [drop_cons hlt] at this
              have e : q = inP l[j] := by
                obtain ⟨e1, e2⟩ := ptEq_iff.1 hq
                exact Prod.ext e1 e2
              cases hq' : l.drop (j + 1) with
              | nil => rw [hq'] at this; simpa [runDoc, e] using this
              | cons r rs => rw [hq'] at this; simpa [runDoc, e] using this
            · have := OW.out
              unfold Owns
              simpa using this
    · have hj' : j = l.length := by omega
      have hlt' : decide ((j : Int) < (l.length : Int)) = false := by simp; omega
      have hacc2 : acc = runDoc [] l := by have := HR.out; rw [hj', List.drop_length] at this; simpa [runDoc] using this
      go_wp2_with fail
      rcases nil_or_snoc acc with rfl | ⟨init, q, rfl⟩
      · obtain rfl := HN.out rfl
        go_ret
        rw [← hacc2]
        exact ⟨none, 0, rfl, fun h => absurd h (by simp), hn⟩
      · have e2 : (init ++ [q]).length = init.length + 1 := by simp
        have OW2 := OW.out
        rw [e2] at OW2
        obtain ⟨g, cap, rfl⟩ := owns_form OW2
        have hp := owns_pts OW2
        go_ret
        rw [← hacc2]
        refine ⟨some ⟨g, 0, none⟩, cap, ?_, fun _ => ⟨g, 0, rfl, hp⟩, hn⟩
        rw [e2]
        rfl

end Go.Proofs.Ytgpjeijhbikjaaa
