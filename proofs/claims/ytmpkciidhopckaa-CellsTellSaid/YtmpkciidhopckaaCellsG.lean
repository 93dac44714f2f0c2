/- Package cells: meeting of a column that may be, walked. -/
import Derived.Test.YtmpkciidhopckaaCellsE
import Derived.Deep.DeepCutAuto
import Derived.Deep.CutBlock
namespace Go.Proofs.Ytmpkciidhopckaa
open Go.RowKit
set_option linter.unusedVariables false

theorem meetI_of {ax az bx bz x z f1 g1 l1 k1 f2 g2 l2 k2 : Int} {o1 o2 : Bool} (h1 : stayI ax bx x = ⟨f1, g1, l1, k1, o1⟩) (h2 : stayI az bz z = ⟨f2, g2, l2, k2, o2⟩) :
    meetI ax az bx bz x z = (if o1 = true ∧ o2 = true ∧ lessB (if lessB l2 k2 l1 k1 then l2 else l1) (if lessB l2 k2 l1 k1 then k2 else k1) (if lessB f1 g1 f2 g2 then f2 else f1) (if lessB f1 g1 f2 g2 then g2 else g1) = false then
      some ⟨(if lessB f1 g1 f2 g2 then f2 else f1).toNat / Nat.gcd (if lessB f1 g1 f2 g2 then g2 else g1).toNat (if lessB f1 g1 f2 g2 then f2 else f1).toNat, (if lessB f1 g1 f2 g2 then g2 else g1).toNat / Nat.gcd (if lessB f1 g1 f2 g2 then g2 else g1).toNat (if lessB f1 g1 f2 g2 then f2 else f1).toNat,
        (if lessB l2 k2 l1 k1 then l2 else l1).toNat / Nat.gcd (if lessB l2 k2 l1 k1 then k2 else k1).toNat (if lessB l2 k2 l1 k1 then l2 else l1).toNat, (if lessB l2 k2 l1 k1 then k2 else k1).toNat / Nat.gcd (if lessB l2 k2 l1 k1 then k2 else k1).toNat (if lessB l2 k2 l1 k1 then l2 else l1).toNat⟩
    else none) := by
  unfold meetI
  simp only [h1, h2]

set_option maxHeartbeats 1000000 in
set_option maxRecDepth 100000 in
theorem c_meeting_yes (ax az bx bz x z : Int) (w : World) (h : validB ax az bx bz x z = true) :
    Calls Try.prog 42 #[.agg #[.int .i64 ax, .int .i64 az], .agg #[.int .i64 bx, .int .i64 bz], .int .i64 x, .int .i64 z] w fun e w' => e = .returned (metV x z (meetI ax az bx bz x z)) ∧ New w w' := by
  unfold validB at h
  simp only [Bool.and_eq_true] at h
  obtain ⟨⟨⟨e1, e2⟩, e3⟩, e4⟩ := h
  have h1 := fun w => c_point ax az w
  have h2 := fun w => c_point bx bz w
  have h3 := fun w => c_column x w
  have h4 := fun w => c_column z w
  simp only [e1] at h1
  simp only [e2] at h2
  simp only [e3] at h3
  simp only [e4] at h4
  obtain ⟨pa1, pa2⟩ := ptB_iff.1 e1
  obtain ⟨pb1, pb2⟩ := ptB_iff.1 e2
  have hx := witB_iff.1 e3
  have hzz := witB_iff.1 e4
  have s1 := fun w => c_stay ax bx x w pa1 pb1 hx
  have s2 := fun w => c_stay az bz z w pa2 pb2 hzz
  have y1 := stay_bd (n := x) pa1 pb1
  have y2 := stay_bd (n := z) pa2 pb2
  obtain ⟨f1, g1, l1, k1, o1, hs1⟩ : ∃ f1 g1 l1 k1 o1, stayI ax bx x = ⟨f1, g1, l1, k1, o1⟩ := ⟨_, _, _, _, _, rfl⟩
  obtain ⟨f2, g2, l2, k2, o2, hs2⟩ : ∃ f1 g1 l1 k1 o1, stayI az bz z = ⟨f1, g1, l1, k1, o1⟩ := ⟨_, _, _, _, _, rfl⟩
  obtain ⟨M, hM⟩ : ∃ M, M = meetI ax az bx bz x z := ⟨_, rfl⟩
  rw [← hM]
  rw [meetI_of hs1 hs2] at hM
  have HM : Hid _ := hM
  clear hM
  simp only [hs1, Stay.val] at s1 y1
  simp only [hs2, Stay.val] at s2 y2
  clear hs1 hs2 e1 e2 e3 e4
  ((go_enter Try.func42, Try.ntmps42); go_wp2_with fail; (generalize hW : World.alloc _ _ = W); (have c0 : W.cell? ⟨w.heap.size, 0, none⟩ = some (.int .i64 ax) := by subst hW; go_simp); (have c1 : W.cell? ⟨w.heap.size, 1, none⟩ = some (.int .i64 az) := by subst hW; go_simp); (have c2 : W.cell? ⟨w.heap.size + 1, 0, none⟩ = some (.int .i64 bx) := by subst hW; go_simp); (have c3 : W.cell? ⟨w.heap.size + 1, 1, none⟩ = some (.int .i64 bz) := by subst hW; go_simp); (have d0 : W.cell? ⟨w.heap.size + 1 + 1, 0, none⟩ = some (.int .i64 0) := by subst hW; go_simp); (have d1 : W.cell? ⟨w.heap.size + 1 + 1, 1, none⟩ = some (.int .i64 0) := by subst hW; go_simp); (have d2 : W.cell? ⟨w.heap.size + 1 + 1, 2, none⟩ = some (.int .i64 0) := by subst hW; go_simp); (have d3 : W.cell? ⟨w.heap.size + 1 + 1, 3, none⟩ = some (.int .i64 0) := by subst hW; go_simp); (have d4 : W.cell? ⟨w.heap.size + 1 + 1, 4, none⟩ = some (.int .i64 0) := by subst hW; go_simp); (have d5 : W.cell? ⟨w.heap.size + 1 + 1, 5, none⟩ = some (.int .i64 0) := by subst hW; go_simp); (have fz : ∀ o, W.frozen? ⟨w.heap.size + 1 + 1, o, none⟩ = false := fun o => by (subst hW; go_simp)); (have hn : New w W := by (subst hW; (repeat (first | (with_reducible exact New.refl _) | (with_reducible assumption) | ((with_reducible refine New.setB ?_ ?_ _); focus (first | omega | (simp; omega) | (simp; done))) | (with_reducible refine New.alloc ?_ _) | (with_reducible refine New.drew ?_) | (with_reducible refine New.drewN ?_ _) | (with_reducible refine New.hat ?_ _) | ((with_reducible apply New.snart); (with_reducible assumption)))))); clear hW; (have fz0 := fz 0); (have fz1 := fz 1); (have fz2 := fz 2); (have fz3 := fz 3); (have fz4 := fz 4); (have fz5 := fz 5); clear fz; (have hz := hn.size))
  (refine (h1 _).mono ?_; rintro e w1 ⟨rfl, n1⟩; ((replace fz0 := n1.keepF d0 fz0); (replace fz1 := n1.keepF d1 fz1); (replace fz2 := n1.keepF d2 fz2); (replace fz3 := n1.keepF d3 fz3); (replace fz4 := n1.keepF d4 fz4); (replace fz5 := n1.keepF d5 fz5); (replace d0 := n1.keep d0); (replace d1 := n1.keep d1); (replace d2 := n1.keep d2); (replace d3 := n1.keep d3); (replace d4 := n1.keep d4); (replace d5 := n1.keep d5); (replace c0 := n1.keep c0); (replace c1 := n1.keep c1); (replace c2 := n1.keep c2); (replace c3 := n1.keep c3)); go_wp2_with fail)
  (refine (h2 _).mono ?_; rintro e w1 ⟨rfl, n2⟩; ((replace fz0 := n2.keepF d0 fz0); (replace fz1 := n2.keepF d1 fz1); (replace fz2 := n2.keepF d2 fz2); (replace fz3 := n2.keepF d3 fz3); (replace fz4 := n2.keepF d4 fz4); (replace fz5 := n2.keepF d5 fz5); (replace d0 := n2.keep d0); (replace d1 := n2.keep d1); (replace d2 := n2.keep d2); (replace d3 := n2.keep d3); (replace d4 := n2.keep d4); (replace d5 := n2.keep d5); (replace c0 := n2.keep c0); (replace c1 := n2.keep c1); (replace c2 := n2.keep c2); (replace c3 := n2.keep c3)); go_wp2_with fail)
  refine (h3 _).mono ?_
  rintro e w3 ⟨rfl, rfl⟩
  go_wp2_with fail
  refine (h4 _).mono ?_
  rintro e w4 ⟨rfl, rfl⟩
  go_wp2_with fail
  have hn2 : New w w4 := (hn.trans n1).trans n2
  clear hn n1 n2 h1 h2 h3 h4
  refine (s1 _).mono ?_
  rintro e w5 ⟨rfl, n5⟩
  ((replace fz0 := n5.keepF d0 fz0); (replace fz1 := n5.keepF d1 fz1); (replace fz2 := n5.keepF d2 fz2); (replace fz3 := n5.keepF d3 fz3); (replace fz4 := n5.keepF d4 fz4); (replace fz5 := n5.keepF d5 fz5); (replace d0 := n5.keep d0); (replace d1 := n5.keep d1); (replace d2 := n5.keep d2); (replace d3 := n5.keep d3); (replace d4 := n5.keep d4); (replace d5 := n5.keep d5); (replace c0 := n5.keep c0); (replace c1 := n5.keep c1); (replace c2 := n5.keep c2); (replace c3 := n5.keep c3))
  have hlt5 : w.heap.size + 1 + 1 < w5.heap.size := World.block_lt_of_cell? _ _ d0
  go_upto_region 4 with fail
  refine Code.at (fun V hV => ?_)
  have m1 : New w5 V := by subst hV; (repeat (first | (with_reducible exact New.refl _) | (with_reducible assumption) | ((with_reducible refine New.setB ?_ ?_ _); focus (first | omega | (simp; omega) | (simp; done))) | (with_reducible refine New.alloc ?_ _) | (with_reducible refine New.drew ?_) | (with_reducible refine New.drewN ?_ _) | (with_reducible refine New.hat ?_ _) | ((with_reducible apply New.snart); (with_reducible assumption))))
  have e0 : V.cell? ⟨w5.heap.size, 0, none⟩ = some (.int .i64 f1) := by subst hV; go_simp
  have e1 : V.cell? ⟨w5.heap.size, 1, none⟩ = some (.int .i64 g1) := by subst hV; go_simp
  have e2 : V.cell? ⟨w5.heap.size + 1, 0, none⟩ = some (.int .i64 l1) := by subst hV; go_simp
  have e3 : V.cell? ⟨w5.heap.size + 1, 1, none⟩ = some (.int .i64 k1) := by subst hV; go_simp
  ((replace fz0 := m1.keepF d0 fz0); (replace fz1 := m1.keepF d1 fz1); (replace fz2 := m1.keepF d2 fz2); (replace fz3 := m1.keepF d3 fz3); (replace fz4 := m1.keepF d4 fz4); (replace fz5 := m1.keepF d5 fz5); (replace d0 := m1.keep d0); (replace d1 := m1.keep d1); (replace d2 := m1.keep d2); (replace d3 := m1.keep d3); (replace d4 := m1.keep d4); (replace d5 := m1.keep d5); (replace c0 := m1.keep c0); (replace c1 := m1.keep c1); (replace c2 := m1.keep c2); (replace c3 := m1.keep c3))
  have hn5 : New w V := (hn2.trans n5).trans m1
  clear hV m1 hn2
  obtain ⟨B5, hB5⟩ : ∃ B, B = w5.heap.size := ⟨_, rfl⟩
  rw [← hB5] at e0 e1 e2 e3 hlt5 ⊢
  clear hB5 n5
  go_wp2_with fail
  refine (s2 _).mono ?_
  rintro e w6 ⟨rfl, n6⟩
  ((replace fz0 := n6.keepF d0 fz0); (replace fz1 := n6.keepF d1 fz1); (replace fz2 := n6.keepF d2 fz2); (replace fz3 := n6.keepF d3 fz3); (replace fz4 := n6.keepF d4 fz4); (replace fz5 := n6.keepF d5 fz5); (replace d0 := n6.keep d0); (replace d1 := n6.keep d1); (replace d2 := n6.keep d2); (replace d3 := n6.keep d3); (replace d4 := n6.keep d4); (replace d5 := n6.keep d5); (replace c0 := n6.keep c0); (replace c1 := n6.keep c1); (replace c2 := n6.keep c2); (replace c3 := n6.keep c3))
  ((replace e0 := n6.keep e0); (replace e1 := n6.keep e1); (replace e2 := n6.keep e2); (replace e3 := n6.keep e3))
  have hlt6 : B5 + 1 < w6.heap.size := World.block_lt_of_cell? _ _ e2
  go_upto_region 5 with fail
  refine Code.at (fun X hX => ?_)
  have m2 : New w6 X := by subst hX; (repeat (first | (with_reducible exact New.refl _) | (with_reducible assumption) | ((with_reducible refine New.setB ?_ ?_ _); focus (first | omega | (simp; omega) | (simp; done))) | (with_reducible refine New.alloc ?_ _) | (with_reducible refine New.drew ?_) | (with_reducible refine New.drewN ?_ _) | (with_reducible refine New.hat ?_ _) | ((with_reducible apply New.snart); (with_reducible assumption))))
  have i0 : X.cell? ⟨w6.heap.size, 0, none⟩ = some (.int .i64 f2) := by subst hX; go_simp
  have i1 : X.cell? ⟨w6.heap.size, 1, none⟩ = some (.int .i64 g2) := by subst hX; go_simp
  have i2 : X.cell? ⟨w6.heap.size + 1, 0, none⟩ = some (.int .i64 l2) := by subst hX; go_simp
  have i3 : X.cell? ⟨w6.heap.size + 1, 1, none⟩ = some (.int .i64 k2) := by subst hX; go_simp
  ((replace fz0 := m2.keepF d0 fz0); (replace fz1 := m2.keepF d1 fz1); (replace fz2 := m2.keepF d2 fz2); (replace fz3 := m2.keepF d3 fz3); (replace fz4 := m2.keepF d4 fz4); (replace fz5 := m2.keepF d5 fz5); (replace d0 := m2.keep d0); (replace d1 := m2.keep d1); (replace d2 := m2.keep d2); (replace d3 := m2.keep d3); (replace d4 := m2.keep d4); (replace d5 := m2.keep d5); (replace c0 := m2.keep c0); (replace c1 := m2.keep c1); (replace c2 := m2.keep c2); (replace c3 := m2.keep c3))
  ((replace e0 := m2.keep e0); (replace e1 := m2.keep e1); (replace e2 := m2.keep e2); (replace e3 := m2.keep e3))
  have hn6 : New w X := (hn5.trans n6).trans m2
  clear hX m2 hn5 s1 s2 c0 c1 c2 c3
  obtain ⟨B6, hB6⟩ : ∃ B, B = w6.heap.size := ⟨_, rfl⟩
  rw [← hB6] at i0 i1 i2 i3 hlt6 ⊢
  clear hB6 n6
  have hl := fun W => c_later f1 g1 f2 g2 W
  have hs := fun W => c_sooner l1 k1 l2 k2 W
  simp only [pick2_eq] at hl hs
  obtain ⟨fn, hfn⟩ : ∃ q, q = (if lessB f1 g1 f2 g2 then f2 else f1) := ⟨_, rfl⟩
  obtain ⟨fd, hfd⟩ : ∃ q, q = (if lessB f1 g1 f2 g2 then g2 else g1) := ⟨_, rfl⟩
  obtain ⟨ln, hln⟩ : ∃ q, q = (if lessB l2 k2 l1 k1 then l2 else l1) := ⟨_, rfl⟩
  obtain ⟨ld, hld⟩ : ∃ q, q = (if lessB l2 k2 l1 k1 then k2 else k1) := ⟨_, rfl⟩
  simp only [← hfn, ← hfd] at hl
  simp only [← hln, ← hld] at hs
  have HF : Hid (o1 = true → o2 = true → (0 ≤ fn ∧ fn ≤ 64) ∧ (1 ≤ fd ∧ fd ≤ 64) ∧ (0 ≤ ln ∧ ln ≤ 64) ∧ 1 ≤ ld ∧ ld ≤ 64) := fun ho1 ho2 => by
    have y1 := y1 ho1
    have y2 := y2 ho2
    rw [hfn, hfd, hln, hld]
    refine ⟨?_, ?_, ?_, ?_⟩ <;> split <;> omega
  have HQ : Hid _ := And.intro hfn (And.intro hfd (And.intro hln hld))
  clear hfn hfd hln hld y1 y2
  (refine wp_region_steady2 8 6 16 7 17 (ob := .cells #[.int .i64 0, .int .i64 0] 25) (ob' := .cells #[.int .i64 0, .int .i64 0] 25) (by kernel_rfl) (by kernel_rfl) (by decide) (by decide) rfl rfl rfl (fun _ _ => by kernel_rfl) (by kernel_rfl) (by simp) rfl rfl rfl (fun _ _ => by kernel_rfl) (by kernel_rfl) (by simp) ?_; (intro hatc hatf; simp only [List.take_succ_cons, List.take_zero, List.drop_succ_cons, List.drop_zero]; (repeat (first | (refine mildWalk_made (by decide) ?_; simp only [Act.put, List.setIfInBounds_toArray, List.set_cons_zero, List.set_cons_succ]) | (refine mildWalk_step (by decide) (fun K hK => ?_); go_simp; first | (refine hK _ ?_; clear hK K) | (apply Exists.intro; refine ⟨fun _ => ?_, hK _ ?_⟩; (first | (go_at_call 70; exact hl _) | (go_at_call 71; exact hs _)); clear hK K)))); refine mildWalk_nil ?_; (try simp only [List.setIfInBounds_toArray, List.set_cons_zero, List.set_cons_succ])))
  intro y b b' hb hb' hbb hh hh'
  have hny : New w y.w := New.hat hn6 y
  have j0 := cell_of_heap (o := 0) hh rfl
  have j1 := cell_of_heap (o := 1) hh rfl
  have j2 := cell_of_heap (o := 0) hh' rfl
  have j3 := cell_of_heap (o := 1) hh' rfl
  have jf := fun o => frozen_of_heap (o := o) hh
  have jf' := fun o => frozen_of_heap (o := o) hh'
  have hm : New X y.w := New.hat (New.refl X) y
  have hlt7 : B6 + 1 < X.heap.size := World.block_lt_of_cell? _ _ i2
  replace fz0 := hm.keepF d0 fz0
  replace fz1 := hm.keepF d1 fz1
  replace fz2 := hm.keepF d2 fz2
  replace fz3 := hm.keepF d3 fz3
  replace fz4 := hm.keepF d4 fz4
  replace fz5 := hm.keepF d5 fz5
  replace d0 := hm.keep d0
  replace d1 := hm.keep d1
  replace d2 := hm.keep d2
  replace d3 := hm.keep d3
  replace d4 := hm.keep d4
  replace d5 := hm.keep d5
  generalize y.w = Y at *
  have jb1 : w.heap.size + 1 + 1 < b := by omega
  have jb2 : w.heap.size + 1 + 1 < b' := by omega
  clear hh hh' hatc hatf hm e0 e1 e2 e3 i0 i1 i2 i3 hl hs
  go_upto_region 6 with fail
  refine Code.at (fun Z hZ => ?_)
  have r0 : Z.cell? ⟨b, 0, none⟩ = some (.int .i64 fn) := by subst hZ; go_simp
  have r1 : Z.cell? ⟨b, 1, none⟩ = some (.int .i64 fd) := by subst hZ; go_simp
  have r2 : Z.cell? ⟨b', 0, none⟩ = some (.int .i64 ln) := by subst hZ; go_simp
  have r3 : Z.cell? ⟨b', 1, none⟩ = some (.int .i64 ld) := by subst hZ; go_simp
  have hbz : w.heap.size ≤ b := by omega
  have hbz' : w.heap.size ≤ b' := by omega
  have hnZ : New w Z := by subst hZ; (repeat (first | (with_reducible exact New.refl _) | (with_reducible assumption) | ((with_reducible refine New.setB ?_ ?_ _); focus (first | omega | (simp; omega) | (simp; done))) | (with_reducible refine New.alloc ?_ _) | (with_reducible refine New.drew ?_) | (with_reducible refine New.drewN ?_ _) | (with_reducible refine New.hat ?_ _) | ((with_reducible apply New.snart); (with_reducible assumption))))
  replace fz0 : Z.frozen? ⟨w.heap.size + 1 + 1, 0, none⟩ = false := by subst hZ; simpa using fz0
  replace fz1 : Z.frozen? ⟨w.heap.size + 1 + 1, 1, none⟩ = false := by subst hZ; simpa using fz1
  replace fz2 : Z.frozen? ⟨w.heap.size + 1 + 1, 2, none⟩ = false := by subst hZ; simpa using fz2
  replace fz3 : Z.frozen? ⟨w.heap.size + 1 + 1, 3, none⟩ = false := by subst hZ; simpa using fz3
  replace fz4 : Z.frozen? ⟨w.heap.size + 1 + 1, 4, none⟩ = false := by subst hZ; simpa using fz4
  replace fz5 : Z.frozen? ⟨w.heap.size + 1 + 1, 5, none⟩ = false := by subst hZ; simpa using fz5
  replace d0 : Z.cell? ⟨w.heap.size + 1 + 1, 0, none⟩ = some (.int .i64 0) := by subst hZ; go_simp
  replace d1 : Z.cell? ⟨w.heap.size + 1 + 1, 1, none⟩ = some (.int .i64 0) := by subst hZ; go_simp
  replace d2 : Z.cell? ⟨w.heap.size + 1 + 1, 2, none⟩ = some (.int .i64 0) := by subst hZ; go_simp
  replace d3 : Z.cell? ⟨w.heap.size + 1 + 1, 3, none⟩ = some (.int .i64 0) := by subst hZ; go_simp
  replace d4 : Z.cell? ⟨w.heap.size + 1 + 1, 4, none⟩ = some (.int .i64 0) := by subst hZ; go_simp
  replace d5 : Z.cell? ⟨w.heap.size + 1 + 1, 5, none⟩ = some (.int .i64 0) := by subst hZ; go_simp
  clear hZ j0 j1 j2 j3 jf jf' hn6 hny
  cases o1 with
  | false =>
    (go_wp2_with fail; refine bodyPost_ret (v := .tuple #[.agg #[.int .i64 0, .int .i64 0, .int .i64 0, .int .i64 0, .int .i64 0, .int .i64 0], .bool false]) (by simp [results, Try.results42, go_sem, *]) rfl ?_)
    exact ⟨by rw [HM.out, if_neg (by simp)]; rfl, by (repeat (first | (with_reducible exact New.refl _) | (with_reducible assumption) | ((with_reducible refine New.setB ?_ ?_ _); focus (first | omega | (simp; omega) | (simp; done))) | (with_reducible refine New.alloc ?_ _) | (with_reducible refine New.drew ?_) | (with_reducible refine New.drewN ?_ _) | (with_reducible refine New.hat ?_ _) | ((with_reducible apply New.snart); (with_reducible assumption))))⟩
  | true =>
    cases o2 with
    | false =>
      (go_wp2_with fail; refine bodyPost_ret (v := .tuple #[.agg #[.int .i64 0, .int .i64 0, .int .i64 0, .int .i64 0, .int .i64 0, .int .i64 0], .bool false]) (by simp [results, Try.results42, go_sem, *]) rfl ?_)
      exact ⟨by rw [HM.out, if_neg (by simp)]; rfl, by (repeat (first | (with_reducible exact New.refl _) | (with_reducible assumption) | ((with_reducible refine New.setB ?_ ?_ _); focus (first | omega | (simp; omega) | (simp; done))) | (with_reducible refine New.alloc ?_ _) | (with_reducible refine New.drew ?_) | (with_reducible refine New.drewN ?_ _) | (with_reducible refine New.hat ?_ _) | ((with_reducible apply New.snart); (with_reducible assumption))))⟩
    | true =>
      obtain ⟨q1, q2, q3, q4⟩ := HF.out rfl rfl
      have cl := fun W => c_less ln ld fn fd W
      cases hv : lessB ln ld fn fd with
      | true =>
        simp only [hv] at cl
        have HV : Hid (lessB ln ld fn fd = true) := hv
        clear hv
        go_wp2_with fail
        refine (cl _).mono ?_
        rintro e w7 ⟨rfl, n7⟩
        ((replace fz0 := n7.keepF d0 fz0); (replace fz1 := n7.keepF d1 fz1); (replace fz2 := n7.keepF d2 fz2); (replace fz3 := n7.keepF d3 fz3); (replace fz4 := n7.keepF d4 fz4); (replace fz5 := n7.keepF d5 fz5); (replace d0 := n7.keep d0); (replace d1 := n7.keep d1); (replace d2 := n7.keep d2); (replace d3 := n7.keep d3); (replace d4 := n7.keep d4); (replace d5 := n7.keep d5))
        have hn7 := hnZ.trans n7
        (go_wp2_with fail; refine bodyPost_ret (v := .tuple #[.agg #[.int .i64 0, .int .i64 0, .int .i64 0, .int .i64 0, .int .i64 0, .int .i64 0], .bool false]) (by simp [results, Try.results42, go_sem, *]) rfl ?_)
        refine ⟨?_, by (repeat (first | (with_reducible exact New.refl _) | (with_reducible assumption) | ((with_reducible refine New.setB ?_ ?_ _); focus (first | omega | (simp; omega) | (simp; done))) | (with_reducible refine New.alloc ?_ _) | (with_reducible refine New.drew ?_) | (with_reducible refine New.drewN ?_ _) | (with_reducible refine New.hat ?_ _) | ((with_reducible apply New.snart); (with_reducible assumption))))⟩
        rw [HM.out, ← HQ.out.1, ← HQ.out.2.1, ← HQ.out.2.2.1, ← HQ.out.2.2.2, if_neg (by rw [HV.out]; simp)]
        rfl
      | false =>
        simp only [hv] at cl
        have HV : Hid (lessB ln ld fn fd = false) := hv
        clear hv
        go_wp2_with fail
        refine (cl _).mono ?_
        rintro e w7 ⟨rfl, n7⟩
        ((replace fz0 := n7.keepF d0 fz0); (replace fz1 := n7.keepF d1 fz1); (replace fz2 := n7.keepF d2 fz2); (replace fz3 := n7.keepF d3 fz3); (replace fz4 := n7.keepF d4 fz4); (replace fz5 := n7.keepF d5 fz5); (replace d0 := n7.keep d0); (replace d1 := n7.keep d1); (replace d2 := n7.keep d2); (replace d3 := n7.keep d3); (replace d4 := n7.keep d4); (replace d5 := n7.keep d5))
        replace r0 := n7.keep r0
        replace r1 := n7.keep r1
        replace r2 := n7.keep r2
        replace r3 := n7.keep r3
        have hn7 := hnZ.trans n7
        clear hnZ n7 cl
        obtain ⟨u1, rfl⟩ : ∃ u : Nat, fn = u := ⟨fn.toNat, by omega⟩
        obtain ⟨u2, rfl⟩ : ∃ u : Nat, fd = u := ⟨fd.toNat, by omega⟩
        obtain ⟨u3, rfl⟩ : ∃ u : Nat, ln = u := ⟨ln.toNat, by omega⟩
        obtain ⟨u4, rfl⟩ : ∃ u : Nat, ld = u := ⟨ld.toNat, by omega⟩
        obtain ⟨v1, hv1⟩ : ∃ v, v = u1 / Nat.gcd u2 u1 := ⟨_, rfl⟩
        obtain ⟨v2, hv2⟩ : ∃ v, v = u2 / Nat.gcd u2 u1 := ⟨_, rfl⟩
        obtain ⟨v3, hv3⟩ : ∃ v, v = u3 / Nat.gcd u4 u3 := ⟨_, rfl⟩
        obtain ⟨v4, hv4⟩ : ∃ v, v = u4 / Nat.gcd u4 u3 := ⟨_, rfl⟩
        have k1 := fun W => c_reduced u1 u2 W (by omega) (by omega) (by omega)
        have k2 := fun W => c_reduced u3 u4 W (by omega) (by omega) (by omega)
        simp only [← hv1, ← hv2] at k1
        simp only [← hv3, ← hv4] at k2
        have HW : Hid _ := And.intro hv1 (And.intro hv2 (And.intro hv3 hv4))
        clear hv1 hv2 hv3 hv4
        go_upto_region 8 with fail
        (refine wp_region_steady 7 (by kernel_rfl) (by kernel_rfl) ?_; (intro hatc hatf; simp only [List.take_succ_cons, List.take_zero, List.drop_succ_cons, List.drop_zero]; (repeat (first | (refine mildWalk_made (by decide) ?_; simp only [Act.put, List.setIfInBounds_toArray, List.set_cons_zero, List.set_cons_succ]) | (refine mildWalk_step (by decide) (fun K hK => ?_); go_simp; first | (refine hK _ ?_; clear hK K) | (apply Exists.intro; refine ⟨fun _ => ?_, hK _ ?_⟩; (first | (go_at_call 72; with_reducible exact k1 _) | (go_at_call 72; with_reducible exact k2 _)); clear hK K)))); refine mildWalk_nil ?_; (try simp only [List.setIfInBounds_toArray, List.set_cons_zero, List.set_cons_succ])))
        intro y
        have hny := New.hat hn7 y
        have hm : New w7 y.w := New.hat (New.refl w7) y
        ((replace fz0 := hm.keepF d0 fz0); (replace fz1 := hm.keepF d1 fz1); (replace fz2 := hm.keepF d2 fz2); (replace fz3 := hm.keepF d3 fz3); (replace fz4 := hm.keepF d4 fz4); (replace fz5 := hm.keepF d5 fz5); (replace d0 := hm.keep d0); (replace d1 := hm.keep d1); (replace d2 := hm.keep d2); (replace d3 := hm.keep d3); (replace d4 := hm.keep d4); (replace d5 := hm.keep d5))
        clear hatc hatf
        go_wp2_with fail
        refine bodyPost_ret (v := .tuple #[.agg #[.int .i64 x, .int .i64 z, .int .i64 (v1 : Int), .int .i64 (v2 : Int), .int .i64 (v3 : Int), .int .i64 (v4 : Int)], .bool true]) (by simp [results, Try.results42, go_sem, *]) rfl ?_
        refine ⟨?_, by (repeat (first | (with_reducible exact New.refl _) | (with_reducible assumption) | ((with_reducible refine New.setB ?_ ?_ _); focus (first | omega | (simp; omega) | (simp; done))) | (with_reducible refine New.alloc ?_ _) | (with_reducible refine New.drew ?_) | (with_reducible refine New.drewN ?_ _) | (with_reducible refine New.hat ?_ _) | ((with_reducible apply New.snart); (with_reducible assumption))))⟩
        rw [HM.out, ← HQ.out.1, ← HQ.out.2.1, ← HQ.out.2.2.1, ← HQ.out.2.2.2, if_pos (by rw [HV.out]; simp)]
        simp only [Int.toNat_natCast, ← HW.out.1, ← HW.out.2.1, ← HW.out.2.2.1, ← HW.out.2.2.2]
        rfl

end Go.Proofs.Ytmpkciidhopckaa
