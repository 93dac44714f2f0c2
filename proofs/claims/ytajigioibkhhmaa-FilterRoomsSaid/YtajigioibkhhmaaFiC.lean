/- Package filter: Room. -/
import Derived.Test.YtajigioibkhhmaaFiB
namespace Go.Proofs.Ytajigioibkhhmaa
open Go.RowKit Go.Shelf Go.Sort
set_option linter.unusedVariables false
attribute [local go_sem] Oper.semAt_some

/-- Is there such a room? -/
def rOk (l : List Sn) (k : Int) : Bool := decide (spE l = 0) && (decide (0 ≤ k) && decide (k < l.length))
def rTop (l : List Sn) (k : Int) : Int := if rOk l k = true then roofF l k.toNat else 0
theorem rOk_iff (l : List Sn) (k : Int) : rOk l k = true ↔ spE l = 0 ∧ 0 ≤ k ∧ k < l.length := by unfold rOk; simp
theorem rTop_at {l : List Sn} (h : spE l = 0) {j : Nat} (hj : j < l.length) : rOk l j = true ∧ rTop l j = roofF l j := by
  have h1 : rOk l j = true := (rOk_iff l j).2 ⟨h, by omega, by omega⟩
  exact ⟨h1, by unfold rTop; rw [if_pos h1]; simp⟩
theorem rTop_no {l : List Sn} {k : Int} (h : ¬ (spE l = 0 ∧ 0 ≤ k ∧ k < l.length)) : rOk l k = false ∧ rTop l k = 0 := by
  have h1 : rOk l k = false := by
    cases hb : rOk l k
    · rfl
    · exact absurd ((rOk_iff l k).1 hb) h
  exact ⟨h1, by unfold rTop; rw [h1]; rfl⟩

theorem room_leaves {w U : World} {T : Array Value} {tt : Int} {bb : Bool} {r1 r2 : Nat} (h4 : T.getD 4 undef = .pointer (some ⟨r1, 0, none⟩)) (h5 : T.getD 5 undef = .pointer (some ⟨r2, 0, none⟩)) (b1 : Boxed U r1 3 (.int .i64 tt)) (b2 : Boxed U r2 4 (.bool bb)) (hn : New w U) :
    LeavesIn Fence.wide 5 Try.prog Try.f6 T (fun e w' => e = .returned (.tuple #[.int .i64 tt, .bool bb]) ∧ New w w') [] .returning U := by
  have c1 := b1.cell
  have c2 := b2.cell
  refine ⟨.tuple #[.int .i64 tt, .bool bb], ?_, rfl, hn⟩
  have h4' : T[4]?.getD undef = .pointer (some ⟨r1, 0, none⟩) := by simpa using h4
  have h5' : T[5]?.getD undef = .pointer (some ⟨r2, 0, none⟩) := by simpa using h5
  simp [results, Try.results6, go_sem, h4', h5', c1, c2]

set_option maxHeartbeats 2000000 in
set_option maxRecDepth 100000 in
theorem fi_room (at0 : Option Addr) (l : List Sn) (c : Nat) (hl : l.length ≤ maxLen) (k : Int) (w : World) (H : RowIn Sn.enc 3 w at0 l) :
    Calls Try.prog 6 #[.slice at0 l.length c, .int .i64 k] w fun e w' => e = .returned (.tuple #[.int .i64 (rTop l k), .bool (rOk l k)]) ∧ New w w' := by
  have KS := Lib.hid (fun W n => sp_check at0 l c hl W (H.keep (n : New w W)))
  have HH := Lib.hid H
  have h2 := chkE_two l
  obtain ⟨r, hr⟩ : ∃ r, r = spE l := ⟨_, rfl⟩
  rw [← hr] at KS h2
  have HR := Lib.hid hr
  obtain ⟨tt, ht⟩ : ∃ tt, tt = rTop l k := ⟨_, rfl⟩
  obtain ⟨bb, hb⟩ : ∃ bb, bb = rOk l k := ⟨_, rfl⟩
  rw [← ht, ← hb]
  have HT := Lib.hid (And.intro ht hb)
  clear hr H ht hb
  refine (callsIn_wide (n := 5)).1 ?_
  refine callsIn_of_wp_marks Try.func6 rfl trivial ?_ rfl
  simp only [Try.ntmps6, List.size_toArray, List.length_cons, List.length_nil, Nat.reduceAdd, Nat.reduceSub, Array.replicate_succ, Array.replicate_zero, List.push_toArray, List.append_toArray, List.nil_append, List.cons_append]
  refine wpIn_wide.2 ?_
  go_wp2_with fail
  refine Calls.at (fun W0 hW => ?_)
  have n0 : New w W0 := by subst hW; (repeat (first | (with_reducible exact New.refl _) | (with_reducible assumption) | ((with_reducible refine New.setB ?_ ?_ _); focus (first | omega | (simp; omega) | (simp; done))) | (with_reducible refine New.alloc ?_ _) | (with_reducible refine New.drew ?_) | (with_reducible refine New.drewN ?_ _) | (with_reducible refine New.hat ?_ _) | ((with_reducible apply New.snart); (with_reducible assumption))))
  have z0 : W0.heap.size = w.heap.size + 3 := by subst hW; simp
  have x0 : W0.heap[w.heap.size]? = some (.cells #[.int .i64 k] 3 (0, 0)) := by subst hW; exact (((New.refl _).alloc _).alloc _).stays (World.alloc_heap_new w _)
  have x1 : W0.heap[w.heap.size + 1]? = some (.cells #[.int .i64 0] 3 (0, 0)) := by
    subst hW
    have h := World.alloc_heap_new (w.alloc (.cells #[.int .i64 k] 3)) (.cells #[.int .i64 0] 3)
    rw [World.size_alloc] at h
    exact ((New.refl _).alloc _).stays h
  have x2 : W0.heap[w.heap.size + 1 + 1]? = some (.cells #[.bool false] 4 (0, 0)) := by
    subst hW
    have h := World.alloc_heap_new ((w.alloc (.cells #[.int .i64 k] 3)).alloc (.cells #[.int .i64 0] 3)) (.cells #[.bool false] 4)
    rw [World.size_alloc, World.size_alloc] at h
    exact h
  clear hW
  refine (KS.out _ n0).mono ?_
  rintro e W1 ⟨rfl, n1⟩
  have m1 : New w W1 := n0.trans n1
  have z1 := n1.size
  rw [z0] at z1
  replace x0 := New.stays n1 x0
  replace x1 := New.stays n1 x1
  replace x2 := New.stays n1 x2
  clear n0 n1 z0
  rcases h2 with rfl | rfl
  rotate_left
  · have f1 := (show Boxed W1 _ _ _ from x1).frozen
    have f2 := (show Boxed W1 _ _ _ from x2).frozen
    have c1 := (show Boxed W1 _ _ _ from x1).cell
    have c2 := (show Boxed W1 _ _ _ from x2).cell
    obtain ⟨q1, q2⟩ := rTop_no (l := l) (k := k) (fun h => by have := HR.out; omega)
    have HE : Hid (tt = 0 ∧ bb = false) := Lib.hid (by rw [HT.out.1, HT.out.2]; exact ⟨q2, q1⟩)
    clear q1 q2
    go_wp2_with fail
    rw [HE.out.1, HE.out.2]
    have b1 := ((show Boxed W1 _ _ _ from x1).set (.int .i64 0)).other (show w.heap.size + 1 ≠ w.heap.size + 1 + 1 by omega) (.bool false)
    have b2 := ((show Boxed W1 _ _ _ from x2).other (show w.heap.size + 1 + 1 ≠ w.heap.size + 1 by omega) (.int .i64 0)).set (.bool false)
    exact room_leaves rfl rfl b1 b2 ((m1.setB (by simp) _).setB (by simp; omega) _)
  · have c0 := (show Boxed W1 _ _ _ from x0).cell
    go_wp2_with fail
    refine (callsIn_wide.1 (fi_rooms at0 l.length c 4 _)).mono ?_
    rintro e W2 ⟨rfl, hW2⟩
    have n2 : New W1 W2 := by subst hW2; (repeat (first | (with_reducible exact New.refl _) | (with_reducible assumption) | ((with_reducible refine New.setB ?_ ?_ _); focus (first | omega | (simp; omega) | (simp; done))) | (with_reducible refine New.alloc ?_ _) | (with_reducible refine New.drew ?_) | (with_reducible refine New.drewN ?_ _) | (with_reducible refine New.hat ?_ _) | ((with_reducible apply New.snart); (with_reducible assumption))))
    have hbx : W2.heap[W1.heap.size]? = some (.cells #[.slice at0 l.length c] 24 (0, 0)) := by subst hW2; exact World.alloc_heap_new _ _
    have RB : RowBox W2 W1.heap.size at0 c l := ⟨hbx, HH.out.keep (m1.trans n2)⟩
    have z2 : W2.heap.size = W1.heap.size + 1 := by subst hW2; simp
    have m2 : New w W2 := m1.trans n2
    replace x0 := New.stays n2 x0
    replace x1 := New.stays n2 x1
    replace x2 := New.stays n2 x2
    clear hW2 hbx n2 m1 c0
    generalize W1.heap.size = B at *
    have hl8 := (chkE_zero HR.out.symm).1
    have hBl := RB.lt
    have hRl := RB.row_lt
    go_wp2_with fail
    refine (wpIn_wide (n := 5)).1 ?_
    refine wpIn_rangeL rfl (by omega) (gf := 27) (lb := #[.pointer (some ⟨B, 0, none⟩)]) rfl trivial (enters_of Try.func27 (by kernel_rfl) rfl)
      (fi_rooms1 at0 l c B (by omega) 4 (by omega) W2 RB) (fun h k => h.trans k) (fun W o _ => ⟨World.putObj_heap_other (by omega), World.putObj_heap_other (by omega)⟩) (Below.refl _ _) (fun _ => rfl)
      (fun i W => (∀ j : Nat, j < i → (j : Int) ≠ k) ∧ Below w.heap.size w W ∧ W.heap[w.heap.size]? = some (.cells #[.int .i64 k] 3 (0, 0)) ∧ W.heap[w.heap.size + 1]? = some (.cells #[.int .i64 0] 3 (0, 0)) ∧ W.heap[w.heap.size + 1 + 1]? = some (.cells #[.bool false] 4 (0, 0)))
      (fun q i W => (q = Code.ret ∧ ∃ j : Nat, i = j + 1 ∧ (j : Int) = k) ∧ Below w.heap.size w W ∧ W.heap[w.heap.size + 1]? = some (.cells #[.int .i64 (roofF l k.toNat)] 3 (0, 0)) ∧ W.heap[w.heap.size + 1 + 1]? = some (.cells #[.bool true] 4 (0, 0)))
      (OwnFrom.and (own_pure _ _) (OwnFrom.and (ownFrom_below (Nat.le_refl _) (by omega)) (OwnFrom.and (own_blk _ _) (OwnFrom.and (own_blk _ _) (own_blk _ _)))))
      (fun q => OwnFrom.and (own_pure _ _) (OwnFrom.and (ownFrom_below (Nat.le_refl _) (by omega)) (OwnFrom.and (own_blk _ _) (own_blk _ _))))
      ⟨fun j hj => absurd hj (by omega), m2, x0, x1, x2⟩
      (fun i a' _ => a' = { tmps := #[.slice at0 l.length c, .int .i64 k, undef, .pointer (some ⟨w.heap.size, 0, none⟩), .pointer (some ⟨w.heap.size + 1, 0, none⟩), .pointer (some ⟨w.heap.size + 1 + 1, 0, none⟩), .int .i64 (i : Nat), .int .i64 (roofF l i), .slice at0 l.length c, .int .i64 0, .bool false, .slice at0 l.length c, .func (.func 27) #[] #[.pointer (some ⟨B, 0, none⟩)], .int .i64 (i : Nat), .int .i64 (roofF l i), undef, undef, undef, undef], defers := [] })
      (fun i a' => fun _ _ _ _ hs _ _ => hs) ?assign ?body ?done ?stop
    case assign =>
      intro i hi W K hI hK
      simp only [roomE, List.getElem_range]
      simp only [List.zip_toArray, List.zip_cons_cons, List.zip_nil_right, List.foldl_toArray', List.foldl_cons, List.foldl_nil, List.setIfInBounds_toArray, List.set_cons_succ, List.set_cons_zero, List.size_toArray, List.length_cons, List.length_nil]
      gi_wp2
      exact hK _ _ (KeepsFrom.refl _ _) (Keep2.refl _) hI rfl
    case body =>
      rintro i hi a' W - ⟨hno, hbl, y0, y1, y2⟩ rfl
      have c0 := (show Boxed W _ _ _ from y0).cell
      have c1 := (show Boxed W _ _ _ from y1).cell
      have c2 := (show Boxed W _ _ _ from y2).cell
      have f1 := (show Boxed W _ _ _ from y1).frozen
      have f2 := (show Boxed W _ _ _ from y2).frozen
      by_cases h : (i : Int) = k
      · have hd : ((i : Int) == k) = true := by rw [beq_iff_eq]; exact h
        have HK := Lib.hid h
        clear h
        gi_wp2_with fail
        refine ⟨((KeepsOthers.setCell _ _ _).trans (KeepsOthers.setCell _ _ _)).from _, ⟨rfl, i, rfl, HK.out⟩, Below.setCell (Below.setCell hbl (by simp) _) (by simp; omega) _, ?_, ?_⟩
        · have e : roofF l k.toNat = roofF l i := by rw [← HK.out]; simp
          rw [e]
          exact ((show Boxed W _ _ _ from y1).set _).other (by omega) _
        · exact ((show Boxed W _ _ _ from y2).other (by omega) _).set _
      · have hd : ((i : Int) == k) = false := by rw [beq_eq_false_iff_ne]; exact h
        have HK := Lib.hid h
        clear h
        gi_wp2_with fail
        refine ⟨KeepsFrom.refl _ _, Keep2.refl _, fun j hj => ?_, hbl, y0, y1, y2⟩
        by_cases e : j < i
        · exact hno j e
        · have e2 : j = i := by omega
          subst e2
          exact HK.out
    case done =>
      rintro W ⟨hno, hbl, y0, y1, y2⟩ hK
      have c1 := (show Boxed W _ _ _ from y1).cell
      have c2 := (show Boxed W _ _ _ from y2).cell
      have f1 := (show Boxed W _ _ _ from y1).frozen
      have f2 := (show Boxed W _ _ _ from y2).frozen
      obtain ⟨q1, q2⟩ := rTop_no (l := l) (k := k) (fun h => hno k.toNat (by rw [List.length_range]; omega) (by omega))
      have HE : Hid (tt = 0 ∧ bb = false) := Lib.hid (by rw [HT.out.1, HT.out.2]; exact ⟨q2, q1⟩)
      clear q1 q2 hno
      go_wp2_with fail
      rw [HE.out.1, HE.out.2]
      have b1 := ((show Boxed W _ _ _ from y1).set (.int .i64 0)).other (show w.heap.size + 1 ≠ w.heap.size + 1 + 1 by omega) (.bool false)
      have b2 := ((show Boxed W _ _ _ from y2).other (show w.heap.size + 1 + 1 ≠ w.heap.size + 1 by omega) (.int .i64 0)).set (.bool false)
      have hb2 := Below.setCell (p := ⟨w.heap.size + 1 + 1, 0, none⟩) (Below.setCell (p := ⟨w.heap.size + 1, 0, none⟩) hbl (by simp) (.int .i64 0)) (by simp; omega) (.bool false)
      refine ret_mark (((KeepsOthers.setCell _ _ _).trans (KeepsOthers.setCell _ _ _)).same _ _ hK rfl) fun U hU hk => ?_
      exact room_leaves rfl rfl ((hk _ (by omega)).trans b1) ((hk _ (by omega)).trans b2) (by rw [hU]; exact Go.RowKit.Below.trans hb2 (belowK_b (w := w) (Nat.le_refl _) _ _ _ _ (by omega) (((KeepsOthers.setCell _ _ _).trans (KeepsOthers.setCell _ _ _)).same _ _ hK rfl) rfl rfl))
    case stop =>
      rintro i q W hi0 hi1 ⟨⟨rfl, j, rfl, hj⟩, hbl, y1, y2⟩ hK
      rw [List.length_range] at hi1
      obtain ⟨q1, q2⟩ := rTop_at (l := l) HR.out.symm (j := j) (by omega)
      rw [hj] at q1 q2
      have e : k.toNat = j := by omega
      have HE : Hid (tt = roofF l k.toNat ∧ bb = true) := Lib.hid (by rw [HT.out.1, HT.out.2, e]; exact ⟨q2, q1⟩)
      clear q1 q2 e
      refine wpIn_wide.2 ?_
      go_wp2_with fail
      rw [HE.out.1, HE.out.2]
      refine ret_mark hK fun U hU hk => ?_
      exact room_leaves rfl rfl ((hk _ (by omega)).trans y1) ((hk _ (by omega)).trans y2) (by rw [hU]; exact Go.RowKit.Below.trans hbl (belowK_b (w := w) (Nat.le_refl _) _ _ _ _ (by omega) hK rfl rfl))

end Go.Proofs.Ytajigioibkhhmaa
