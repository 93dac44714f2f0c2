/- bins.list: the tiles that are gone over, in a row. -/
import Derived.Test.YtonngfogbnfbnaaDoorBinsI
import Derived.Maps.AppendAt
import Derived.OwnWalk
namespace Go.Proofs.YtonngfogbnfbnaaDoor
open Go.RowKit Go.Shelf
set_option linter.unusedVariables false
set_option maxRecDepth 100000
attribute [local go_sem] Oper.semAt_some

theorem own_put {W : World} {base size n D : Nat} {e : TypeId} {v : Value} {xs : List Value} {o : Obj} (h : W.ownsRow base e size v n xs) (hD : W.heap[D]? = some (.deferred (some []))) : (W.putObj D o).ownsRow base e size v n xs := by
  obtain ⟨h1, h2⟩ := h
  refine ⟨h1, h2.imp id ?_⟩
  rintro ⟨g, cap, cur, rfl, hb, hg, r⟩
  have hne : g ≠ D := fun e => by subst e; rw [hg] at hD; cases hD
  exact ⟨g, cap, cur, rfl, hb, (World.putObj_heap_other hne).trans hg, r⟩

set_option maxHeartbeats 4000000 in
theorem bn_list (cl cb ht ri ru wd dp x0 z0 x1 z1 : Int) (Bc : Nat) (w : World) (hE : EachAt w Bc cl cb ht ri ru wd dp x0 z0 x1 z1) (hl : Nowhere w) :
    CallsIn Fence.wide 5 Tryd.prog 29 #[seqV Bc] w fun e w' =>
      ∃ v, e = .returned v ∧ w'.ownsRow w.heap.size 3 1 v (tilesL cl cb ht ri ru wd dp x0 z0 x1 z1).length ((tilesL cl cb ht ri ru wd dp x0 z0 x1 z1).flatMap iE) ∧ New w w' := by
  obtain ⟨i0, hi, hz0, hz1, hz2⟩ := info_parts int_info
  unfold seqV
  refine callsIn_of_wp_marks Tryd.func29 rfl trivial ?_ rfl
  simp only [Tryd.ntmps29, List.size_toArray, List.length_cons, List.length_nil, Nat.reduceAdd, Nat.reduceSub, Array.replicate_succ, Array.replicate_zero, List.push_toArray, List.append_toArray, List.nil_append, List.cons_append]
  gi_wp2_with fail
  obtain ⟨W0, hW0⟩ : ∃ W0, W0 = w.alloc (.cells #[.slice none 0 0] 24) := ⟨_, rfl⟩
  have hs0 : W0.heap.size = w.heap.size + 1 := by subst hW0; simp
  have bO : Boxed W0 w.heap.size 24 (.slice none 0 0) := by subst hW0; exact Boxed.new w _ _
  have hn0 : Below w.heap.size w W0 := by subst hW0; exact (Below.refl _ w).alloc (Nat.le_refl _) _
  have hn : New w W0 := hn0
  rw [← hW0]
  clear hW0
  have hBc : Bc + 1 + 1 + 1 + 1 < w.heap.size := World.block_lt_of_cell? _ _ hE.d3
  refine wpIn_rangeFunc_ownH rfl (by omega) (gf := 36) (lb := #[.pointer (some ⟨Bc, 0, none⟩), .pointer (some ⟨Bc + 1, 0, none⟩), .pointer (some ⟨Bc + 1 + 1, 0, none⟩), .pointer (some ⟨Bc + 1 + 1 + 1, 0, none⟩), .pointer (some ⟨Bc + 1 + 1 + 1 + 1, 0, none⟩)]) rfl trivial (enters_of Tryd.func36 (by kernel_rfl) rfl)
    (b_stops cl cb ht ri ru wd dp x0 z0 x1 z1 4 (by omega) Bc w.heap.size W0 (hE.new hn) (hl.new hn) hBc (by omega))
    (fun h k => fun b hb => (k b hb).trans (h b hb)) (fun W l o o' hl _ _ _ => fun b hb => World.putObj_heap_other (by omega)) (Below.refl _ _) (fun _ => rfl)
    (fun pre W => (∃ v, Boxed W w.heap.size 24 v ∧ W.ownsRow w.heap.size 3 1 v pre.length (pre.flatMap iE) ∧ True) ∧ Below w.heap.size w W)
    (fun _ _ _ => False)
    (OwnFrom.and (Own.from (holdsRow_own w.heap.size w.heap.size 24 3 1 (fun (pre : List Int) => pre.length) (fun (pre : List Int) => pre.flatMap iE) (fun _ _ => True)) _) (ownFrom_below (Nat.le_refl _) (by omega)))
    (fun _ _ _ _ _ hs _ _ => hs)
    ⟨⟨_, bO, World.ownsRow_nil _ _ _ _, trivial⟩, hn0⟩
    (fun t a' _ => a' = { tmps := #[.func (.func 36) #[] #[.pointer (some ⟨Bc, 0, none⟩), .pointer (some ⟨Bc + 1, 0, none⟩), .pointer (some ⟨Bc + 1 + 1, 0, none⟩), .pointer (some ⟨Bc + 1 + 1 + 1, 0, none⟩), .pointer (some ⟨Bc + 1 + 1 + 1 + 1, 0, none⟩)], undef, .slice none 0 0, .pointer (some ⟨w.heap.size, 0, none⟩), .int .i64 t, .func (.func 36) #[] #[.pointer (some ⟨Bc, 0, none⟩), .pointer (some ⟨Bc + 1, 0, none⟩), .pointer (some ⟨Bc + 1 + 1, 0, none⟩), .pointer (some ⟨Bc + 1 + 1 + 1, 0, none⟩), .pointer (some ⟨Bc + 1 + 1 + 1 + 1, 0, none⟩)], .int .i64 t, undef, undef, undef, undef, undef], defers := [] })
    (fun _ _ _ _ _ _ hs _ _ => hs) ?assign ?body ?done ?stop
  case assign =>
    intro l pre t W K hi' hK
    simp only [List.zip_toArray, List.zip_cons_cons, List.zip_nil_right, List.foldl_toArray', List.foldl_cons, List.foldl_nil, List.setIfInBounds_toArray, List.set_cons_succ, List.set_cons_zero, List.size_toArray, List.length_cons, List.length_nil]
    gi_wp2
    exact hK _ _ ((KeepsOthers.refl _).from _) (fun _ _ => rfl) hi' rfl
  case body =>
    rintro l pre t a' W hl' ⟨r, hr⟩ ⟨⟨v, hv, hrow, _⟩, hB⟩ rfl hlt
    have hc := hv.cell
    have hBs := hB.size
    gi_wp2_with (gi_at_builtin; refine wpListIn_append_own _ rfl _ _ 24 rfl w.heap.size 3 i0 (.int .i64 0) 1 8 Tryd.underlying24 hi hz0 hz1 hz2 rfl (by decide) _ _ _ rfl (hrow.alloc _) ⟨W.heap.size, 0, none⟩ 1 1 (iE t) rfl rfl (cells_int _ _ _) (by intro u hu; simp at hu; subst hu; rfl) (by unfold maxLen; omega) (by omega) (by simp; omega) ?_; intro v' w1 hown' hgrow _; obtain ⟨g', cap', rfl⟩ := ownsRow_succ hown'; obtain ⟨hv1, hv2, hr2, hk2, hb2⟩ := hv.appended (by decide) hrow hB.size (Nat.le_refl _) hown' hgrow; have hc1 := hv1.cell; have hf1 := hv1.frozen)
    refine ⟨hk2.from _, fun b hb => ?_, ⟨_, hv2, by rw [List.flatMap_append, List.length_append]; simpa using hr2, trivial⟩, hB.trans hb2⟩
    exact hb2.block b hb
  case done =>
    rintro D ys W hD rfl ⟨⟨v, hv, hrow, _⟩, hB⟩ hK
    have hc := hv.cell
    gi_wp2_with fail
    refine ⟨by simp, .inl ⟨_, _, rfl, run_takeDeferred hK, ?_⟩⟩
    exact ⟨_, results_tmp rfl _ _ _, v, rfl, own_put hrow hK, Go.RowKit.Below.trans hB (belowK_b (w := w) (Nat.le_refl _) W D _ _ (by omega) hK rfl rfl)⟩
  case stop =>
    rintro D c pre W _ _ h _
    exact h.elim

theorem bList_any (cl cb ht ri ru wd dp x0 z0 x1 z1 : Int) (Bc : Nat) (w : World) (hE : EachAt w Bc cl cb ht ri ru wd dp x0 z0 x1 z1) (hl : Nowhere w) :
    Calls Tryd.prog 29 #[seqV Bc] w fun e w' =>
      ∃ v, e = .returned v ∧ w'.ownsRow w.heap.size 3 1 v (tilesL cl cb ht ri ru wd dp x0 z0 x1 z1).length ((tilesL cl cb ht ri ru wd dp x0 z0 x1 z1).flatMap iE) ∧ New w w' :=
  (callsIn_wide (n := 5)).1 (bn_list cl cb ht ri ru wd dp x0 z0 x1 z1 Bc w hE hl)

end Go.Proofs.YtonngfogbnfbnaaDoor
