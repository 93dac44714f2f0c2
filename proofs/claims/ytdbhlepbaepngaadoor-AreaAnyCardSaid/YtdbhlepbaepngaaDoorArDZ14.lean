import Derived.Test.YtdbhlepbaepngaaDoorBinsIZ14
import Derived.Maps.AppendAt
import Derived.OwnWalk
import Derived.Test.YtdbhlepbaepngaaDoorSoGZ14
import Derived.Test.YtdbhlepbaepngaaDoorArCZ14
import Derived.Test.YtdbhlepbaepngaaDoorOgIZ14

/- bins.list: the tiles that are gone over, in a row. -/
namespace Go.Proofs.YtdbhlepbaepngaaDoor
open Go.RowKit Go.Shelf
set_option linter.unusedVariables false
set_option maxRecDepth 100000
attribute [local go_sem] Oper.semAt_some

theorem own_put {W : World} {base size n D : Nat} {e : TypeId} {v : Value} {xs : List Value} {o : Obj} (h : W.ownsRow base e size v n xs) (hD : W.heap[D]? = some (.deferred (some []))) : (W.putObj D o).ownsRow base e size v n xs := by
  obtain ⟨h1, h2⟩ := h
  refine ⟨h1, h2.imp id ?_⟩
  rintro ⟨g, cap, cur, rfl, hb, hg, r⟩
  have hne : g ≠ D := fun e => by subst e; rw [hg] at hD; cases hD
  exact ⟨g, cap, cur, rfl, hb, (World.putObj_heap_other hne).trans hg, r⟩

set_option maxHeartbeats 4000000 in
theorem bn_list (cl cb ht ri ru wd dp x0 z0 x1 z1 : Int) (Bc : Nat) (w : World) (hE : EachAt w Bc cl cb ht ri ru wd dp x0 z0 x1 z1) (hl : Nowhere w) :
    CallsIn Fence.wide 5 Tryd.prog 35 #[seqV Bc] w fun e w' =>
      ∃ v, e = .returned v ∧ w'.ownsRow w.heap.size 3 1 v (tilesL cl cb ht ri ru wd dp x0 z0 x1 z1).length ((tilesL cl cb ht ri ru wd dp x0 z0 x1 z1).flatMap iE) ∧ New w w' := by
  obtain ⟨i0, hi, hz0, hz1, hz2⟩ := info_parts int_info
  unfold seqV
  refine callsIn_of_wp_marks Tryd.func35 rfl trivial ?_ rfl
  simp only [Tryd.ntmps35, List.size_toArray, List.length_cons, List.length_nil, Nat.reduceAdd, Nat.reduceSub, Array.replicate_succ, Array.replicate_zero, List.push_toArray, List.append_toArray, List.nil_append, List.cons_append]
  gi_wp2_with fail
  obtain ⟨W0, hW0⟩ : ∃ W0, W0 = w.alloc (.cells #[.slice none 0 0] 63) := ⟨_, rfl⟩
  have hs0 : W0.heap.size = w.heap.size + 1 := by subst hW0; simp
  have bO : Boxed W0 w.heap.size 63 (.slice none 0 0) := by subst hW0; exact Boxed.new w _ _
  have hn0 : Below w.heap.size w W0 := by subst hW0; exact (Below.refl _ w).alloc (Nat.le_refl _) _
  have hn : New w W0 := hn0
  rw [← hW0]
  clear hW0
  have hBc : Bc + 1 + 1 + 1 + 1 < w.heap.size := World.block_lt_of_cell? _ _ hE.d3
  refine wpIn_rangeFunc_ownH rfl (by omega) (gf := 49) (lb := #[.pointer (some ⟨Bc, 0, none⟩), .pointer (some ⟨Bc + 1, 0, none⟩), .pointer (some ⟨Bc + 1 + 1, 0, none⟩), .pointer (some ⟨Bc + 1 + 1 + 1, 0, none⟩), .pointer (some ⟨Bc + 1 + 1 + 1 + 1, 0, none⟩)]) rfl trivial (enters_of Tryd.func49 (by kernel_rfl) rfl)
    (b_stops cl cb ht ri ru wd dp x0 z0 x1 z1 4 (by omega) Bc w.heap.size W0 (hE.new hn) (hl.new hn) hBc (by omega))
    (fun h k => fun b hb => (k b hb).trans (h b hb)) (fun W l o o' hl _ _ _ => fun b hb => World.putObj_heap_other (by omega)) (Below.refl _ _) (fun _ => rfl)
    (fun pre W => (∃ v, Boxed W w.heap.size 63 v ∧ W.ownsRow w.heap.size 3 1 v pre.length (pre.flatMap iE) ∧ True) ∧ Below w.heap.size w W)
    (fun _ _ _ => False)
    (OwnFrom.and (Own.from (holdsRow_own w.heap.size w.heap.size 63 3 1 (fun (pre : List Int) => pre.length) (fun (pre : List Int) => pre.flatMap iE) (fun _ _ => True)) _) (ownFrom_below (Nat.le_refl _) (by omega)))
    (fun _ _ _ _ _ hs _ _ => hs)
    ⟨⟨_, bO, World.ownsRow_nil _ _ _ _, trivial⟩, hn0⟩
    (fun t a' _ => a' = { tmps := #[.func (.func 49) #[] #[.pointer (some ⟨Bc, 0, none⟩), .pointer (some ⟨Bc + 1, 0, none⟩), .pointer (some ⟨Bc + 1 + 1, 0, none⟩), .pointer (some ⟨Bc + 1 + 1 + 1, 0, none⟩), .pointer (some ⟨Bc + 1 + 1 + 1 + 1, 0, none⟩)], undef, .slice none 0 0, .pointer (some ⟨w.heap.size, 0, none⟩), .int .i64 t, .func (.func 49) #[] #[.pointer (some ⟨Bc, 0, none⟩), .pointer (some ⟨Bc + 1, 0, none⟩), .pointer (some ⟨Bc + 1 + 1, 0, none⟩), .pointer (some ⟨Bc + 1 + 1 + 1, 0, none⟩), .pointer (some ⟨Bc + 1 + 1 + 1 + 1, 0, none⟩)], .int .i64 t, undef, undef, undef, undef, undef], defers := [] })
    (fun _ _ _ _ _ _ hs _ _ => hs) ?assign ?body ?done ?stop
  case assign =>
    intro l pre t W K hi' hK
    simp only [List.zip_toArray, List.zip_cons_cons, List.zip_nil_right, List.foldl_toArray', List.foldl_cons, List.foldl_nil, List.setIfInBounds_toArray, List.set_cons_succ, List.set_cons_zero, List.size_toArray, List.length_cons, List.length_nil]
    gi_wp2
    exact hK _ _ ((KeepsOthers.refl _).from _) (fun _ _ => rfl) hi' rfl
  case body =>
    rintro l pre t a' W hl' ⟨r, hr⟩ ⟨⟨v, hv, hrow, _⟩, hB⟩ rfl hlt
    have hc := hv.cell
    have hBs := hB.size
    gi_wp2_with (gi_at_builtin; refine wpListIn_append_own _ rfl _ _ 63 rfl w.heap.size 3 i0 (.int .i64 0) 1 8 Tryd.underlying63 hi hz0 hz1 hz2 rfl (by decide) _ _ _ rfl (hrow.alloc _) ⟨W.heap.size, 0, none⟩ 1 1 (iE t) rfl rfl (cells_int _ _ _) (by intro u hu; simp at hu; subst hu; rfl) (by unfold maxLen; omega) (by omega) (by simp; omega) ?_; intro v' w1 hown' hgrow _; obtain ⟨g', cap', rfl⟩ := ownsRow_succ hown'; obtain ⟨hv1, hv2, hr2, hk2, hb2⟩ := hv.appended (by decide) hrow hB.size (Nat.le_refl _) hown' hgrow; have hc1 := hv1.cell; have hf1 := hv1.frozen)
    refine ⟨hk2.from _, fun b hb => ?_, ⟨_, hv2, by rw [List.flatMap_append, List.length_append]; simpa using hr2, trivial⟩, hB.trans hb2⟩
    exact hb2.block b hb
  case done =>
    rintro D ys W hD rfl ⟨⟨v, hv, hrow, _⟩, hB⟩ hK
    have hc := hv.cell
    gi_wp2_with fail
    refine ⟨by simp, .inl ⟨_, _, rfl, run_takeDeferred hK, ?_⟩⟩
    exact ⟨_, results_tmp rfl _ _ _, v, rfl, own_put hrow hK, Go.RowKit.Below.trans hB (belowK_b (w := w) (Nat.le_refl _) W D _ _ (by omega) hK rfl rfl)⟩
  case stop =>
    rintro D c pre W _ _ h _
    exact h.elim

theorem bList_any (cl cb ht ri ru wd dp x0 z0 x1 z1 : Int) (Bc : Nat) (w : World) (hE : EachAt w Bc cl cb ht ri ru wd dp x0 z0 x1 z1) (hl : Nowhere w) :
    Calls Tryd.prog 35 #[seqV Bc] w fun e w' =>
      ∃ v, e = .returned v ∧ w'.ownsRow w.heap.size 3 1 v (tilesL cl cb ht ri ru wd dp x0 z0 x1 z1).length ((tilesL cl cb ht ri ru wd dp x0 z0 x1 z1).flatMap iE) ∧ New w w' :=
  (callsIn_wide (n := 5)).1 (bn_list cl cb ht ri ru wd dp x0 z0 x1 z1 Bc w hE hl)

/-- A list and an error. -/
def ListPost (c : Int) (l : List Int) (w : World) (e : Ending) (w' : World) : Prop :=
  ∃ v, e = .returned (.tuple #[v, .int .i64 c]) ∧ Sl iE 1 w' v l ∧ New w w'

end Go.Proofs.YtdbhlepbaepngaaDoor

/- What a box touches: bins.Boxes. -/
namespace Go.Proofs.YtdbhlepbaepngaaDoor
open Go.RowKit
set_option linter.unusedVariables false
set_option maxRecDepth 100000

/-- Whether a box may be, alone. -/
def boxE (C : CfgR) (X : BoxR) : Int := if C.err ≠ 0 then 20 else if X.may C = true then 0 else 2
def boxesL (C : CfgR) (X : BoxR) : List Int := if boxE C X = 0 then tilesL C.cl C.cb C.ht C.ri C.ru C.wd C.dp X.x0 X.z0 X.x1 X.z1 else []

theorem one_listB (C : CfgR) (X : BoxR) : BoxR.listB C [X] = X.may C := by
  unfold BoxR.listB
  have h : (List.range [X].length) = [0] := rfl
  rw [h, List.all_cons, List.all_nil, BoxR.okAt_zero C [X] (by simp)]
  simp

/-- A soup of one box. -/
def boxV1 (b : Nat) (X : BoxR) : SoupV := ⟨[], [X], [], none, some ⟨b, 0, none⟩, none, 0, 1, 0⟩
theorem one_err (C : CfgR) (X : BoxR) (b : Nat) : (boxV1 b X).err C = boxE C X := by
  unfold SoupV.err boxE
  have e1 : TriR.listB C (boxV1 b X).ts = true := rfl
  have e2 : BoxR.listB C (boxV1 b X).bs = X.may C := one_listB C X
  have e3 : HopR.listB C (boxV1 b X).hs = true := rfl
  rw [e1, e2, e3]
  simp
theorem one_ok (X : BoxR) {b : Nat} {W : World} (h : CellsAt W b 0 X.enc) : (boxV1 b X).ok W :=
  ⟨Sl.nil, ⟨some ⟨b, 0, none⟩, 1, rfl, Nat.le_refl _, by decide, fun e => (by cases e), fun _ => ⟨b, 0, rfl, fun j hj => by
    obtain rfl : j = 0 := by have : j < 1 := hj; omega
    rw [Nat.zero_mul]; exact h⟩⟩, Sl.nil⟩

set_option maxHeartbeats 4000000 in
theorem bBoxes_any (C : CfgR) (X : BoxR) (w : World) (hl : Nowhere w) :
    Calls Tryd.prog 27 #[.agg #[.int .i64 C.cl, .int .i64 C.cb, .int .i64 C.ht, .int .i64 C.ri, .int .i64 C.ru, .int .i64 C.wd, .int .i64 C.dp], .agg #[.int .i64 X.i, .int .i64 X.x0, .int .i64 X.z0, .int .i64 X.x1, .int .i64 X.z1, .int .i64 X.y0, .int .i64 X.y1, .int .i64 X.ar]] w (ListPost (boxE C X) (boxesL C X) w) := by
  have KC := Lib.hid (fun b W h => s_check C (boxV1 b X) W h)
  simp only [one_err] at KC
  unfold boxesL
  have HX := Lib.hid (fun b W h => one_ok (b := b) (W := W) X h)
  generalize boxE C X = c at *
  by_cases h0 : c = 0
  rotate_left
  · rw [if_neg h0]
    have hne : (c != 0) = true := by simpa using h0
    clear h0
    go_enter Tryd.func27, Tryd.ntmps27
    go_wp2_with fail
    obtain ⟨W, hW⟩ : ∃ W, W = ((w.alloc (.cells C.enc.toArray 32)).alloc (.cells X.enc.toArray 24)).alloc (.cells X.enc.toArray 24) := ⟨_, rfl⟩
    have hn : New w W := by subst hW; (repeat (first | (with_reducible exact New.refl _) | (with_reducible assumption) | ((with_reducible refine New.setB ?_ ?_ _); focus (first | omega | (simp; omega) | (simp; done))) | (with_reducible refine New.alloc ?_ _) | (with_reducible refine New.drew ?_) | (with_reducible refine New.drewN ?_ _) | (with_reducible refine New.hat ?_ _) | ((with_reducible apply New.snart); (with_reducible assumption))))
    have hx : CellsAt W (w.heap.size + 1 + 1) 0 X.enc := by
      subst hW
      have := cells_new ((w.alloc (.cells C.enc.toArray 32)).alloc (.cells X.enc.toArray 24)) X.enc.toArray 24
      simpa using this
    simp only [CfgR.enc, BoxR.enc] at hW
    rw [← hW]
    clear hW
    refine (KC.out _ _ (HX.out _ _ hx)).mono ?_
    rintro e w1 ⟨rfl, n1⟩
    replace hn := hn.trans n1
    go_wp2_with fail
    go_ret2
    exact ⟨_, rfl, Sl.nil, hn⟩
  · subst h0
    rw [if_pos rfl]
    go_enter Tryd.func27, Tryd.ntmps27
    go_wp2_with fail
    obtain ⟨W, hW⟩ : ∃ W, W = ((w.alloc (.cells C.enc.toArray 32)).alloc (.cells X.enc.toArray 24)).alloc (.cells X.enc.toArray 24) := ⟨_, rfl⟩
    have hn : New w W := by subst hW; (repeat (first | (with_reducible exact New.refl _) | (with_reducible assumption) | ((with_reducible refine New.setB ?_ ?_ _); focus (first | omega | (simp; omega) | (simp; done))) | (with_reducible refine New.alloc ?_ _) | (with_reducible refine New.drew ?_) | (with_reducible refine New.drewN ?_ _) | (with_reducible refine New.hat ?_ _) | ((with_reducible apply New.snart); (with_reducible assumption))))
    have hx : CellsAt W (w.heap.size + 1 + 1) 0 X.enc := by
      subst hW
      have := cells_new ((w.alloc (.cells C.enc.toArray 32)).alloc (.cells X.enc.toArray 24)) X.enc.toArray 24
      simpa using this
    simp only [CfgR.enc, BoxR.enc] at hW
    ((have c0 : W.cell? ⟨w.heap.size, 0, none⟩ = some (.int .i64 C.cl) := (by subst hW; go_simp)); (have c1 : W.cell? ⟨w.heap.size, 1, none⟩ = some (.int .i64 C.cb) := (by subst hW; go_simp)); (have c2 : W.cell? ⟨w.heap.size, 2, none⟩ = some (.int .i64 C.ht) := (by subst hW; go_simp)); (have c3 : W.cell? ⟨w.heap.size, 3, none⟩ = some (.int .i64 C.ri) := (by subst hW; go_simp)); (have c4 : W.cell? ⟨w.heap.size, 4, none⟩ = some (.int .i64 C.ru) := (by subst hW; go_simp)); (have c5 : W.cell? ⟨w.heap.size, 5, none⟩ = some (.int .i64 C.wd) := (by subst hW; go_simp)); (have c6 : W.cell? ⟨w.heap.size, 6, none⟩ = some (.int .i64 C.dp) := (by subst hW; go_simp)))
    have d1 : W.cell? ⟨w.heap.size + 1, 1, none⟩ = some (.int .i64 X.x0) := by subst hW; go_simp
    have d2 : W.cell? ⟨w.heap.size + 1, 2, none⟩ = some (.int .i64 X.z0) := by subst hW; go_simp
    have d3 : W.cell? ⟨w.heap.size + 1, 3, none⟩ = some (.int .i64 X.x1) := by subst hW; go_simp
    have d4 : W.cell? ⟨w.heap.size + 1, 4, none⟩ = some (.int .i64 X.z1) := by subst hW; go_simp
    rw [← hW]
    clear hW
    refine (KC.out _ _ (HX.out _ _ hx)).mono ?_
    rintro e w1 ⟨rfl, n1⟩
    ((replace c0 := New.keep n1 c0); (replace c1 := New.keep n1 c1); (replace c2 := New.keep n1 c2); (replace c3 := New.keep n1 c3); (replace c4 := New.keep n1 c4); (replace c5 := New.keep n1 c5); (replace c6 := New.keep n1 c6))
    replace d1 := New.keep n1 d1
    replace d2 := New.keep n1 d2
    replace d3 := New.keep n1 d3
    replace d4 := New.keep n1 d4
    replace hn := hn.trans n1
    clear n1 hx HX KC
    go_wp2_with fail
    refine (bEach_any C.cl C.cb C.ht C.ri C.ru C.wd C.dp X.x0 X.z0 X.x1 X.z1 w1).mono ?_
    rintro e w3 ⟨Bc, rfl, hE, -, -, n3⟩
    replace hn := hn.trans n3
    clear c0 c1 c2 c3 c4 c5 c6 d1 d2 d3 d4
    unfold seqV
    go_wp2_with fail
    refine (bList_any C.cl C.cb C.ht C.ri C.ru C.wd C.dp X.x0 X.z0 X.x1 X.z1 Bc w3 hE (hl.new hn)).mono ?_
    rintro e w4 ⟨v, rfl, hrow, n4⟩
    go_wp2_with fail
    go_ret2
    exact ⟨_, rfl, own_sl iE_len hrow, hn.trans n4⟩

end Go.Proofs.YtdbhlepbaepngaaDoor

/- Package area: check. -/
namespace Go.Proofs.YtdbhlepbaepngaaDoor
open Go.RowKit
set_option linter.unusedVariables false

/-- May these boxes mark this grid? -/
def markB (C : CfgR) (G : Gd) (l : List BoxR) : Bool := decide (gE G = 0) && (decide (l.length ≤ 16) && l.all (fun b => b.may C))
def markE (C : CfgR) (G : Gd) (l : List BoxR) : Int := if C.err ≠ 0 then 20 else if markB C G l = true then 0 else 2
theorem markE_cfg {C : CfgR} {G : Gd} {l : List BoxR} (h : C.err ≠ 0) : markE C G l = 20 := by unfold markE; rw [if_pos h]
theorem markE_grid {C : CfgR} {G : Gd} {l : List BoxR} (h : C.err = 0) (hg : gE G ≠ 0) : markE C G l = 2 := by
  unfold markE markB
  rw [if_neg (by omega), decide_eq_false hg]
  rfl
theorem markE_many {C : CfgR} {G : Gd} {l : List BoxR} (h : C.err = 0) (hl : 16 < l.length) : markE C G l = 2 := by
  unfold markE markB
  rw [if_neg (by omega), decide_eq_false (show ¬ l.length ≤ 16 by omega)]
  simp
theorem markE_box {C : CfgR} {G : Gd} {l : List BoxR} (h : C.err = 0) (j : Nat) (hj : j < l.length) (hb : boxE C l[j] ≠ 0) : markE C G l = 2 := by
  have hm : l[j].may C = false := by
    cases hm : l[j].may C
    · rfl
    · exfalso
      apply hb
      unfold boxE
      rw [if_neg (by omega), hm]
      rfl
  have : l.all (fun b => b.may C) = false := by
    rw [List.all_eq_false]
    exact ⟨_, List.getElem_mem hj, by rw [hm]; simp⟩
  unfold markE markB
  rw [if_neg (by omega), this]
  simp
theorem markE_fine {C : CfgR} {G : Gd} {l : List BoxR} (h : C.err = 0) (hg : gE G = 0) (hl : l.length ≤ 16) (hb : ∀ j (h : j < l.length), boxE C l[j] = 0) : markE C G l = 0 := by
  have : l.all (fun b => b.may C) = true := by
    rw [List.all_eq_true]
    intro b hbm
    obtain ⟨j, hj, rfl⟩ := List.getElem_of_mem hbm
    have := hb j hj
    unfold boxE at this
    rw [if_neg (by omega)] at this
    cases hm : l[j].may C
    · rw [hm] at this; simp at this
    · rfl
  unfold markE markB
  rw [if_neg (by omega), decide_eq_true hg, decide_eq_true hl, this]
  rfl
theorem markE_is {C : CfgR} {G : Gd} {l : List BoxR} (h : markE C G l = 0) : C.err = 0 ∧ gE G = 0 ∧ l.length ≤ 16 ∧ ∀ b ∈ l, b.may C = true := by
  unfold markE at h
  split at h
  · omega
  · rename_i hc
    split at h
    · rename_i hm
      unfold markB at hm
      simp only [Bool.and_eq_true, decide_eq_true_eq, List.all_eq_true] at hm
      exact ⟨by omega, hm.1, hm.2.1, hm.2.2⟩
    · omega
theorem markE_of {C : CfgR} {G : Gd} {l : List BoxR} (h1 : C.err = 0) (h2 : gE G = 0) (h3 : l.length ≤ 16) (h4 : ∀ b ∈ l, b.may C = true) : markE C G l = 0 := by
  have : l.all (fun b => b.may C) = true := List.all_eq_true.2 h4
  unfold markE markB
  rw [if_neg (by omega), decide_eq_true h2, decide_eq_true h3, this]
  rfl
theorem boxE_two {C : CfgR} (h : C.err = 0) (X : BoxR) : boxE C X = 0 ∨ boxE C X = 2 := by
  unfold boxE
  rw [if_neg (by omega)]
  split
  · exact .inl rfl
  · exact .inr rfl

set_option maxHeartbeats 4000000 in
set_option maxRecDepth 100000 in
theorem ar_check (C : CfgR) (G : Gd) (at0 : Option Addr) (l : List BoxR) (cap : Nat) (hl : l.length ≤ maxLen) (w : World) (hN : Nowhere w) (hG : G.ok w) (H : RowIn BoxR.enc 8 w at0 l) :
    Calls Tryd.prog 21 #[.agg #[.int .i64 C.cl, .int .i64 C.cb, .int .i64 C.ht, .int .i64 C.ri, .int .i64 C.ru, .int .i64 C.wd, .int .i64 C.dp], .agg #[.int .i64 G.x, .int .i64 G.z, .int .i64 G.w, .int .i64 G.d, .slice G.ga G.L.length G.gc], .slice at0 l.length cap] w fun e w' => e = .returned (.int .i64 (markE C G l)) ∧ New w w' := by
  have KC : Hid (∀ W, Calls Tryd.prog 25 #[.agg #[.int .i64 C.cl, .int .i64 C.cb, .int .i64 C.ht, .int .i64 C.ri, .int .i64 C.ru, .int .i64 C.wd, .int .i64 C.dp]] W fun e w' => e = .returned (.int .i64 (checkE C.cl C.cb C.ht C.ri C.ru C.wd C.dp)) ∧ New W w') := Lib.hid (fun W => (check_any C.cl C.cb C.ht C.ri C.ru C.wd C.dp W).mono fun e w' h => ⟨h.1, h.2.1⟩)
  have KG := Lib.hid (fun W n => og_check G W (hG.keep (n : New w W)))
  have KB := Lib.hid (fun X W n => bBoxes_any C X W (hN.new (n : New w W)))
  have HH := Lib.hid H
  have hce : C.err = checkE C.cl C.cb C.ht C.ri C.ru C.wd C.dp := rfl
  have htwo := checkE_two C.cl C.cb C.ht C.ri C.ru C.wd C.dp
  have hg2 := gE_two G
  rw [← hce] at KC htwo
  have HB2 := Lib.hid (fun (h : C.err = 0) X => boxE_two h X)
  obtain ⟨r, hr⟩ : ∃ r, r = markE C G l := ⟨_, rfl⟩
  rw [← hr]
  have HR := Lib.hid hr
  have E1 : Hid (C.err ≠ 0 → r = 20) := Lib.hid (fun h => by rw [HR.out, markE_cfg h])
  have E2 : Hid (C.err = 0 → gE G ≠ 0 → r = 2) := Lib.hid (fun h h2 => by rw [HR.out, markE_grid h h2])
  have E3 : Hid (C.err = 0 → 16 < l.length → r = 2) := Lib.hid (fun h h2 => by rw [HR.out, markE_many h h2])
  have E4 : Hid (C.err = 0 → ∀ j (hj : j < l.length), boxE C l[j] ≠ 0 → r = 2) := Lib.hid (fun h j hj h2 => by rw [HR.out, markE_box h j hj h2])
  have E5 : Hid (C.err = 0 → gE G = 0 → l.length ≤ 16 → (∀ j (h : j < l.length), boxE C l[j] = 0) → r = 0) := Lib.hid (fun h h2 h3 h4 => by rw [HR.out, markE_fine h h2 h3 h4])
  generalize hge : gE G = ge at *
  generalize hcr : C.err = cr at *
  obtain ⟨gn, hgn⟩ : ∃ q, q = G.L.length := ⟨_, rfl⟩
  rw [← hgn] at KG ⊢
  obtain ⟨n, hn⟩ : ∃ q, q = l.length := ⟨_, rfl⟩
  rw [← hn] at hl ⊢
  have HNL := Lib.hid hn
  clear hgn hn hr H hG hce hge hcr
  unfold maxLen at hl
  rcases htwo with rfl | rfl
  rotate_left
  · have HE := Lib.hid (E1.out (by decide))
    go_enter Tryd.func21, Tryd.ntmps21
    go_wp2_with fail
    refine Calls.at (fun W hW => ?_)
    have n0 : New w W := by subst hW; (repeat (first | (with_reducible exact New.refl _) | (with_reducible assumption) | ((with_reducible refine New.setB ?_ ?_ _); focus (first | omega | (simp; omega) | (simp; done))) | (with_reducible refine New.alloc ?_ _) | (with_reducible refine New.drew ?_) | (with_reducible refine New.drewN ?_ _) | (with_reducible refine New.hat ?_ _) | ((with_reducible apply New.snart); (with_reducible assumption))))
    clear hW
    refine (KC.out _).mono ?_
    rintro e w1 ⟨rfl, n1⟩
    have nn := n0.trans n1
    clear n0 n1
    go_wp2_with fail
    go_ret
    exact ⟨by rw [HE.out]; rfl, nn⟩
  go_enter Tryd.func21, Tryd.ntmps21
  go_wp2_with fail
  refine Calls.at (fun W hW => ?_)
  have n0 : New w W := by subst hW; (repeat (first | (with_reducible exact New.refl _) | (with_reducible assumption) | ((with_reducible refine New.setB ?_ ?_ _); focus (first | omega | (simp; omega) | (simp; done))) | (with_reducible refine New.alloc ?_ _) | (with_reducible refine New.drew ?_) | (with_reducible refine New.drewN ?_ _) | (with_reducible refine New.hat ?_ _) | ((with_reducible apply New.snart); (with_reducible assumption))))
  ((have c0 : W.cell? ⟨w.heap.size, 0, none⟩ = some (.int .i64 C.cl) := (by subst hW; go_simp)); (have c1 : W.cell? ⟨w.heap.size, 1, none⟩ = some (.int .i64 C.cb) := (by subst hW; go_simp)); (have c2 : W.cell? ⟨w.heap.size, 2, none⟩ = some (.int .i64 C.ht) := (by subst hW; go_simp)); (have c3 : W.cell? ⟨w.heap.size, 3, none⟩ = some (.int .i64 C.ri) := (by subst hW; go_simp)); (have c4 : W.cell? ⟨w.heap.size, 4, none⟩ = some (.int .i64 C.ru) := (by subst hW; go_simp)); (have c5 : W.cell? ⟨w.heap.size, 5, none⟩ = some (.int .i64 C.wd) := (by subst hW; go_simp)); (have c6 : W.cell? ⟨w.heap.size, 6, none⟩ = some (.int .i64 C.dp) := (by subst hW; go_simp)))
  have g0 : W.cell? ⟨w.heap.size + 1, 0, none⟩ = some (.int .i64 G.x) := by subst hW; go_simp
  have g1 : W.cell? ⟨w.heap.size + 1, 1, none⟩ = some (.int .i64 G.z) := by subst hW; go_simp
  have g2 : W.cell? ⟨w.heap.size + 1, 2, none⟩ = some (.int .i64 G.w) := by subst hW; go_simp
  have g3 : W.cell? ⟨w.heap.size + 1, 3, none⟩ = some (.int .i64 G.d) := by subst hW; go_simp
  have g4 : W.cell? ⟨w.heap.size + 1, 4, none⟩ = some (.slice G.ga gn G.gc) := by subst hW; go_simp
  clear hW
  refine (KC.out _).mono ?_
  rintro e w1 ⟨rfl, n1⟩
  ((replace c0 := New.keep n1 c0); (replace c1 := New.keep n1 c1); (replace c2 := New.keep n1 c2); (replace c3 := New.keep n1 c3); (replace c4 := New.keep n1 c4); (replace c5 := New.keep n1 c5); (replace c6 := New.keep n1 c6))
  replace g0 := n1.keep g0
  replace g1 := n1.keep g1
  replace g2 := n1.keep g2
  replace g3 := n1.keep g3
  replace g4 := n1.keep g4
  have N1 := n0.trans n1
  clear n0 n1
  go_wp2_with fail
  refine (KG.out _ N1).mono ?_
  rintro e w2 ⟨rfl, n2⟩
  ((replace c0 := New.keep n2 c0); (replace c1 := New.keep n2 c1); (replace c2 := New.keep n2 c2); (replace c3 := New.keep n2 c3); (replace c4 := New.keep n2 c4); (replace c5 := New.keep n2 c5); (replace c6 := New.keep n2 c6))
  have N2 := N1.trans n2
  clear n2 N1 g0 g1 g2 g3 g4
  rcases hg2 with rfl | rfl
  rotate_left
  · have HE := Lib.hid (E2.out trivial (by decide))
    go_wp2_with fail
    go_ret
    exact ⟨by rw [HE.out]; rfl, N2⟩
  by_cases h16 : 16 < n
  · have HE := Lib.hid (E3.out trivial (by rw [← HNL.out]; exact h16))
    have hd : decide (16 < n) = true := decide_eq_true h16
    have hd2 : ((n : Int) > 16) := by omega
    clear h16
    go_wp2_with fail
    go_ret
    exact ⟨by rw [HE.out]; rfl, N2⟩
  have hd : decide (16 < n) = false := decide_eq_false h16
  have hd2 : ¬ ((n : Int) > 16) := by omega
  have hn16 : n ≤ 16 := by omega
  have NN2 := Lib.hid N2
  have HC := Lib.hid (fun W (q : New w2 W) => And.intro (q.keep c0) (And.intro (q.keep c1) (And.intro (q.keep c2) (And.intro (q.keep c3) (And.intro (q.keep c4) (And.intro (q.keep c5) (q.keep c6)))))))
  have hz2 := World.block_lt_of_cell? _ _ c0
  simp only [] at hz2
  clear N2 c0 c1 c2 c3 c4 c5 c6 h16
  go_wp2_with fail
  clear hd hd2
  go_loopg [28] n (fun gk s28 wr => ∃ i : Nat, s28 = .int .i64 i ∧ i ≤ n ∧ n - i ≤ gk ∧ Hid (∀ j (h : j < l.length), j < i → boxE C l[j] = 0) ∧ Hid (New w2 wr))
  case atStart => exact ⟨0, rfl, by omega, by omega, Lib.hid (fun j _ h => by omega), Lib.hid (New.refl _)⟩
  case round =>
    obtain ⟨i, rfl, hi, hgk, HA, HNR⟩ := hrel
    by_cases hlt : i < n
    · have hil : i < l.length := by rw [← HNL.out]; exact hlt
      obtain ⟨b, off, rfl, hA⟩ := HH.out (by omega)
      obtain ⟨d0, d1, d2, d3, d4, d5, d6, d7⟩ := BoxR.cells (hA.keep (NN2.out.trans HNR.out)) i hil
      obtain ⟨c0, c1, c2, c3, c4, c5, c6⟩ := HC.out _ HNR.out
      have he := HB2.out trivial l[i]
      have HKB := Lib.hid (fun W n => KB.out l[i] W n)
      have E4' := Lib.hid (fun q => E4.out trivial i hil q)
      obtain ⟨X, hX⟩ : ∃ X, X = l[i] := ⟨_, rfl⟩
      rw [← hX] at d0 d1 d2 d3 d4 d5 d6 d7 he HKB E4'
      have HX := Lib.hid hX
      have hzr := World.block_lt_of_cell? _ _ c0
      simp only [] at hzr
      clear hA hX
      go_wp2_with fail
      refine Calls.at (fun W5 hW => ?_)
      have n5 : New wr W5 := by subst hW; (repeat (first | (with_reducible exact New.refl _) | (with_reducible assumption) | ((with_reducible refine New.setB ?_ ?_ _); focus (first | omega | (simp; omega) | (simp; done))) | (with_reducible refine New.alloc ?_ _) | (with_reducible refine New.drew ?_) | (with_reducible refine New.drewN ?_ _) | (with_reducible refine New.hat ?_ _) | ((with_reducible apply New.snart); (with_reducible assumption))))
      clear hW c0 c1 c2 c3 c4 c5 c6 d0 d1 d2 d3 d4 d5 d6 d7
      refine (HKB.out _ (NN2.out.trans (HNR.out.trans n5))).mono ?_
      rintro e w6 ⟨v, rfl, hs6, n6⟩
      have nn := Lib.hid (HNR.out.trans (n5.trans n6))
      clear hs6 n5 n6 HKB
      generalize hbe : boxE C X = be at *
      rcases he with rfl | rfl
      · have hnx : Hid (∀ j (h : j < l.length), j < i + 1 → boxE C l[j] = 0) := Lib.hid (fun j h hj => by
          by_cases e : j < i
          · exact HA.out j h e
          · obtain rfl : j = i := by omega
            rw [← HX.out]; exact hbe)
        go_wp2_with fail
        go_roundg (n - (i + 1))
        case measure => omega
        case rel => exact ⟨i + 1, by go_num, by omega, by omega, hnx, nn⟩
      · have HE := Lib.hid (E4'.out (by decide))
        go_wp2_with fail
        go_ret
        exact ⟨by rw [HE.out]; rfl, NN2.out.trans nn.out⟩
    · obtain rfl : i = n := by omega
      have HE := Lib.hid (E5.out trivial trivial (by rw [← HNL.out]; exact hn16) (fun j h => HA.out j h (by rw [HNL.out]; exact h)))
      go_wp2_with fail
      go_ret
      exact ⟨by rw [HE.out]; rfl, NN2.out.trans HNR.out⟩

end Go.Proofs.YtdbhlepbaepngaaDoor
