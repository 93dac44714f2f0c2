/- What a box touches: bins.Boxes. -/
import Derived.Test.YtonngfogbnfbnaaDoorBinsM
import Derived.Test.YtonngfogbnfbnaaDoorSoG
namespace Go.Proofs.YtonngfogbnfbnaaDoor
open Go.RowKit
set_option linter.unusedVariables false
set_option maxRecDepth 100000

/-- Whether a box may be, alone. -/
def boxE (C : CfgR) (X : BoxR) : Int := if C.err ≠ 0 then 20 else if X.may C = true then 0 else 2
def boxesL (C : CfgR) (X : BoxR) : List Int := if boxE C X = 0 then tilesL C.cl C.cb C.ht C.ri C.ru C.wd C.dp X.x0 X.z0 X.x1 X.z1 else []

theorem one_listB (C : CfgR) (X : BoxR) : BoxR.listB C [X] = X.may C := by
  unfold BoxR.listB
  have h : (List.range [X].length) = [0] := rfl
  rw [h, List.all_cons, List.all_nil, BoxR.okAt_zero C [X] (by simp)]
  simp

/-- A soup of one box. -/
def oneV (b : Nat) (X : BoxR) : SoupV := ⟨[], [X], [], none, some ⟨b, 0, none⟩, none, 0, 1, 0⟩
theorem one_err (C : CfgR) (X : BoxR) (b : Nat) : (oneV b X).err C = boxE C X := by
  unfold SoupV.err boxE
  have e1 : TriR.listB C (oneV b X).ts = true := rfl
  have e2 : BoxR.listB C (oneV b X).bs = X.may C := one_listB C X
  have e3 : HopR.listB C (oneV b X).hs = true := rfl
  rw [e1, e2, e3]
  simp
theorem one_ok (X : BoxR) {b : Nat} {W : World} (h : CellsAt W b 0 X.enc) : (oneV b X).ok W :=
  ⟨Sl.nil, ⟨some ⟨b, 0, none⟩, 1, rfl, Nat.le_refl _, by decide, fun e => (by cases e), fun _ => ⟨b, 0, rfl, fun j hj => by
    obtain rfl : j = 0 := by have : j < 1 := hj; omega
    rw [Nat.zero_mul]; exact h⟩⟩, Sl.nil⟩

set_option maxHeartbeats 4000000 in
theorem bBoxes_any (C : CfgR) (X : BoxR) (w : World) (hl : Nowhere w) :
    Calls Tryd.prog 16 #[.agg #[.int .i64 C.cl, .int .i64 C.cb, .int .i64 C.ht, .int .i64 C.ri, .int .i64 C.ru, .int .i64 C.wd, .int .i64 C.dp], .agg #[.int .i64 X.i, .int .i64 X.x0, .int .i64 X.z0, .int .i64 X.x1, .int .i64 X.z1, .int .i64 X.y0, .int .i64 X.y1, .int .i64 X.ar]] w (ListPost (boxE C X) (boxesL C X) w) := by
  have KC := Lib.hid (fun b W h => s_check C (oneV b X) W h)
  simp only [one_err] at KC
  unfold boxesL
  have HX := Lib.hid (fun b W h => one_ok (b := b) (W := W) X h)
  generalize boxE C X = c at *
  by_cases h0 : c = 0
  rotate_left
  · rw [if_neg h0]
    have hne : (c != 0) = true := by simpa using h0
    clear h0
    go_enter Tryd.func16, Tryd.ntmps16
    go_wp2_with fail
    obtain ⟨W, hW⟩ : ∃ W, W = ((w.alloc (.cells C.enc.toArray 23)).alloc (.cells X.enc.toArray 36)).alloc (.cells X.enc.toArray 36) := ⟨_, rfl⟩
    have hn : New w W := by subst hW; (repeat (first | (with_reducible exact New.refl _) | (with_reducible assumption) | ((with_reducible refine New.setB ?_ ?_ _); focus (first | omega | (simp; omega) | (simp; done))) | (with_reducible refine New.alloc ?_ _) | (with_reducible refine New.drew ?_) | (with_reducible refine New.drewN ?_ _) | (with_reducible refine New.hat ?_ _) | ((with_reducible apply New.snart); (with_reducible assumption))))
    have hx : CellsAt W (w.heap.size + 1 + 1) 0 X.enc := by
      subst hW
      have := cells_new ((w.alloc (.cells C.enc.toArray 23)).alloc (.cells X.enc.toArray 36)) X.enc.toArray 36
      simpa using this
    simp only [CfgR.enc, BoxR.enc] at hW
    rw [← hW]
    clear hW
    refine (KC.out _ _ (HX.out _ _ hx)).mono ?_
    rintro e w1 ⟨rfl, n1⟩
    replace hn := hn.trans n1
    go_wp2_with fail
    go_ret2
    exact ⟨_, rfl, Sl.nil, hn⟩
  · subst h0
    rw [if_pos rfl]
    go_enter Tryd.func16, Tryd.ntmps16
    go_wp2_with fail
    obtain ⟨W, hW⟩ : ∃ W, W = ((w.alloc (.cells C.enc.toArray 23)).alloc (.cells X.enc.toArray 36)).alloc (.cells X.enc.toArray 36) := ⟨_, rfl⟩
    have hn : New w W := by subst hW; (repeat (first | (with_reducible exact New.refl _) | (with_reducible assumption) | ((with_reducible refine New.setB ?_ ?_ _); focus (first | omega | (simp; omega) | (simp; done))) | (with_reducible refine New.alloc ?_ _) | (with_reducible refine New.drew ?_) | (with_reducible refine New.drewN ?_ _) | (with_reducible refine New.hat ?_ _) | ((with_reducible apply New.snart); (with_reducible assumption))))
    have hx : CellsAt W (w.heap.size + 1 + 1) 0 X.enc := by
      subst hW
      have := cells_new ((w.alloc (.cells C.enc.toArray 23)).alloc (.cells X.enc.toArray 36)) X.enc.toArray 36
      simpa using this
    simp only [CfgR.enc, BoxR.enc] at hW
    ((have c0 : W.cell? ⟨w.heap.size, 0, none⟩ = some (.int .i64 C.cl) := (by subst hW; go_simp)); (have c1 : W.cell? ⟨w.heap.size, 1, none⟩ = some (.int .i64 C.cb) := (by subst hW; go_simp)); (have c2 : W.cell? ⟨w.heap.size, 2, none⟩ = some (.int .i64 C.ht) := (by subst hW; go_simp)); (have c3 : W.cell? ⟨w.heap.size, 3, none⟩ = some (.int .i64 C.ri) := (by subst hW; go_simp)); (have c4 : W.cell? ⟨w.heap.size, 4, none⟩ = some (.int .i64 C.ru) := (by subst hW; go_simp)); (have c5 : W.cell? ⟨w.heap.size, 5, none⟩ = some (.int .i64 C.wd) := (by subst hW; go_simp)); (have c6 : W.cell? ⟨w.heap.size, 6, none⟩ = some (.int .i64 C.dp) := (by subst hW; go_simp)))
    have d1 : W.cell? ⟨w.heap.size + 1, 1, none⟩ = some (.int .i64 X.x0) := by subst hW; go_simp
    have d2 : W.cell? ⟨w.heap.size + 1, 2, none⟩ = some (.int .i64 X.z0) := by subst hW; go_simp
    have d3 : W.cell? ⟨w.heap.size + 1, 3, none⟩ = some (.int .i64 X.x1) := by subst hW; go_simp
    have d4 : W.cell? ⟨w.heap.size + 1, 4, none⟩ = some (.int .i64 X.z1) := by subst hW; go_simp
    rw [← hW]
    clear hW
    refine (KC.out _ _ (HX.out _ _ hx)).mono ?_
    rintro e w1 ⟨rfl, n1⟩
    ((replace c0 := New.keep n1 c0); (replace c1 := New.keep n1 c1); (replace c2 := New.keep n1 c2); (replace c3 := New.keep n1 c3); (replace c4 := New.keep n1 c4); (replace c5 := New.keep n1 c5); (replace c6 := New.keep n1 c6))
    replace d1 := New.keep n1 d1
    replace d2 := New.keep n1 d2
    replace d3 := New.keep n1 d3
    replace d4 := New.keep n1 d4
    replace hn := hn.trans n1
    clear n1 hx HX KC
    go_wp2_with fail
    refine (bEach_any C.cl C.cb C.ht C.ri C.ru C.wd C.dp X.x0 X.z0 X.x1 X.z1 w1).mono ?_
    rintro e w3 ⟨Bc, rfl, hE, -, -, n3⟩
    replace hn := hn.trans n3
    clear c0 c1 c2 c3 c4 c5 c6 d1 d2 d3 d4
    unfold seqV
    go_wp2_with fail
    refine (bList_any C.cl C.cb C.ht C.ri C.ru C.wd C.dp X.x0 X.z0 X.x1 X.z1 Bc w3 hE (hl.new hn)).mono ?_
    rintro e w4 ⟨v, rfl, hrow, n4⟩
    go_wp2_with fail
    go_ret2
    exact ⟨_, rfl, own_sl iE_len hrow, hn.trans n4⟩

end Go.Proofs.YtonngfogbnfbnaaDoor
