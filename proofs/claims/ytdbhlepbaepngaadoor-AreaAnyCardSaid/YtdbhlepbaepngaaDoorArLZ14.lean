import Derived.Test.YtdbhlepbaepngaaDoorArKZ14
import Derived.Test.YtdbhlepbaepngaaDoorArJZ14
import Derived.Test.YtdbhlepbaepngaaDoorOgSZ14
import Derived.Test.YtdbhlepbaepngaaDoorSlAppZ14

/- The law AreaAny. -/
namespace Go.Proofs.YtdbhlepbaepngaaDoor
open Go.RowKit
set_option linter.unusedVariables false

theorem ar_bx_info : (Tryd.prog.info? 24).map (fun i => (i.zero, i.size, i.bytes)) = some (some (.agg #[.int .i64 0, .int .i64 0, .int .i64 0, .int .i64 0, .int .i64 0, .int .i64 0, .int .i64 0, .int .i64 0]), 8, 64) := by kernel_rfl
/-- One box in a block of its own. -/
theorem bx_new (w : World) (X : BoxR) (t : TypeId) : Sl BoxR.enc 8 (w.alloc (.cells #[.int .i64 X.i, .int .i64 X.x0, .int .i64 X.z0, .int .i64 X.x1, .int .i64 X.z1, .int .i64 X.y0, .int .i64 X.y1, .int .i64 X.ar] t)) (.slice (some ⟨w.heap.size, 0, none⟩) 1 1) [X] :=
  ⟨_, _, rfl, Nat.le_refl _, by unfold maxLen; omega, fun h => (by cases h), fun _ => ⟨w.heap.size, 0, rfl, fun j hj i hi => by
    have hj' : j = 0 := by simpa using hj
    subst hj'
    have hi' : i < 8 := hi
    have hz := heap_new w (.cells #[.int .i64 X.i, .int .i64 X.x0, .int .i64 X.z0, .int .i64 X.x1, .int .i64 X.z1, .int .i64 X.y0, .int .i64 X.y1, .int .i64 X.ar] t)
    rcases (show i = 0 ∨ i = 1 ∨ i = 2 ∨ i = 3 ∨ i = 4 ∨ i = 5 ∨ i = 6 ∨ i = 7 by omega) with rfl | rfl | rfl | rfl | rfl | rfl | rfl | rfl <;> exact cell_of_heap hz rfl⟩⟩
/-- The same box of another id. -/
def BoxR.of (X : BoxR) (i : Int) : BoxR := ⟨i, X.x0, X.z0, X.x1, X.z1, X.y0, X.y1, X.ar⟩
/-- The first n boxes, numbered. -/
def numX (l : List BoxR) (n : Nat) : List BoxR := (List.range n).map fun j : Nat => ((l[j]?).getD BoxR.zero).of ((j : Int) + 1)
theorem numX_succ {l : List BoxR} {n : Nat} (h : n < l.length) : numX l (n + 1) = numX l n ++ [l[n].of ((n : Int) + 1)] := by
  unfold numX
  rw [List.range_succ, List.map_append]
  simp [h]
theorem numX_len (l : List BoxR) (n : Nat) : (numX l n).length = n := by unfold numX; simp
theorem numX_id {l : List BoxR} {n : Nat} : ∀ p ∈ numX l n, ∀ q ∈ numX l n, p.i = q.i → p = q := by
  intro p hp q hq h
  unfold numX at hp hq
  obtain ⟨a, ha, rfl⟩ := List.mem_map.1 hp
  obtain ⟨b, hb, rfl⟩ := List.mem_map.1 hq
  have : (a : Int) + 1 = (b : Int) + 1 := h
  have e : a = b := by omega
  rw [e]
/-- A result of Mark: its error apart. -/
theorem outs_made {er : Int} {G : Gd} {l : List BoxR} {w w' : World} {e : Ending} (h : Outs er G.x G.z G.w G.d (markL G l) w e w') : ∃ O : Gd, e = .returned (.tuple #[.agg #[.int .i64 O.x, .int .i64 O.z, .int .i64 O.w, .int .i64 O.d, .slice O.ga O.L.length O.gc], .int .i64 er]) ∧ O.ok w' ∧ (er = 0 → MadeBy O G l) ∧ New w w' := by
  obtain ⟨O, he, hr, h1, -, hn⟩ := h
  exact ⟨O, he, hr.rows, fun h => by obtain ⟨a, b, c, d, f⟩ := h1 h; exact ⟨a, b, c, d, f⟩, hn⟩
/-- A grid in a block of its own. -/
def GdIn (W : World) (B : Nat) (G : Gd) : Prop := CellsAt W B 0 G.enc
theorem GdIn.new {W W' : World} {B : Nat} {G : Gd} (h : GdIn W B G) (n : New W W') : GdIn W' B G := h.keep n

set_option maxHeartbeats 8000000 in
set_option maxRecDepth 100000 in
theorem l_areaAny (C : CfgR) (G : Gd) (at0 : Option Addr) (l : List BoxR) (cap : Nat) (at1 : Option Addr) (m : List BoxR) (cap1 : Nat) (w : World) (hN : Nowhere w) (hG : G.ok w) (hs : Sl BoxR.enc 8 w (.slice at0 l.length cap) l) (ht : Sl BoxR.enc 8 w (.slice at1 m.length cap1) m) :
    Calls Tryd.prog 4 #[.agg #[.int .i64 C.cl, .int .i64 C.cb, .int .i64 C.ht, .int .i64 C.ri, .int .i64 C.ru, .int .i64 C.wd, .int .i64 C.dp], .agg #[.int .i64 G.x, .int .i64 G.z, .int .i64 G.w, .int .i64 G.d, .slice G.ga G.L.length G.gc], .slice at0 l.length cap, .slice at1 m.length cap1] w fun e w' => e = .returned (.bool true) ∧ New w w' := by
  obtain ⟨i0, hi0, hz0, hz1, hz2⟩ := info_parts ar_bx_info
  have HL := Lib.hid hs.row'.2.2.2.2
  have HM := Lib.hid ht.row'.2.2.2.2
  have hlm : m.length ≤ maxLen := Nat.le_trans ht.row'.2.1 ht.row'.2.2.1
  have hll : l.length ≤ maxLen := Nat.le_trans hs.row'.2.1 hs.row'.2.2.1
  have KW := Lib.hid (fun W n => ar_wakes W (hN.new (n : New w W)))
  have KG := Lib.hid (fun W n => ar_great G W (hG.keep (n : New w W)))
  have KM := Lib.hid (fun (at2 : Option Addr) (b : List BoxR) (cp : Nat) (hb : b.length ≤ maxLen) W n H => (ar_Mark C G at2 b cp hb W (hN.new (n : New w W)) (hG.keep n) H).mono fun e w' h => outs_made h)
  have KO := Lib.hid (fun (O : Gd) (at2 : Option Addr) (b : List BoxR) (cp : Nat) (hb : b.length ≤ maxLen) W n hO H => (ar_Mark C O at2 b cp hb W (hN.new (n : New w W)) hO H).mono fun e w' h => outs_made h)
  have HOK := Lib.hid (fun W n => hG.keep (n : New w W))
  obtain ⟨gn, hgn⟩ : ∃ q, q = G.L.length := ⟨_, rfl⟩
  obtain ⟨ln, hln⟩ : ∃ q, q = l.length := ⟨_, rfl⟩
  obtain ⟨mn, hmn⟩ : ∃ q, q = m.length := ⟨_, rfl⟩
  rw [← hgn] at KG KM ⊢
  rw [← hln] at hll ⊢
  rw [← hmn] at hlm ⊢
  have HLN := Lib.hid hln
  have HMN := Lib.hid hmn
  have HGN := Lib.hid hgn
  unfold maxLen at hll hlm
  clear hgn hln hmn hG hN hs ht
  go_enter Tryd.func4, Tryd.ntmps4
  go_upto_region 1 with fail
  refine Code.at (fun W0 hW => ?_)
  have n0 : New w W0 := by subst hW; (repeat (first | (with_reducible exact New.refl _) | (with_reducible assumption) | ((with_reducible refine New.setB ?_ ?_ _); focus (first | omega | (simp; omega) | (simp; done))) | (with_reducible refine New.alloc ?_ _) | (with_reducible refine New.drew ?_) | (with_reducible refine New.drewN ?_ _) | (with_reducible refine New.hat ?_ _) | ((with_reducible apply New.snart); (with_reducible assumption))))
  have c0 : W0.cell? ⟨w.heap.size, 0, none⟩ = some (.int .i64 C.cl) := by subst hW; go_simp
  have c1 : W0.cell? ⟨w.heap.size, 1, none⟩ = some (.int .i64 C.cb) := by subst hW; go_simp
  have c2 : W0.cell? ⟨w.heap.size, 2, none⟩ = some (.int .i64 C.ht) := by subst hW; go_simp
  have c3 : W0.cell? ⟨w.heap.size, 3, none⟩ = some (.int .i64 C.ri) := by subst hW; go_simp
  have c4 : W0.cell? ⟨w.heap.size, 4, none⟩ = some (.int .i64 C.ru) := by subst hW; go_simp
  have c5 : W0.cell? ⟨w.heap.size, 5, none⟩ = some (.int .i64 C.wd) := by subst hW; go_simp
  have c6 : W0.cell? ⟨w.heap.size, 6, none⟩ = some (.int .i64 C.dp) := by subst hW; go_simp
  have g0 : W0.cell? ⟨w.heap.size + 1, 0, none⟩ = some (.int .i64 G.x) := by subst hW; go_simp
  have g1 : W0.cell? ⟨w.heap.size + 1, 1, none⟩ = some (.int .i64 G.z) := by subst hW; go_simp
  have g2 : W0.cell? ⟨w.heap.size + 1, 2, none⟩ = some (.int .i64 G.w) := by subst hW; go_simp
  have g3 : W0.cell? ⟨w.heap.size + 1, 3, none⟩ = some (.int .i64 G.d) := by subst hW; go_simp
  have g4 : W0.cell? ⟨w.heap.size + 1, 4, none⟩ = some (.slice G.ga gn G.gc) := by subst hW; go_simp
  clear hW
  obtain ⟨Bc, hBc⟩ : ∃ q, q = w.heap.size := ⟨_, rfl⟩
  obtain ⟨Bg, hBg⟩ : ∃ q, q = w.heap.size + 1 := ⟨_, rfl⟩
  rw [← hBg] at g0 g1 g2 g3 g4
  rw [← hBc] at c0 c1 c2 c3 c4 c5 c6
  rw [← hBg, ← hBc]
  clear hBc hBg
  have HC := Lib.hid (fun W (q : New W0 W) => And.intro (q.keep c0) (And.intro (q.keep c1) (And.intro (q.keep c2) (And.intro (q.keep c3) (And.intro (q.keep c4) (And.intro (q.keep c5) (q.keep c6)))))))
  have HG := Lib.hid (fun W (q : New W0 W) => And.intro (q.keep g0) (And.intro (q.keep g1) (And.intro (q.keep g2) (And.intro (q.keep g3) (q.keep g4)))))
  have N0 := Lib.hid n0
  clear n0 c0 c1 c2 c3 c4 c5 c6
  go_wp2_with fail
  refine (KG.out _ N0.out).mono ?_
  rintro e w1 ⟨b1, rfl, hb1, n1⟩
  have N1 := Lib.hid n1
  clear n1 g0 g1 g2 g3 g4 KG
  cases b1
  rotate_left
  · clear hb1
    go_wp2_with fail
    refine (KW.out _ (N0.out.trans N1.out)).mono ?_
    rintro e w2 ⟨rfl, n2⟩
    have nn := N0.out.trans (N1.out.trans n2)
    go_wp2_with fail
    go_ret
    exact ⟨rfl, nn⟩
  have HSM := Lib.hid (hb1 rfl)
  clear hb1
  by_cases h16 : 16 < ln
  · have hd : decide (16 < ln) = true := decide_eq_true h16
    have hd2 : ((ln : Int) > 16) := by omega
    clear h16
    go_wp2_with fail
    refine (KW.out _ (N0.out.trans N1.out)).mono ?_
    rintro e w2 ⟨rfl, n2⟩
    have nn := N0.out.trans (N1.out.trans n2)
    go_wp2_with fail
    go_ret
    exact ⟨rfl, nn⟩
  by_cases h100 : 100 < mn
  · have hd : decide (16 < ln) = false := decide_eq_false h16
    have hd2 : ¬ ((ln : Int) > 16) := by omega
    have hd3 : decide (100 < mn) = true := decide_eq_true h100
    have hd4 : ((mn : Int) > 100) := by omega
    clear h16 h100
    go_wp2_with fail
    refine (KW.out _ (N0.out.trans N1.out)).mono ?_
    rintro e w2 ⟨rfl, n2⟩
    have nn := N0.out.trans (N1.out.trans n2)
    go_wp2_with fail
    go_ret
    exact ⟨rfl, nn⟩
  have hd : decide (16 < ln) = false := decide_eq_false h16
  have hd2 : ¬ ((ln : Int) > 16) := by omega
  have hd3 : decide (100 < mn) = false := decide_eq_false h100
  have hd4 : ¬ ((mn : Int) > 100) := by omega
  have hl16 : ln ≤ 16 := by omega
  have hm100 : mn ≤ 100 := by omega
  clear h16 h100 hll hlm
  go_wp2_with fail
  clear hd hd2 hd3 hd4
  have hb0 : w1.heap.size ≤ w1.heap.size := Nat.le_refl _
  obtain ⟨b0, hb0'⟩ : ∃ q, q = w1.heap.size := ⟨_, rfl⟩
  have HB0 := Lib.hid hb0'
  clear hb0 hb0'
  go_loopg [11, 9] ln (fun gk s11 s9 wr => ∃ (i : Nat) (ra : Option Addr) (rn rc : Nat), s11 = .int .i64 i ∧ s9 = .slice ra rn rc ∧ i ≤ ln ∧ ln - i ≤ gk ∧ Hid (wr.ownsRow b0 24 8 (.slice ra rn rc) (numX l i).length ((numX l i).flatMap BoxR.enc)) ∧ Hid (New w1 wr))
  case atStart => exact ⟨0, none, 0, 0, rfl, rfl, by omega, by omega, Lib.hid (World.ownsRow_nil _ _ _ _), Lib.hid (New.refl _)⟩
  case round =>
    obtain ⟨i, ra, rn, rc, rfl, rfl, hi, hgk, HOW, HNW⟩ := hrel
    by_cases hlt : i < ln
    · have hil : i < l.length := by rw [← HLN.out]; exact hlt
      obtain ⟨b, off, rfl, hA⟩ := HL.out (by omega)
      obtain ⟨c0, c1, c2, c3, c4, c5, c6, c7⟩ := BoxR.cells (hA.keep (N0.out.trans (N1.out.trans HNW.out))) i hil
      have hsu := numX_succ hil
      obtain ⟨X, hX⟩ : ∃ X, X = l[i] := ⟨_, rfl⟩
      rw [← hX] at c0 c1 c2 c3 c4 c5 c6 c7 hsu
      have HSU := Lib.hid hsu
      have hnl := numX_len l i
      have hw1 : IntKind.i64.wrap ((i : Int) + 1) = (i : Int) + 1 := IntWalk.i64_in _ (by omega)
      have hz := World.block_lt_of_cell? _ _ c0
      clear hA hX hsu
      go_upto_region 9 with fail
      refine Code.at (fun W5 hW => ?_)
      have n5 : New wr W5 := by subst hW; (repeat (first | (with_reducible exact New.refl _) | (with_reducible assumption) | ((with_reducible refine New.setB ?_ ?_ _); focus (first | omega | (simp; omega) | (simp; done))) | (with_reducible refine New.alloc ?_ _) | (with_reducible refine New.drew ?_) | (with_reducible refine New.drewN ?_ _) | (with_reducible refine New.hat ?_ _) | ((with_reducible apply New.snart); (with_reducible assumption))))
      have f0 : W5.cell? ⟨wr.heap.size, 0, none⟩ = some (.int .i64 ((i : Int) + 1)) := by subst hW; go_simp
      have f1 : W5.cell? ⟨wr.heap.size, 1, none⟩ = some (.int .i64 X.x0) := by subst hW; go_simp
      have f2 : W5.cell? ⟨wr.heap.size, 2, none⟩ = some (.int .i64 X.z0) := by subst hW; go_simp
      have f3 : W5.cell? ⟨wr.heap.size, 3, none⟩ = some (.int .i64 X.x1) := by subst hW; go_simp
      have f4 : W5.cell? ⟨wr.heap.size, 4, none⟩ = some (.int .i64 X.z1) := by subst hW; go_simp
      have f5 : W5.cell? ⟨wr.heap.size, 5, none⟩ = some (.int .i64 X.y0) := by subst hW; go_simp
      have f6 : W5.cell? ⟨wr.heap.size, 6, none⟩ = some (.int .i64 X.y1) := by subst hW; go_simp
      have f7 : W5.cell? ⟨wr.heap.size, 7, none⟩ = some (.int .i64 X.ar) := by subst hW; go_simp
      have own5 : W5.ownsRow b0 24 8 (.slice ra rn rc) (numX l i).length ((numX l i).flatMap BoxR.enc) := own_new HOW.out n5
      have hr5 : b0 ≤ W5.heap.size := by have := n5.size; have := HNW.out.size; have := HB0.out; omega
      clear hW HOW c0 c1 c2 c3 c4 c5 c6 c7
      go_wp2_with (at_builtin; refine wpList_append_sl rfl _ _ 22 rfl BoxR.enc_len BoxR.enc_one b0 24 i0 _ 64 Tryd.underlying22 hi0 hz0 hz1 hz2 rfl (by decide) _ (numX l i) rfl (own_new own5 (by (repeat (first | (with_reducible exact New.refl _) | (with_reducible assumption) | ((with_reducible refine New.setB ?_ ?_ _); focus (first | omega | (simp; omega) | (simp; done))) | (with_reducible refine New.alloc ?_ _) | (with_reducible refine New.drew ?_) | (with_reducible refine New.drewN ?_ _) | (with_reducible refine New.hat ?_ _) | ((with_reducible apply New.snart); (with_reducible assumption)))))) _ [X.of ((i : Int) + 1)] rfl (bx_new _ (X.of ((i : Int) + 1)) _) (by unfold maxLen; simp; omega) (by simp; omega) (by simp; omega) ?_; intro v' w5 hown' hnew _; obtain ⟨a', d', N', hN', rfl⟩ := own_shape2 hown'; clear hN'; have nw1 := hnew w1 (New.trans (HNW.out.trans n5) (by (repeat (first | (with_reducible exact New.refl _) | (with_reducible assumption) | ((with_reducible refine New.setB ?_ ?_ _); focus (first | omega | (simp; omega) | (simp; done))) | (with_reducible refine New.alloc ?_ _) | (with_reducible refine New.drew ?_) | (with_reducible refine New.drewN ?_ _) | (with_reducible refine New.hat ?_ _) | ((with_reducible apply New.snart); (with_reducible assumption)))))) (Nat.le_of_eq HB0.out.symm))
      have HN9 := Lib.hid nw1
      have HO9 := Lib.hid hown'
      clear nw1 hown' hnew f0 f1 f2 f3 f4 f5 f6 f7 own5 hr5 n5 hz
      go_wp2_with fail
      go_roundg (ln - (i + 1))
      case measure => omega
      case rel => exact ⟨i + 1, a', N', d', by go_num, rfl, by omega, by omega, Lib.hid (by rw [HSU.out]; exact HO9.out), HN9⟩
    · obtain rfl : i = ln := by omega
      have hsl0 : Sl BoxR.enc 8 wr (.slice ra rn rc) (numX l i) := own_sl BoxR.enc_len HOW.out
      have hnl := numX_len l i
      obtain ⟨R, hR⟩ : ∃ R, R = numX l i := ⟨_, rfl⟩
      rw [← hR] at hsl0 hnl
      have HR := Lib.hid hR
      have HRI : Hid (∀ p ∈ R, ∀ q ∈ R, p.i = q.i → p = q) := Lib.hid (by rw [hR]; exact numX_id)
      obtain ⟨ra', rc', e1, e2, e3, e4, hrow⟩ := hsl0
      obtain ⟨rfl, rfl, rfl⟩ : ra = ra' ∧ rn = R.length ∧ rc = rc' := by injection e1 with a b c; exact ⟨a, b, c⟩
      have HRR := Lib.hid (fun W (n : New wr W) => hrow.keep n)
      have N2 := Lib.hid (N1.out.trans HNW.out)
      rw [hnl]
      clear hR e1 e2 e3 e4 hrow HOW HNW hgk
      rename World => w2
      obtain ⟨b2, hb2⟩ : ∃ q, q = w2.heap.size := ⟨_, rfl⟩
      have HB2 := Lib.hid hb2
      clear hb2
      have hw2 : IntKind.i64.wrap ((i : Int) - 1) = (i : Int) - 1 := IntWalk.i64_in _ (by omega)
      go_wp2_with fail
      clear hw2
      go_loopg [13, 10] i (fun gk s13 s10 wr => ∃ (k : Nat) (ra2 : Option Addr) (rn2 rc2 : Nat), s13 = .int .i64 ((i : Int) - 1 - k) ∧ s10 = .slice ra2 rn2 rc2 ∧ k ≤ i ∧ i - k ≤ gk ∧ Hid (wr.ownsRow b2 24 8 (.slice ra2 rn2 rc2) (R.reverse.take k).length ((R.reverse.take k).flatMap BoxR.enc)) ∧ Hid (New w2 wr))
      case atStart => exact ⟨0, none, 0, 0, by simp, rfl, by omega, by omega, Lib.hid (World.ownsRow_nil _ _ _ _), Lib.hid (New.refl _)⟩
      case round =>
        obtain ⟨k, ra2, rn2, rc2, rfl, rfl, hk, hgk, HOW, HNW⟩ := hrel
        by_cases hkt : k < i
        · have hjr : i - 1 - k < R.length := by omega
          have hrl : k < R.reverse.length := by simp; omega
          obtain ⟨b, off, rfl, hA⟩ := (HRR.out _ HNW.out) (by omega)
          obtain ⟨c0, c1, c2, c3, c4, c5, c6, c7⟩ := BoxR.cells hA (i - 1 - k) hjr
          have hsu : R.reverse.take (k + 1) = R.reverse.take k ++ [R[i - 1 - k]] := by
            rw [List.take_succ_eq_append_getElem hrl, List.getElem_reverse]
            congr 3
            omega
          obtain ⟨X, hX⟩ : ∃ X, X = R[i - 1 - k] := ⟨_, rfl⟩
          rw [← hX] at c0 c1 c2 c3 c4 c5 c6 c7 hsu
          have HSU := Lib.hid hsu
          have hji : (i : Int) - 1 - k = ((i - 1 - k : Nat) : Int) := by omega
          have htl : (R.reverse.take k).length = k := by rw [List.length_take]; omega
          obtain ⟨j, hj⟩ : ∃ j, j = i - 1 - k := ⟨_, rfl⟩
          rw [← hj] at c0 c1 c2 c3 c4 c5 c6 c7 hji
          rw [hji]
          have hjn : j < i := by omega
          have hge : decide ((j : Int) ≥ 0) = true := decide_eq_true (by omega)
          have hge2 : decide ((0 : Int) ≤ (j : Int)) = true := decide_eq_true (by omega)
          have hwj : IntKind.i64.wrap ((j : Int) - 1) = (j : Int) - 1 := IntWalk.i64_in _ (by omega)
          have HJ := Lib.hid hj
          have HJI := Lib.hid hji
          have hz := World.block_lt_of_cell? _ _ c0
          have hr5 : b2 ≤ wr.heap.size := by have := HNW.out.size; have := HB2.out; omega
          clear hA hX hsu hj hjr hrl hji
          go_wp2_with (at_builtin; refine wpList_append_sl rfl _ _ 22 rfl BoxR.enc_len BoxR.enc_one b2 24 i0 _ 64 Tryd.underlying22 hi0 hz0 hz1 hz2 rfl (by decide) _ (R.reverse.take k) rfl (own_new HOW.out (by (repeat (first | (with_reducible exact New.refl _) | (with_reducible assumption) | ((with_reducible refine New.setB ?_ ?_ _); focus (first | omega | (simp; omega) | (simp; done))) | (with_reducible refine New.alloc ?_ _) | (with_reducible refine New.drew ?_) | (with_reducible refine New.drewN ?_ _) | (with_reducible refine New.hat ?_ _) | ((with_reducible apply New.snart); (with_reducible assumption)))))) _ [X] rfl (bx_new _ X _) (by unfold maxLen; simp; omega) (by simp; omega) (by simp; omega) ?_; intro v' w5 hown' hnew _; obtain ⟨a', d', N', hN', rfl⟩ := own_shape2 hown'; clear hN'; have nw1 := hnew w2 (New.trans HNW.out (by (repeat (first | (with_reducible exact New.refl _) | (with_reducible assumption) | ((with_reducible refine New.setB ?_ ?_ _); focus (first | omega | (simp; omega) | (simp; done))) | (with_reducible refine New.alloc ?_ _) | (with_reducible refine New.drew ?_) | (with_reducible refine New.drewN ?_ _) | (with_reducible refine New.hat ?_ _) | ((with_reducible apply New.snart); (with_reducible assumption)))))) (Nat.le_of_eq HB2.out.symm))
          have HN9 := Lib.hid nw1
          have HO9 := Lib.hid hown'
          clear nw1 hown' hnew c0 c1 c2 c3 c4 c5 c6 c7 hr5 hz
          go_wp2_with fail
          go_roundg (i - (k + 1))
          case measure => omega
          case rel => exact ⟨k + 1, a', N', d', by congr 1; have := HJ.out; omega, rfl, by omega, by omega, Lib.hid (by rw [HSU.out]; exact HO9.out), HN9⟩
        · obtain rfl : k = i := by omega
          have hge : decide ((k : Int) - 1 - k ≥ 0) = false := decide_eq_false (by omega)
          have hge2 : decide ((0 : Int) ≤ (k : Int) - 1 - k) = false := decide_eq_false (by omega)
          have hback : R.reverse.take k = R.reverse := List.take_of_length_le (by simp; omega)
          have hslb := own_sl BoxR.enc_len HOW.out
          rw [hback] at hslb
          have hrl : R.reverse.length = k := by simp; omega
          obtain ⟨rb', cb', e1, e2, e3, e4, hrowb⟩ := hslb
          obtain ⟨rfl, rfl, rfl⟩ : ra2 = rb' ∧ rn2 = R.reverse.length ∧ rc2 = cb' := by injection e1 with a b c; exact ⟨a, b, c⟩
          have HRB := Lib.hid (fun W (n : New wr W) => hrowb.keep n)
          have N3 := Lib.hid (N2.out.trans HNW.out)
          have HR2 := Lib.hid (fun W (n : New wr W) => HRR.out W (HNW.out.trans n))
          have hml : k ≤ maxLen := by unfold maxLen; omega
          have K1 := Lib.hid (by have h := KM.out ra R rc (by omega); rw [hnl] at h; exact h)
          have K2 := Lib.hid (by
            have h := KM.out ra2 R.reverse rc2 (by omega)
            rw [hrl, markE_any (m := R) (by simp) (by simp)] at h
            exact h)
          have hE0 : markE C G R = 0 → C.err = 0 ∧ gE G = 0 ∧ R.length ≤ 16 ∧ ∀ b ∈ R, b.may C = true := fun h => markE_is h
          rw [hrl]
          generalize markE C G R = E at *
          have HE0 := Lib.hid hE0
          have HRL := Lib.hid hrl
          have HNL := Lib.hid hnl
          clear hback e1 e2 e3 e4 hrowb HOW HNW hgk hE0 hml hrl hnl KM HRR
          obtain ⟨c0, c1, c2, c3, c4, c5, c6⟩ := HC.out _ (N3.out)
          obtain ⟨g0, g1, g2, g3, g4⟩ := HG.out _ (N3.out)
          have hEE : (E != E) = false := by simp
          go_wp2_with fail
          refine (K1.out _ (N0.out.trans N3.out) (HR2.out _ (New.refl _))).mono ?_
          rintro e w4 ⟨A, rfl, hAok, hAm, n4⟩
          clear c0 c1 c2 c3 c4 c5 c6 g0 g1 g2 g3 g4 K1
          go_upto_region 15 with fail
          refine Code.at (fun W5 hW => ?_)
          have n5 : New w4 W5 := by subst hW; (repeat (first | (with_reducible exact New.refl _) | (with_reducible assumption) | ((with_reducible refine New.setB ?_ ?_ _); focus (first | omega | (simp; omega) | (simp; done))) | (with_reducible refine New.alloc ?_ _) | (with_reducible refine New.drew ?_) | (with_reducible refine New.drewN ?_ _) | (with_reducible refine New.hat ?_ _) | ((with_reducible apply New.snart); (with_reducible assumption))))
          have a0 : W5.cell? ⟨w4.heap.size, 0, none⟩ = some (.int .i64 A.x) := by subst hW; go_simp
          have a1 : W5.cell? ⟨w4.heap.size, 1, none⟩ = some (.int .i64 A.z) := by subst hW; go_simp
          have a2 : W5.cell? ⟨w4.heap.size, 2, none⟩ = some (.int .i64 A.w) := by subst hW; go_simp
          have a3 : W5.cell? ⟨w4.heap.size, 3, none⟩ = some (.int .i64 A.d) := by subst hW; go_simp
          have a4 : W5.cell? ⟨w4.heap.size, 4, none⟩ = some (.slice A.ga A.L.length A.gc) := by subst hW; go_simp
          clear hW
          obtain ⟨PA, hPA⟩ : ∃ q, q = w4.heap.size := ⟨_, rfl⟩
          rw [← hPA] at a0 a1 a2 a3 a4
          rw [← hPA]
          clear hPA
          have HA := Lib.hid (fun W (q : New W5 W) => And.intro (q.keep a0) (And.intro (q.keep a1) (And.intro (q.keep a2) (And.intro (q.keep a3) (q.keep a4)))))
          have HAK := Lib.hid (fun W (n : New W5 W) => hAok.keep (n5.trans n))
          have HAM := Lib.hid hAm
          have n45 := n4.trans n5
          have N5 := Lib.hid (N3.out.trans n45)
          have HB5 := Lib.hid (fun W (n : New W5 W) => HRB.out W (n45.trans n))
          have HR5 := Lib.hid (fun W (n : New W5 W) => HR2.out W (n45.trans n))
          clear a0 a1 a2 a3 a4 hAok hAm n4 n5 n45 HRB HR2
          obtain ⟨c0, c1, c2, c3, c4, c5, c6⟩ := HC.out _ (N5.out)
          obtain ⟨g0, g1, g2, g3, g4⟩ := HG.out _ (N5.out)
          go_wp2_with fail
          refine (K2.out _ (N0.out.trans N5.out) (HB5.out _ (New.refl _))).mono ?_
          rintro e w6 ⟨B, rfl, hBok, hBm, n6⟩
          clear c0 c1 c2 c3 c4 c5 c6 g0 g1 g2 g3 g4 K2 HB5
          go_upto_region 16 with fail
          refine Code.at (fun W7 hW => ?_)
          have n7 : New w6 W7 := by subst hW; (repeat (first | (with_reducible exact New.refl _) | (with_reducible assumption) | ((with_reducible refine New.setB ?_ ?_ _); focus (first | omega | (simp; omega) | (simp; done))) | (with_reducible refine New.alloc ?_ _) | (with_reducible refine New.drew ?_) | (with_reducible refine New.drewN ?_ _) | (with_reducible refine New.hat ?_ _) | ((with_reducible apply New.snart); (with_reducible assumption))))
          have a0 : W7.cell? ⟨w6.heap.size, 0, none⟩ = some (.int .i64 B.x) := by subst hW; go_simp
          have a1 : W7.cell? ⟨w6.heap.size, 1, none⟩ = some (.int .i64 B.z) := by subst hW; go_simp
          have a2 : W7.cell? ⟨w6.heap.size, 2, none⟩ = some (.int .i64 B.w) := by subst hW; go_simp
          have a3 : W7.cell? ⟨w6.heap.size, 3, none⟩ = some (.int .i64 B.d) := by subst hW; go_simp
          have a4 : W7.cell? ⟨w6.heap.size, 4, none⟩ = some (.slice B.ga B.L.length B.gc) := by subst hW; go_simp
          clear hW
          obtain ⟨PB, hPB⟩ : ∃ q, q = w6.heap.size := ⟨_, rfl⟩
          rw [← hPB] at a0 a1 a2 a3 a4
          rw [← hPB]
          clear hPB
          have HBB := Lib.hid (fun W (q : New W7 W) => And.intro (q.keep a0) (And.intro (q.keep a1) (And.intro (q.keep a2) (And.intro (q.keep a3) (q.keep a4)))))
          have HBK := Lib.hid (fun W (n : New W7 W) => hBok.keep (n7.trans n))
          have HBM := Lib.hid hBm
          have n67 := n6.trans n7
          have N7 := Lib.hid (N5.out.trans n67)
          have HA7 := Lib.hid (fun W (n : New W7 W) => HA.out W (n67.trans n))
          have HAK7 := Lib.hid (fun W (n : New W7 W) => HAK.out W (n67.trans n))
          have HR7 := Lib.hid (fun W (n : New W7 W) => HR5.out W (n67.trans n))
          clear a0 a1 a2 a3 a4 hBok hBm n6 n7 n67 HA HAK HR5
          by_cases hEz : E = 0
          rotate_left
          · have hne : (E != 0) = true := by rw [bne_iff_ne]; exact hEz
            clear hEz
            go_wp2_with fail
            refine (KW.out _ (N0.out.trans N7.out)).mono ?_
            rintro e w8 ⟨rfl, n8⟩
            have nn := N0.out.trans (N7.out.trans n8)
            go_wp2_with fail
            go_ret
            exact ⟨rfl, nn⟩
          subst hEz
          obtain ⟨hCe, hGE, hR16, hRm⟩ := HE0.out rfl
          have hAmade := HAM.out rfl
          have hBmade := HBM.out rfl
          have HRM := Lib.hid hRm
          have HGE := Lib.hid hGE
          have HCE := Lib.hid hCe
          have HAMD := Lib.hid hAmade
          have HBMD := Lib.hid hBmade
          have HAE : Hid (gE A = 0) := Lib.hid (hAmade.fine hGE (fun b hb => may_area (hRm b hb)))
          clear hCe hGE hR16 hRm hAmade hBmade HE0 HAM HBM hEE
          have K3 := Lib.hid (by have h := KO.out G at1 m cap1 (by rw [← HMN.out]; unfold maxLen; omega); rw [← HGN.out, ← HMN.out] at h; exact h)
          have hX0 : markE C G m = 0 → ∀ b ∈ m, b.may C = true := fun h => (markE_is h).2.2.2
          generalize markE C G m = H at *
          have HX0 := Lib.hid hX0
          clear hX0
          obtain ⟨c0, c1, c2, c3, c4, c5, c6⟩ := HC.out _ (N7.out)
          obtain ⟨g0, g1, g2, g3, g4⟩ := HG.out _ (N7.out)
          go_wp2_with fail
          refine (K3.out _ (N0.out.trans N7.out) (HOK.out _ (N0.out.trans N7.out)) (HM.out.keep (N0.out.trans N7.out))).mono ?_
          rintro e w8 ⟨X, rfl, hXok, hXm, n8⟩
          clear c0 c1 c2 c3 c4 c5 c6 g0 g1 g2 g3 g4 K3
          go_upto_region 21 with fail
          refine Code.at (fun W9 hW => ?_)
          have n9 : New w8 W9 := by subst hW; (repeat (first | (with_reducible exact New.refl _) | (with_reducible assumption) | ((with_reducible refine New.setB ?_ ?_ _); focus (first | omega | (simp; omega) | (simp; done))) | (with_reducible refine New.alloc ?_ _) | (with_reducible refine New.drew ?_) | (with_reducible refine New.drewN ?_ _) | (with_reducible refine New.hat ?_ _) | ((with_reducible apply New.snart); (with_reducible assumption))))
          have a0 : W9.cell? ⟨w8.heap.size, 0, none⟩ = some (.int .i64 X.x) := by subst hW; go_simp
          have a1 : W9.cell? ⟨w8.heap.size, 1, none⟩ = some (.int .i64 X.z) := by subst hW; go_simp
          have a2 : W9.cell? ⟨w8.heap.size, 2, none⟩ = some (.int .i64 X.w) := by subst hW; go_simp
          have a3 : W9.cell? ⟨w8.heap.size, 3, none⟩ = some (.int .i64 X.d) := by subst hW; go_simp
          have a4 : W9.cell? ⟨w8.heap.size, 4, none⟩ = some (.slice X.ga X.L.length X.gc) := by subst hW; go_simp
          clear hW
          obtain ⟨PX, hPX⟩ : ∃ q, q = w8.heap.size := ⟨_, rfl⟩
          rw [← hPX] at a0 a1 a2 a3 a4
          rw [← hPX]
          clear hPX
          have n89 := n8.trans n9
          have N9 := Lib.hid (N7.out.trans n89)
          have hXok9 := hXok.keep n9
          have HA9 := Lib.hid (fun W (n : New W9 W) => HA7.out W (n89.trans n))
          have HAK9 := Lib.hid (fun W (n : New W9 W) => HAK7.out W (n89.trans n))
          have HBB9 := Lib.hid (fun W (n : New W9 W) => HBB.out W (n89.trans n))
          have HBK9 := Lib.hid (fun W (n : New W9 W) => HBK.out W (n89.trans n))
          have HR9 := Lib.hid (fun W (n : New W9 W) => HR7.out W (n89.trans n))
          have HXM := Lib.hid hXm
          clear n8 n9 n89 hXok hXm HA7 HAK7 HBB HBK HR7
          go_upto_if 100 with (fail)
          go_cut [8] (fun s8 Z => s8 = .bool false ∧ Hid (New W9 Z))
          case first =>
            by_cases hH : H = 0
            rotate_left
            · have hd : (H == 0) = false := by rw [beq_eq_false_iff_ne]; exact hH
              go_wp2_with fail
              go_meet
              exact ⟨rfl, Lib.hid (New.refl _)⟩
            · subst hH
              have hXE : gE X = 0 := (HXM.out rfl).fine HGE.out (fun b hb => may_area (HX0.out rfl b hb))
              have hmX : markE C X R = 0 := markE_of HCE.out hXE (by rw [HNL.out]; exact hl16) HRM.out
              have K4 := Lib.hid (by have h := KO.out X ra R rc (by rw [HNL.out]; unfold maxLen; omega); rw [hmX, HNL.out] at h; exact h)
              have HXE := Lib.hid hXE
              have HXO := Lib.hid (fun W (n : New W9 W) => hXok9.keep n)
              clear hXE hmX hXok9
              obtain ⟨c0, c1, c2, c3, c4, c5, c6⟩ := HC.out _ N9.out
              go_wp2_with fail
              refine (K4.out _ (N0.out.trans N9.out) (HXO.out _ (New.refl _)) (HR9.out _ (New.refl _))).mono ?_
              rintro e v1 ⟨Y, rfl, hYok, hYm, n10⟩
              have hYG : MadeBy Y G R := (HXM.out trivial).trans (hYm trivial)
              have hYE : gE Y = 0 := hYG.fine HGE.out (fun b hb => may_area (HRM.out b hb))
              have KS : Hid (∀ W, New v1 W → Calls Tryd.prog 13 #[.agg #[.int .i64 Y.x, .int .i64 Y.z, .int .i64 Y.w, .int .i64 Y.d, .slice Y.ga Y.L.length Y.gc], .agg #[.int .i64 A.x, .int .i64 A.z, .int .i64 A.w, .int .i64 A.d, .slice A.ga A.L.length A.gc]] W fun e w' => e = .returned (.bool true) ∧ New W w') := Lib.hid (fun W (n : New v1 W) => by have h := rg_Same Y A (smallL_fine hYE) (smallL_fine HAE.out) W (hYok.keep n) (HAK9.out W (n10.trans n)); rw [sameG_made hYG HAMD.out] at h; exact h)
              obtain ⟨a0, a1, a2, a3, a4⟩ := HA9.out _ n10
              have hzA : PA < v1.heap.size := World.block_lt_of_cell? _ _ a0
              have N10 := Lib.hid n10
              clear hYG hYE hYok hYm n10 K4 c0 c1 c2 c3 c4 c5 c6
              go_wp2_with fail
              refine (KS.out _ (by (repeat (first | (with_reducible exact New.refl _) | (with_reducible assumption) | ((with_reducible refine New.setB ?_ ?_ _); focus (first | omega | (simp; omega) | (simp; done))) | (with_reducible refine New.alloc ?_ _) | (with_reducible refine New.drew ?_) | (with_reducible refine New.drewN ?_ _) | (with_reducible refine New.hat ?_ _) | ((with_reducible apply New.snart); (with_reducible assumption)))))).mono ?_
              rintro e v2 ⟨rfl, n11⟩
              have n12 : New W9 v2 := N10.out.trans (New.trans (by (repeat (first | (with_reducible exact New.refl _) | (with_reducible assumption) | ((with_reducible refine New.setB ?_ ?_ _); focus (first | omega | (simp; omega) | (simp; done))) | (with_reducible refine New.alloc ?_ _) | (with_reducible refine New.drew ?_) | (with_reducible refine New.drewN ?_ _) | (with_reducible refine New.hat ?_ _) | ((with_reducible apply New.snart); (with_reducible assumption))))) n11)
              have HN12 := Lib.hid n12
              clear n11 n12 a0 a1 a2 a3 a4
              go_wp2_with fail
              go_meet
              exact ⟨rfl, HN12⟩
          case rest =>
            obtain ⟨rfl, HNC⟩ := hcut
            obtain ⟨gaG, hgaG⟩ : ∃ q, q = G.ga := ⟨_, rfl⟩
            rw [← hgaG] at HG
            have HGR := Lib.hid (fun W (n : New w W) => (by have h := HOK.out W n; unfold Gd.ok at h; rw [← hgaG, ← HGN.out] at h; exact h : RowsK Fl.enc 3 W (.slice gaG gn G.gc) G.L))
            obtain ⟨gaA, hgaA⟩ : ∃ q, q = A.ga := ⟨_, rfl⟩
            have hAlen : A.L.length = gn := by rw [HAMD.out.len, HGN.out]
            have KC : Hid (∀ W, New W9 W → Calls Tryd.prog 14 #[.agg #[.int .i64 A.x, .int .i64 A.z, .int .i64 A.w, .int .i64 A.d, .slice gaA gn A.gc]] W fun e w' => e = .returned (.agg (cntV (cntS (allG A)))) ∧ New W w') := Lib.hid (fun W n => by
              have h := ar_Count A W (HAK9.out W n)
              have e : colG A = A := by unfold colG; rw [if_pos HAE.out]
              rw [hAlen, ← hgaA, e] at h
              exact h)
            have hBR : MadeBy B G R := by
              have h := HBMD.out
              exact ⟨h.x, h.z, h.w, h.d, h.L.trans (markL_any (fun q => List.mem_reverse) (fun p hp q hq e => HRI.out p (List.mem_reverse.1 hp) q (List.mem_reverse.1 hq) e))⟩
            have hBE : gE B = 0 := hBR.fine HGE.out (fun b hb => may_area (HRM.out b hb))
            have KS : Hid (∀ W, New W9 W → Calls Tryd.prog 13 #[.agg #[.int .i64 A.x, .int .i64 A.z, .int .i64 A.w, .int .i64 A.d, .slice gaA gn A.gc], .agg #[.int .i64 B.x, .int .i64 B.z, .int .i64 B.w, .int .i64 B.d, .slice B.ga B.L.length B.gc]] W fun e w' => e = .returned (.bool true) ∧ New W w') := Lib.hid (fun W n => by
              have h := rg_Same A B (smallL_fine HAE.out) (smallL_fine hBE) W (HAK9.out W n) (HBK9.out W n)
              rw [sameG_made HAMD.out hBR, hAlen, ← hgaA] at h
              exact h)
            clear hBR hBE
            rw [hAlen, ← hgaA] at HA9
            have HAR := Lib.hid (fun W (n : New W9 W) => (by have h := HAK9.out W n; unfold Gd.ok at h; rw [hAlen, ← hgaA] at h; exact h : RowsK Fl.enc 3 W (.slice gaA gn A.gc) A.L))
            have HAL := Lib.hid hAlen
            have HLE := Lib.hid (fun i (h : i < G.L.length) => stTo_len_succ G h)
            have HBD := Lib.hid (fun i => stTo_len HGE.out i)
            have HAT := Lib.hid (fun i (h1 : i < G.L.length) (h2 : i < A.L.length) => HAMD.out.at h1 h2)
            have hgn6 : gn ≤ 600 := by have := HSM.out.2; rw [HGN.out]; exact this
            have HSUM : Hid (sumC (cntS (allG A)) 8 = ((stTo G gn).length : Nat)) := Lib.hid (by
              rw [sumC_cnt _ (fun s h => st_area HAE.out h), HAMD.out.all_len]
              unfold allG
              rw [HGN.out])
            have HSB := Lib.hid (fun n (h : n ≤ 8) => sumC_le (allG A) n h)
            have HA5 := Lib.hid (allG_small HAE.out)
            generalize cntS (allG A) = cn at *
            generalize (allG A).length = aln at *
            clear hgaG hgaA hAlen hXok9
            obtain ⟨g0, g1, g2, g3, g4⟩ := HG.out _ (N9.out.trans HNC.out)
            obtain ⟨a0, a1, a2, a3, a4⟩ := HA9.out _ HNC.out
            have HGC := Lib.hid (fun W (n : New wc W) => n.keep g4)
            have HAC := Lib.hid (fun W (n : New wc W) => n.keep a4)
            clear g0 g1 g2 g3 g4 a0 a1 a2 a3 a4
            go_wp2_with fail
            go_loopg [23, 22] gn (fun gk s23 s22 wr => ∃ i : Nat, s23 = .int .i64 i ∧ s22 = .int .i64 ((stTo G i).length : Nat) ∧ i ≤ gn ∧ gn - i ≤ gk ∧ Hid (New wc wr))
            case atStart => exact ⟨0, rfl, rfl, by omega, by omega, Lib.hid (New.refl _)⟩
            case round =>
              obtain ⟨i, rfl, rfl, hi, hgk, HNR⟩ := hrel
              have g4 := HGC.out _ HNR.out
              have a4 := HAC.out _ HNR.out
              by_cases hlt : i < gn
              · have hiG : i < G.L.length := by rw [← HGN.out]; exact hlt
                have hiA : i < A.L.length := by rw [HAL.out]; exact hlt
                obtain ⟨hlA, hat⟩ := HAT.out i hiG hiA
                have hsucc := HLE.out i hiG
                have hbd := HBD.out i
                obtain ⟨bG, oG, aG, dG, rfl, hcG, hsG⟩ := (HGR.out _ (N0.out.trans (N9.out.trans (HNC.out.trans HNR.out)))).at i hiG
                obtain ⟨bA, oA, aA, dA, rfl, hcA, hsA⟩ := (HAR.out _ (HNC.out.trans HNR.out)).at i hiA
                rw [hlA] at hcA
                obtain ⟨mi, hmi⟩ : ∃ q, q = G.L[i].length := ⟨_, rfl⟩
                rw [← hmi] at hcG hcA hsucc
                have hm8 : mi ≤ 1000 := by have := HSM.out.1 i hiG; omega
                have HMI := Lib.hid hmi
                have HLA := Lib.hid hlA
                have HATT := Lib.hid hat
                have HSUC := Lib.hid hsucc
                have HSG := Lib.hid (fun W (n : New wr W) => (hsG.keep n).row'.2.2.2.2)
                have HSA := Lib.hid (fun W (n : New wr W) => (hsA.keep n).row'.2.2.2.2)
                have HCL := Lib.hid (fun W (n : New wr W) => And.intro (n.keep hcG) (And.intro (n.keep hcA) (And.intro (n.keep g4) (n.keep a4))))
                have HGK := Lib.hid hgk
                obtain ⟨T, hT⟩ : ∃ q, q = (stTo G i).length := ⟨_, rfl⟩
                rw [← hT] at hbd ⊢
                have HT := Lib.hid hT
                have hTb : T ≤ 4800 := by omega
                clear hmi hlA hat hsucc hsG hsA hcG hcA hT hbd hgk
                rename World => wA
                go_wp2_with fail
                clear g4 a4
                go_loopg [24, 22] mi (fun gk s24 s22 wr => ∃ k : Nat, s24 = .int .i64 k ∧ s22 = .int .i64 ((T + k : Nat) : Int) ∧ k ≤ mi ∧ mi - k ≤ gk ∧ Hid (New wA wr))
                case atStart => exact ⟨0, rfl, rfl, by omega, by omega, Lib.hid (New.refl _)⟩
                case round =>
                  obtain ⟨k, rfl, rfl, hk, hgk, HNQ⟩ := hrel
                  obtain ⟨hcG, hcA, g4, a4⟩ := HCL.out _ HNQ.out
                  by_cases hkt : k < mi
                  · have hkG : k < G.L[i].length := by rw [← HMI.out]; exact hkt
                    have hkA : k < A.L[i].length := by rw [HLA.out]; exact hkG
                    obtain ⟨e1, e2, -⟩ := HATT.out k hkG hkA
                    obtain ⟨bG2, oG2, rfl, hrG⟩ := (HSG.out _ HNQ.out) (by omega)
                    obtain ⟨bA2, oA2, rfl, hrA⟩ := (HSA.out _ HNQ.out) (by omega)
                    obtain ⟨y0, y1, -⟩ := Fl.cells hrG k hkG
                    obtain ⟨x0, x1, -⟩ := Fl.cells hrA k hkA
                    rw [e1] at x0
                    rw [e2] at x1
                    obtain ⟨fy, hfy⟩ : ∃ q, q = G.L[i][k].y := ⟨_, rfl⟩
                    obtain ⟨ft, hft⟩ : ∃ q, q = G.L[i][k].top := ⟨_, rfl⟩
                    rw [← hfy] at x0 y0
                    rw [← hft] at x1 y1
                    have hq0 : (fy != fy) = false := by simp
                    have hq1 : (ft != ft) = false := by simp
                    have hw : IntKind.i64.wrap (((T + k : Nat) : Int) + 1) = ((T + (k + 1) : Nat) : Int) := by rw [IntWalk.i64_in _ (by omega)]; omega
                    clear hrG hrA e1 e2 hfy hft hkG hkA
                    go_upto_region 32 with fail
                    (refine wp_region_hat (by kernel_rfl) (by kernel_rfl) ?_; intro hatc hatf; (repeat (go_big_quiet_step ((fail)))); refine wpQuiet_nil ?_; rintro _ ⟨z, rfl⟩)
                    have nz := Lib.hid (HNQ.out.trans z.h)
                    clear hcG hcA g4 a4 y0 y1 x0 x1 hq0 hq1
                    go_wp2_with fail
                    go_roundg (mi - (k + 1))
                    case measure => omega
                    case rel => exact ⟨k + 1, by go_num, rfl, by omega, by omega, nz⟩
                  · obtain rfl : k = mi := by omega
                    have hs : T + k = (stTo G (i + 1)).length := by rw [HSUC.out, ← HT.out]
                    have HS := Lib.hid hs
                    clear hs
                    go_wp2_with fail
                    go_roundg (gn - (i + 1))
                    case measure => have := HGK.out; omega
                    case rel => exact ⟨i + 1, by go_num, by rw [HS.out], by omega, by omega, Lib.hid (HNR.out.trans HNQ.out)⟩
              · obtain rfl : i = gn := by omega
                have hbd := HBD.out i
                obtain ⟨T, hT⟩ : ∃ q, q = (stTo G i).length := ⟨_, rfl⟩
                rw [← hT] at hbd HSUM ⊢
                clear hT g4 a4
                obtain ⟨a0, a1, a2, a3, a4⟩ := HA9.out _ (HNC.out.trans HNR.out)
                obtain ⟨g0, g1, g2, g3, g4⟩ := HG.out _ (N9.out.trans (HNC.out.trans HNR.out))
                go_wp2_with fail
                refine (KC.out _ (HNC.out.trans HNR.out)).mono ?_
                rintro e v3 ⟨rfl, n13⟩
                have N13 := Lib.hid (HNC.out.trans (HNR.out.trans n13))
                unfold cntV
                clear a0 a1 a2 a3 a4 g0 g1 g2 g3 g4 n13
                go_upto_region 37 with fail
                refine Code.at (fun v4 hW => ?_)
                have n14 : New v3 v4 := by subst hW; (repeat (first | (with_reducible exact New.refl _) | (with_reducible assumption) | ((with_reducible refine New.setB ?_ ?_ _); focus (first | omega | (simp; omega) | (simp; done))) | (with_reducible refine New.alloc ?_ _) | (with_reducible refine New.drew ?_) | (with_reducible refine New.drewN ?_ _) | (with_reducible refine New.hat ?_ _) | ((with_reducible apply New.snart); (with_reducible assumption))))
                have hPC : v4.heap[v3.heap.size]? = some (.cells (cntV cn) 44 (0, 0)) := by subst hW; exact heap_new _ _
                clear hW
                obtain ⟨PC, hPC2⟩ : ∃ q, q = v3.heap.size := ⟨_, rfl⟩
                rw [← hPC2] at hPC ⊢
                have HPC := Lib.hid hPC
                have N14 := Lib.hid (N13.out.trans n14)
                clear hPC2 hPC n14
                go_wp2_with fail
                go_loopg [27, 25] 8 (fun gk s27 s25 wr => ∃ j : Nat, s27 = .int .i64 j ∧ s25 = .int .i64 (sumC cn j) ∧ j ≤ 8 ∧ 8 - j ≤ gk ∧ Hid (New v4 wr))
                case atStart => exact ⟨0, rfl, rfl, by omega, by omega, Lib.hid (New.refl _)⟩
                case round =>
                  obtain ⟨j, rfl, rfl, hj, hgk, HNP⟩ := hrel
                  by_cases hjt : j < 8
                  · have hd : decide ((j : Int) < 8) = true := decide_eq_true (by omega)
                    have cj : (_ : World).cell? ⟨PC, j, none⟩ = some (.int .i64 (cn j)) := HNP.out.keep (cell_of_heap HPC.out (cntV_at cn hjt))
                    have hb1 := HSB.out (j + 1) (by omega)
                    have hA5 := HA5.out
                    have hsm : sumC cn (j + 1) = sumC cn j + cn j := rfl
                    have hw : IntKind.i64.wrap (sumC cn j + cn j) = sumC cn (j + 1) := by
                      rw [hsm] at hb1 ⊢
                      have : ((j + 1 : Nat) : Int) * (aln : Int) ≤ 8 * 100000 := Int.mul_le_mul (by omega) (by omega) (by omega) (by omega)
                      exact IntWalk.i64_in _ (by omega)
                    clear hb1 hA5 hsm
                    go_wp2_with fail
                    go_roundg (8 - (j + 1))
                    case measure => omega
                    case rel => exact ⟨j + 1, by go_num, rfl, by omega, by omega, HNP⟩
                  · obtain rfl : j = 8 := by omega
                    have heq : ((T : Int) == sumC cn 8) = true := by rw [HSUM.out]; simp
                    obtain ⟨a0, a1, a2, a3, a4⟩ := HA9.out _ (N14.out.trans HNP.out)
                    obtain ⟨q0, q1, q2, q3, q4⟩ := HBB9.out _ (N14.out.trans HNP.out)
                    go_wp2_with fail
                    refine (KS.out _ (N14.out.trans HNP.out)).mono ?_
                    rintro e v5 ⟨rfl, n15⟩
                    have N15 := Lib.hid (N14.out.trans (HNP.out.trans n15))
                    clear a0 a1 a2 a3 a4 q0 q1 q2 q3 q4 n15
                    go_wp2_with fail
                    refine (KW.out _ (N0.out.trans (N9.out.trans N15.out))).mono ?_
                    rintro e v6 ⟨rfl, n16⟩
                    have nn := N0.out.trans (N9.out.trans (N15.out.trans n16))
                    clear n16
                    go_wp2_with fail
                    go_ret
                    exact ⟨rfl, nn⟩

end Go.Proofs.YtdbhlepbaepngaaDoor
