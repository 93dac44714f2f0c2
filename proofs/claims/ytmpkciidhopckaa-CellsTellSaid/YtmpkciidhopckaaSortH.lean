/- sort.choosePivot_func and what it calls, whatever the comparison lays: the pivot lies within. -/
import Derived.Test.YtmpkciidhopckaaSortA
import Derived.Deep.DeepCutAuto
import Derived.Deep.CutBlock
namespace Go.Proofs.Ytmpkciidhopckaa
open Go.RowKit Go.Sort Go.Shelf Go.Lib
set_option linter.unusedVariables false
variable {α : Type} [Inhabited α] {g : Nat} {lb : Array Value} {sf : Nat} {sb : Array Value} {enc : α → List Value} {k : Nat} {lt : α → α → Bool} {blk off n : Nat} {w0 : World}

/-- The counter. -/
structure Ctr (W : World) (cb s : Nat) : Prop where
  cell : W.cell? ⟨cb, 0, none⟩ = some (.int .i64 s)
  frozen : W.frozen? ⟨cb, 0, none⟩ = false
theorem Ctr.new {W W' : World} {cb s : Nat} (h : Ctr W cb s) (q : New W W') : Ctr W' cb s := ⟨q.keep h.cell, q.keepF h.cell h.frozen⟩
theorem Ctr.below {W : World} {cb s : Nat} (h : Ctr W cb s) : cb < W.heap.size := World.block_lt_of_cell? W ⟨cb, 0, none⟩ h.cell

theorem New.but {B : Nat} {a b c : World} (h : New a b) (k : But B b c) (hB : a.heap.size ≤ B) : New a c := ((But.of_new (blk := a.heap.size) h).own k hB).toNew (Nat.le_refl _)

set_option maxHeartbeats 2000000 in
set_option maxRecDepth 100000 in
theorem s_order (C : Sorting Try.prog g lb sf sb enc k lt blk off n w0) (a b cb s : Nat) (d : Array α) (w : World) (hR : Row enc k blk off n w0 d w) (ha : a < n) (hb : b < n) (hc : Ctr w cb s) (hcb : w0.heap.size ≤ cb) (hs : s < 1000) :
    Calls Try.prog 103 #[.agg #[.func (.func g) #[] lb, .func (.func sf) #[] sb], .int .i64 a, .int .i64 b, .pointer (some ⟨cb, 0, none⟩)] w fun e w' =>
      ∃ x y s' : Nat, e = .returned (.tuple #[.int .i64 x, .int .i64 y]) ∧ (x = a ∧ y = b ∨ x = b ∧ y = a) ∧ s' ≤ s + 1 ∧ But cb w w' ∧ Ctr w' cb s' := by
  have hcl := hc.below
  cases hlv : lt d[b]! d[a]! with
  | true =>
    (have hn := C.small; have eg := C.eg; have hB : blk ≠ w.heap.size := (by (have := hR.le; have := C.lt0; omega)); (go_enter Try.func103, Try.ntmps103); go_wp2; (obtain ⟨w1, hw1⟩ : ∃ w1, w1 = w.alloc (.cells #[.func (.func g) #[] lb, .func (.func sf) #[] sb] 99) := ⟨_, rfl⟩); (have hR1 : Row enc k blk off n w0 d w1 := by (subst hw1; exact hR.alloc _)); (have n1 : New w w1 := by (subst hw1; (repeat (first | (with_reducible exact New.refl _) | (with_reducible assumption) | ((with_reducible refine New.setB ?_ ?_ _); focus (first | omega | (simp; omega) | (simp; done))) | (with_reducible refine New.alloc ?_ _) | (with_reducible refine New.drew ?_) | (with_reducible refine New.drewN ?_ _) | (with_reducible refine New.hat ?_ _) | ((with_reducible apply New.snart); (with_reducible assumption)))))); (have b0 : w1.cell? ⟨w.heap.size, 0, none⟩ = some (.func (.func g) #[] lb) := by (subst hw1; go_simp)); (have b1 : w1.cell? ⟨w.heap.size, 1, none⟩ = some (.func (.func sf) #[] sb) := by (subst hw1; go_simp)); rw [← hw1]; clear hw1)
    have hl := C.at hR1 b a (by omega) (by omega) hlv
    have hc1 := hc.new n1
    refine hl.mono ?_
    rintro e w2 ⟨rfl, n2⟩
    have n3 := n1.trans n2
    obtain ⟨hc2, hf2⟩ := hc1.new n2
    go_wp2
    go_ret2
    exact ⟨b, a, s + 1, rfl, Or.inr ⟨rfl, rfl⟩, Nat.le_refl _, (But.of_new n3).setCell 0 _, by rw [World.cell?_setCell_same' _ _ _ (by rw [hc2]; rfl)]; simp, by rw [World.frozen?_setCell]; exact hf2⟩
  | false =>
    (have hn := C.small; have eg := C.eg; have hB : blk ≠ w.heap.size := (by (have := hR.le; have := C.lt0; omega)); (go_enter Try.func103, Try.ntmps103); go_wp2; (obtain ⟨w1, hw1⟩ : ∃ w1, w1 = w.alloc (.cells #[.func (.func g) #[] lb, .func (.func sf) #[] sb] 99) := ⟨_, rfl⟩); (have hR1 : Row enc k blk off n w0 d w1 := by (subst hw1; exact hR.alloc _)); (have n1 : New w w1 := by (subst hw1; (repeat (first | (with_reducible exact New.refl _) | (with_reducible assumption) | ((with_reducible refine New.setB ?_ ?_ _); focus (first | omega | (simp; omega) | (simp; done))) | (with_reducible refine New.alloc ?_ _) | (with_reducible refine New.drew ?_) | (with_reducible refine New.drewN ?_ _) | (with_reducible refine New.hat ?_ _) | ((with_reducible apply New.snart); (with_reducible assumption)))))); (have b0 : w1.cell? ⟨w.heap.size, 0, none⟩ = some (.func (.func g) #[] lb) := by (subst hw1; go_simp)); (have b1 : w1.cell? ⟨w.heap.size, 1, none⟩ = some (.func (.func sf) #[] sb) := by (subst hw1; go_simp)); rw [← hw1]; clear hw1)
    have hl := C.at hR1 b a (by omega) (by omega) hlv
    have hc1 := hc.new n1
    refine hl.mono ?_
    rintro e w2 ⟨rfl, n2⟩
    have n3 := n1.trans n2
    have hc2 := hc1.new n2
    go_wp2
    go_ret2
    exact ⟨a, b, s, rfl, Or.inl ⟨rfl, rfl⟩, Nat.le_succ _, But.of_new n3, hc2⟩

set_option maxHeartbeats 2000000 in
set_option maxRecDepth 100000 in
theorem s_median (C : Sorting Try.prog g lb sf sb enc k lt blk off n w0) (a b c cb s : Nat) (d : Array α) (w : World) (hR : Row enc k blk off n w0 d w) (ha : a < n) (hb : b < n) (hc0 : c < n) (hc : Ctr w cb s) (hcb : w0.heap.size ≤ cb) (hs : s + 3 < 1000) :
    Calls Try.prog 102 #[.agg #[.func (.func g) #[] lb, .func (.func sf) #[] sb], .int .i64 a, .int .i64 b, .int .i64 c, .pointer (some ⟨cb, 0, none⟩)] w fun e w' =>
      ∃ m s' : Nat, e = .returned (.int .i64 m) ∧ (m = a ∨ m = b ∨ m = c) ∧ s' ≤ s + 3 ∧ But cb w w' ∧ Ctr w' cb s' := by
  have hcl := hc.below
  have h0 := C.lt0
  (have hn := C.small; have eg := C.eg; have hB : blk ≠ w.heap.size := (by (have := hR.le; have := C.lt0; omega)); (go_enter Try.func102, Try.ntmps102); go_wp2_with fail; (obtain ⟨w1, hw1⟩ : ∃ w1, w1 = w.alloc (.cells #[.func (.func g) #[] lb, .func (.func sf) #[] sb] 99) := ⟨_, rfl⟩); (have hR1 : Row enc k blk off n w0 d w1 := by (subst hw1; exact hR.alloc _)); (have n1 : New w w1 := by (subst hw1; (repeat (first | (with_reducible exact New.refl _) | (with_reducible assumption) | ((with_reducible refine New.setB ?_ ?_ _); focus (first | omega | (simp; omega) | (simp; done))) | (with_reducible refine New.alloc ?_ _) | (with_reducible refine New.drew ?_) | (with_reducible refine New.drewN ?_ _) | (with_reducible refine New.hat ?_ _) | ((with_reducible apply New.snart); (with_reducible assumption)))))); (have b0 : w1.cell? ⟨w.heap.size, 0, none⟩ = some (.func (.func g) #[] lb) := by (subst hw1; go_simp)); (have b1 : w1.cell? ⟨w.heap.size, 1, none⟩ = some (.func (.func sf) #[] sb) := by (subst hw1; go_simp)); (have hz1 : w1.heap.size = w.heap.size + 1 := by (subst hw1; simp)); rw [← hw1]; clear hw1)
  have hc1 := hc.new n1
  have hBc : w.heap.size ≠ cb := by omega
  refine (s_order C a b cb s d _ hR1 ha hb hc1 hcb (by omega)).mono ?_
  rintro e w2 ⟨x1, y1, s1, rfl, o1, l1, p1, e1⟩
  have b0 := p1.keep b0 hBc
  have b1 := p1.keep b1 hBc
  go_wp2_with fail
  have hR2 := hR1.own p1 hcb h0
  have hx1 : x1 < n := by omega
  have hy1 : y1 < n := by omega
  refine (s_order C y1 c cb s1 d _ hR2 hy1 hc0 e1 hcb (by omega)).mono ?_
  rintro e w3 ⟨x2, y2, s2, rfl, o2, l2, p2, e2⟩
  have b0 := p2.keep b0 hBc
  have b1 := p2.keep b1 hBc
  go_wp2_with fail
  have hR3 := hR2.own p2 hcb h0
  have hx2 : x2 < n := by omega
  refine (s_order C x1 x2 cb s2 d _ hR3 hx1 hx2 e2 hcb (by omega)).mono ?_
  rintro e w4 ⟨x3, y3, s3, rfl, o3, l3, p3, e3⟩
  go_wp2_with fail
  go_ret
  exact ⟨y3, s3, rfl, by omega, by omega, ((p1.snd n1).trans p2).trans p3, e3⟩

set_option maxHeartbeats 2000000 in
set_option maxRecDepth 100000 in
theorem s_adj (C : Sorting Try.prog g lb sf sb enc k lt blk off n w0) (a cb s : Nat) (d : Array α) (w : World) (hR : Row enc k blk off n w0 d w) (ha : 1 ≤ a) (hb : a + 1 < n) (hc : Ctr w cb s) (hcb : w0.heap.size ≤ cb) (hs : s + 3 < 1000) :
    Calls Try.prog 101 #[.agg #[.func (.func g) #[] lb, .func (.func sf) #[] sb], .int .i64 a, .pointer (some ⟨cb, 0, none⟩)] w fun e w' =>
      ∃ m s' : Nat, e = .returned (.int .i64 m) ∧ a ≤ m + 1 ∧ m ≤ a + 1 ∧ s' ≤ s + 3 ∧ But cb w w' ∧ Ctr w' cb s' := by
  have hcl := hc.below
  have h0 := C.lt0
  (have hn := C.small; have eg := C.eg; have hB : blk ≠ w.heap.size := (by (have := hR.le; have := C.lt0; omega)); (go_enter Try.func101, Try.ntmps101); go_wp2_with fail; (obtain ⟨w1, hw1⟩ : ∃ w1, w1 = w.alloc (.cells #[.func (.func g) #[] lb, .func (.func sf) #[] sb] 99) := ⟨_, rfl⟩); (have hR1 : Row enc k blk off n w0 d w1 := by (subst hw1; exact hR.alloc _)); (have n1 : New w w1 := by (subst hw1; (repeat (first | (with_reducible exact New.refl _) | (with_reducible assumption) | ((with_reducible refine New.setB ?_ ?_ _); focus (first | omega | (simp; omega) | (simp; done))) | (with_reducible refine New.alloc ?_ _) | (with_reducible refine New.drew ?_) | (with_reducible refine New.drewN ?_ _) | (with_reducible refine New.hat ?_ _) | ((with_reducible apply New.snart); (with_reducible assumption)))))); (have b0 : w1.cell? ⟨w.heap.size, 0, none⟩ = some (.func (.func g) #[] lb) := by (subst hw1; go_simp)); (have b1 : w1.cell? ⟨w.heap.size, 1, none⟩ = some (.func (.func sf) #[] sb) := by (subst hw1; go_simp)); (have hz1 : w1.heap.size = w.heap.size + 1 := by (subst hw1; simp)); rw [← hw1]; clear hw1)
  have hc1 := hc.new n1
  have hm := s_median C (a - 1) a (a + 1) cb s d _ hR1 (by omega) (by omega) hb hc1 hcb hs
  rw [show ((a - 1 : Nat) : Int) = (a : Int) - 1 by omega, show ((a + 1 : Nat) : Int) = (a : Int) + 1 by omega] at hm
  refine hm.mono ?_
  rintro e w2 ⟨m, s1, rfl, o1, l1, p1, e1⟩
  go_wp2_with fail
  go_ret
  exact ⟨m, s1, rfl, by omega, by omega, l1, p1.snd n1, e1⟩

set_option maxHeartbeats 4000000 in
set_option maxRecDepth 100000 in
theorem s_pivot (C : Sorting Try.prog g lb sf sb enc k lt blk off n w0) (a b : Nat) (d : Array α) (w : World) (hR : Row enc k blk off n w0 d w) (hab : a + 8 ≤ b) (hb : b ≤ n) :
    Calls Try.prog 91 #[.agg #[.func (.func g) #[] lb, .func (.func sf) #[] sb], .int .i64 a, .int .i64 b] w fun e w' =>
      ∃ m h : Nat, e = .returned (.tuple #[.int .i64 m, .int .i64 h]) ∧ a ≤ m ∧ m < b ∧ h ≤ 2 ∧ New w w' := by
  have h0 := C.lt0
  obtain ⟨q, hq⟩ : ∃ q : Nat, q = (b - a) / 4 := ⟨_, rfl⟩
  have hT : ((b : Int) - (a : Int)).tdiv 4 = (q : Int) := by rw [Int.tdiv_eq_ediv_of_nonneg (by omega)]; omega
  have hq1 : 4 * q ≤ b - a := by omega
  have hq2 : b - a < 4 * q + 4 := by omega
  have hq3 : 2 ≤ q := by omega
  clear hq
  have h8 : (b : Int) - (a : Int) ≥ 8 := by omega
  by_cases h50 : b - a ≥ 50
  · have h50z : (b : Int) - (a : Int) ≥ 50 := by omega
    (have hn := C.small; have eg := C.eg; have hB : blk ≠ w.heap.size := (by (have := hR.le; have := C.lt0; omega)); (go_enter Try.func91, Try.ntmps91); go_wp2_with fail; (obtain ⟨w1, hw1⟩ : ∃ w1, w1 = w.alloc (.cells #[.func (.func g) #[] lb, .func (.func sf) #[] sb] 99) := ⟨_, rfl⟩); (have hR1 : Row enc k blk off n w0 d w1 := by (subst hw1; exact hR.alloc _)); (have n1 : New w w1 := by (subst hw1; (repeat (first | (with_reducible exact New.refl _) | (with_reducible assumption) | ((with_reducible refine New.setB ?_ ?_ _); focus (first | omega | (simp; omega) | (simp; done))) | (with_reducible refine New.alloc ?_ _) | (with_reducible refine New.drew ?_) | (with_reducible refine New.drewN ?_ _) | (with_reducible refine New.hat ?_ _) | ((with_reducible apply New.snart); (with_reducible assumption)))))); (have b0 : w1.cell? ⟨w.heap.size, 0, none⟩ = some (.func (.func g) #[] lb) := by (subst hw1; go_simp)); (have b1 : w1.cell? ⟨w.heap.size, 1, none⟩ = some (.func (.func sf) #[] sb) := by (subst hw1; go_simp)); (have hz1 : w1.heap.size = w.heap.size + 1 := by (subst hw1; simp)); rw [← hw1]; clear hw1)
    obtain ⟨w2, hw2⟩ : ∃ w2, w2 = w1.alloc (.cells #[.int .i64 0] 3) := ⟨_, rfl⟩
    have n2 : New w1 w2 := by subst hw2; (repeat (first | (with_reducible exact New.refl _) | (with_reducible assumption) | ((with_reducible refine New.setB ?_ ?_ _); focus (first | omega | (simp; omega) | (simp; done))) | (with_reducible refine New.alloc ?_ _) | (with_reducible refine New.drew ?_) | (with_reducible refine New.drewN ?_ _) | (with_reducible refine New.hat ?_ _) | ((with_reducible apply New.snart); (with_reducible assumption))))
    have hC2 : Ctr w2 (w.heap.size + 1) 0 := by subst hw2; rw [← hz1]; exact ⟨by go_simp, by go_simp⟩
    have hR2 := hR1.new n2
    have b0 := n2.keep b0
    have b1 := n2.keep b1
    rw [← hw2]
    clear hw2
    have hcb : w0.heap.size ≤ w.heap.size + 1 := by have := hR.le; omega
    have hBc : w.heap.size ≠ w.heap.size + 1 := by omega
    have ei : ((a + q : Nat) : Int) = (a : Int) + (q : Int) := by omega
    have ej : ((a + q * 2 : Nat) : Int) = (a : Int) + (q : Int) * 2 := by omega
    have ek : ((a + q * 3 : Nat) : Int) = (a : Int) + (q : Int) * 3 := by omega
    have h1 := s_adj C (a + q) (w.heap.size + 1) 0 d w2 hR2 (by omega) (by omega) hC2 hcb (by omega)
    rw [ei] at h1
    refine h1.mono ?_
    rintro e w3 ⟨m1, s1, rfl, o1, o1', l1, p1, e1⟩
    have b0 := p1.keep b0 hBc
    have b1 := p1.keep b1 hBc
    have hR3 := hR2.own p1 hcb h0
    have h2 := s_adj C (a + q * 2) (w.heap.size + 1) s1 d w3 hR3 (by omega) (by omega) e1 hcb (by omega)
    rw [ej] at h2
    go_wp2_with fail
    refine h2.mono ?_
    rintro e w4 ⟨m2, s2, rfl, o2, o2', l2, p2, e2⟩
    have b0 := p2.keep b0 hBc
    have b1 := p2.keep b1 hBc
    have hR4 := hR3.own p2 hcb h0
    have h3 := s_adj C (a + q * 3) (w.heap.size + 1) s2 d w4 hR4 (by omega) (by omega) e2 hcb (by omega)
    rw [ek] at h3
    go_wp2_with fail
    refine h3.mono ?_
    rintro e w5 ⟨m3, s3, rfl, o3, o3', l3, p3, e3⟩
    have b0 := p3.keep b0 hBc
    have b1 := p3.keep b1 hBc
    have hR5 := hR4.own p3 hcb h0
    go_wp2_with fail
    refine (s_median C m1 m2 m3 (w.heap.size + 1) s3 d w5 hR5 (by omega) (by omega) (by omega) e3 hcb (by omega)).mono ?_
    rintro e w6 ⟨m, s4, rfl, o4, l4, p4, e4⟩
    have hN : New w w6 := (n1.trans n2).but (((p1.trans p2).trans p3).trans p4) (by omega)
    have hm1 : a ≤ m := by omega
    have hm2 : m < b := by omega
    obtain ⟨c4, f4⟩ := e4
    clear p1 p2 p3 p4 o1 o1' o2 o2' o3 o3' o4 e1 e2 e3 h1 h2 h3
    (by_cases hz : s4 = 0; (· (subst hz; go_wp2_with fail; go_ret2; exact ⟨m, 1, rfl, hm1, hm2, by omega, hN⟩)); (by_cases hy : s4 = 12; (· (subst hy; go_wp2_with fail; go_ret2; exact ⟨m, 2, rfl, hm1, hm2, by omega, hN⟩)); (have hz' : ((s4 : Int) == 0) = false := (by rw [beq_eq_false_iff_ne]; omega)); (have hy' : ((s4 : Int) == 12) = false := (by rw [beq_eq_false_iff_ne]; omega)); go_wp2_with fail; go_ret2; exact ⟨m, 0, rfl, hm1, hm2, by omega, hN⟩))
  · have h50z : ¬ ((b : Int) - (a : Int) ≥ 50) := by omega
    (have hn := C.small; have eg := C.eg; have hB : blk ≠ w.heap.size := (by (have := hR.le; have := C.lt0; omega)); (go_enter Try.func91, Try.ntmps91); go_wp2_with fail; (obtain ⟨w1, hw1⟩ : ∃ w1, w1 = w.alloc (.cells #[.func (.func g) #[] lb, .func (.func sf) #[] sb] 99) := ⟨_, rfl⟩); (have hR1 : Row enc k blk off n w0 d w1 := by (subst hw1; exact hR.alloc _)); (have n1 : New w w1 := by (subst hw1; (repeat (first | (with_reducible exact New.refl _) | (with_reducible assumption) | ((with_reducible refine New.setB ?_ ?_ _); focus (first | omega | (simp; omega) | (simp; done))) | (with_reducible refine New.alloc ?_ _) | (with_reducible refine New.drew ?_) | (with_reducible refine New.drewN ?_ _) | (with_reducible refine New.hat ?_ _) | ((with_reducible apply New.snart); (with_reducible assumption)))))); (have b0 : w1.cell? ⟨w.heap.size, 0, none⟩ = some (.func (.func g) #[] lb) := by (subst hw1; go_simp)); (have b1 : w1.cell? ⟨w.heap.size, 1, none⟩ = some (.func (.func sf) #[] sb) := by (subst hw1; go_simp)); (have hz1 : w1.heap.size = w.heap.size + 1 := by (subst hw1; simp)); rw [← hw1]; clear hw1)
    obtain ⟨w2, hw2⟩ : ∃ w2, w2 = w1.alloc (.cells #[.int .i64 0] 3) := ⟨_, rfl⟩
    have n2 : New w1 w2 := by subst hw2; (repeat (first | (with_reducible exact New.refl _) | (with_reducible assumption) | ((with_reducible refine New.setB ?_ ?_ _); focus (first | omega | (simp; omega) | (simp; done))) | (with_reducible refine New.alloc ?_ _) | (with_reducible refine New.drew ?_) | (with_reducible refine New.drewN ?_ _) | (with_reducible refine New.hat ?_ _) | ((with_reducible apply New.snart); (with_reducible assumption))))
    have hC2 : Ctr w2 (w.heap.size + 1) 0 := by subst hw2; rw [← hz1]; exact ⟨by go_simp, by go_simp⟩
    have hR2 := hR1.new n2
    rw [← hw2]
    clear hw2
    have hcb : w0.heap.size ≤ w.heap.size + 1 := by have := hR.le; omega
    have hm := s_median C (a + q) (a + q * 2) (a + q * 3) (w.heap.size + 1) 0 d w2 hR2 (by omega) (by omega) (by omega) hC2 hcb (by omega)
    rw [show ((a + q : Nat) : Int) = (a : Int) + (q : Int) by omega, show ((a + q * 2 : Nat) : Int) = (a : Int) + (q : Int) * 2 by omega, show ((a + q * 3 : Nat) : Int) = (a : Int) + (q : Int) * 3 by omega] at hm
    refine hm.mono ?_
    rintro e w6 ⟨m, s4, rfl, o4, l4, p4, e4⟩
    have hN : New w w6 := (n1.trans n2).but p4 (by omega)
    have hm1 : a ≤ m := by omega
    have hm2 : m < b := by omega
    obtain ⟨c4, f4⟩ := e4
    clear p4 o4
    (by_cases hz : s4 = 0; (· (subst hz; go_wp2_with fail; go_ret2; exact ⟨m, 1, rfl, hm1, hm2, by omega, hN⟩)); (by_cases hy : s4 = 12; (· (subst hy; go_wp2_with fail; go_ret2; exact ⟨m, 2, rfl, hm1, hm2, by omega, hN⟩)); (have hz' : ((s4 : Int) == 0) = false := (by rw [beq_eq_false_iff_ne]; omega)); (have hy' : ((s4 : Int) == 12) = false := (by rw [beq_eq_false_iff_ne]; omega)); go_wp2_with fail; go_ret2; exact ⟨m, 0, rfl, hm1, hm2, by omega, hN⟩))

end Go.Proofs.Ytmpkciidhopckaa
