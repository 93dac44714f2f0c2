import Derived.Test.YtgoggogcbjfofaaDoorFdGY14
import Derived.WalkMore
import Derived.Test.YtgoggogcbjfofaaDoorIntLY14
import Derived.Test.YtgoggogcbjfofaaDoorOgWY14
import Derived.Test.YtgoggogcbjfofaaDoorSlAppY14

/- Package field: grow. -/
namespace Go.Proofs.YtgoggogcbjfofaaDoor
open Go.RowKit
set_option linter.unusedVariables false

theorem mem_rdP (N : Net) (R : List Sp) (t : Sp) : t ∈ rdP N R R.length ↔ ∃ s ∈ R, t ∈ arP N.go s := by
  unfold rdP
  rw [List.take_length, List.mem_flatMap]
theorem putF_zero (P : List Sp) (s t : Sp) : (if t = s then some 0 else putF (fun _ => none) 0 P t) = putF (fun _ => none) 0 (P ++ [s]) t := by
  unfold putF
  simp only [List.mem_append, List.mem_singleton]
  by_cases e : t = s
  · simp [e]
  · simp [e]
/-- What is held, and what is next, at the round f. -/
structure RdOK (N : Net) (f n : Nat) (R : List Sp) (F : Sp → Option Nat) : Prop where
  mem : ∀ s, s ∈ R ↔ SpIn N.M s ∧ justB N.go f s = true
  len : R.length ≤ 32768 * 8 ^ f
  cnt : n ≤ 65536 * 8 ^ f
  held : ∀ s, SpIn N.M s → F s = heldF N.go f s
theorem RdOK.zero (N : Net) {n : Nat} (hn : n = (edgeL N).length) : RdOK N 0 n (edgeL N) (putF (fun _ => none) 0 (edgeL N)) := by
  have hl := edge_len N
  refine ⟨fun s => ?_, by omega, by omega, fun s hs => ?_⟩
  · rw [mem_edge, just_zero, Bool.not_eq_true']
  · rw [held_zero]
    unfold putF
    simp only [mem_edge, hs, true_and]
    cases fulP N.go s <;> simp
theorem RdOK.next {N : Net} {f n : Nat} {R l : List Sp} {F : Sp → Option Nat} (h : RdOK N f n R F) (hm : MemP l (rdP N R R.length) F) (hl : l.length ≤ (rdP N R R.length).length) : RdOK N (f + 1) (n + (rdP N R R.length).length) l (putF F (f + 1) (rdP N R R.length)) := by
  have hp := rdP_len N R R.length
  have h1 := h.len
  have h2 := h.cnt
  have hP : ∀ t, t ∈ rdP N R R.length ↔ ∃ s, SpIn N.M s ∧ justB N.go f s = true ∧ t ∈ arP N.go s := fun t => by
    rw [mem_rdP]
    constructor
    · rintro ⟨s, hs, ht⟩
      exact ⟨s, ((h.mem s).1 hs).1, ((h.mem s).1 hs).2, ht⟩
    · rintro ⟨s, a, b, c⟩
      exact ⟨s, (h.mem s).2 ⟨a, b⟩, c⟩
  refine ⟨fun s => ?_, by rw [Nat.pow_succ]; omega, by rw [Nat.pow_succ]; omega, fun s hs => ?_⟩
  · rw [hm s, hP s]
    constructor
    · rintro ⟨⟨u, a, b, c⟩, e⟩
      have hs := (N.sym u a s c).1
      rw [h.held s hs] at e
      exact ⟨hs, (just_next N.sym hs).2 ⟨e, u, a, b, c⟩⟩
    · rintro ⟨hs, q⟩
      obtain ⟨e, u, a, b, c⟩ := (just_next N.sym hs).1 q
      exact ⟨⟨u, a, b, c⟩, by rw [h.held s hs]; exact e⟩
  · rw [held_next N.sym hs (s ∈ rdP N R R.length) (hP s)]
    unfold putF
    rw [h.held s hs]
    cases heldF N.go f s <;> rfl
theorem RdOK.last {N : Net} {f n : Nat} {R : List Sp} {F : Sp → Option Nat} (h : RdOK N f n R F) {s : Sp} (hs : SpIn N.M s) : (F s).getD (f + 1) = clr N.go (f + 1) s := by
  rw [h.held s hs]
  exact held_end (Nat.le_refl _) (fun q => q)
theorem RdOK.stop {N : Net} {f n m : Nat} {R : List Sp} {F : Sp → Option Nat} (h : RdOK N f n R F) (h0 : R.length = 0) (hf : f < m) {s : Sp} (hs : SpIn N.M s) : (F s).getD m = clr N.go m s := by
  rw [h.held s hs]
  have hR : R = [] := List.eq_nil_of_length_eq_zero h0
  have hj : ∀ s, SpIn N.M s → justB N.go f s = false := fun u hu => by
    cases q : justB N.go f u
    · rfl
    · have := (h.mem u).2 ⟨hu, q⟩
      rw [hR] at this
      cases this
  refine held_end hf (fun q => ?_)
  have := no_more N.sym hj (m - f) s hs (geB_down _ _ q)
  rw [show f + (m - f) = m by omega] at this
  exact this
theorem pow_five {f : Nat} (h : f ≤ 5) : 8 ^ f ≤ 32768 := by
  rcases (show f = 0 ∨ f = 1 ∨ f = 2 ∨ f = 3 ∨ f = 4 ∨ f = 5 by omega) with rfl | rfl | rfl | rfl | rfl | rfl <;> decide
theorem HeldAt.set {w : World} {b n : Nat} {F : Sp → Option Nat} (h : HeldAt w b n F) {p : Addr} (hp : b ≠ p.block) (v : Value) : HeldAt (w.setCell p v) b n F := by
  obtain ⟨D, ⟨es, clock, hb, r⟩, h2⟩ := h
  exact ⟨D, ⟨es, clock, (Below.heap_setCell _ _ _ _ hp).trans hb, r⟩, h2⟩
theorem sl_set {w : World} {u : Value} {l : List Sp} (hs : Sl Sp.enc 2 w u l) {p : Addr} (hp : ∀ g, u.ownBlock = some g → g ≠ p.block) (x : Value) : Sl Sp.enc 2 (w.setCell p x) u l := by
  obtain ⟨a, c, rfl, h1, h2, h3, h4⟩ := hs
  refine ⟨a, c, rfl, h1, h2, h3, fun h0 => ?_⟩
  obtain ⟨b, off, rfl, hr⟩ := h4 h0
  have hne : b ≠ p.block := hp b (by simp [Value.ownBlock])
  refine ⟨b, off, rfl, fun i hi q hq => ?_⟩
  rw [World.cell?_of_block (a := ⟨b, off + i * 2 + q, none⟩) (Below.heap_setCell _ _ _ _ hne)]
  exact hr i hi q hq

/-- What grow tells. -/
def Grown (N : Net) (m : Nat) (w : World) (e : Ending) (w' : World) : Prop := ∃ M n F, e = .returned (.map (some M)) ∧ HeldAt w' M n F ∧ (∀ s, SpIn N.M s → (F s).getD m = clr N.go m s) ∧ New w w'

set_option maxHeartbeats 16000000 in
set_option maxRecDepth 100000 in
theorem fd_grow (N : Net) (la : Option Addr) (lc : Nat) (m : Nat) (hm1 : 1 ≤ m) (hm6 : m ≤ 6) (w : World) (h : RowsK Lk.enc 4 w (.slice la N.M.length lc) N.M) (hD : Dirs w) : Calls Tryd.prog 46 #[.agg #[.int .i64 ((N.W : Nat) : Int), .slice la N.M.length lc], .int .i64 (m : Nat)] w (Grown N m w) := by
  have KE := Lib.hid (fun W (q : New w W) => fd_edge N la lc W W (New.refl _) (h.keep q) (hD.new q))
  have KN := Lib.hid (fun R hR hRl r hr wB W hnB (q : New w wB) B0 B1 B2 M n hM hn hG ra rc c1 hS c2 F hH => fd_next N la lc R hR hRl r hr wB W hnB (h.keep q) (hD.new q) B0 B1 B2 M n hM hn hG ra rc c1 hS c2 F hH)
  have HEL := Lib.hid (edge_len N)
  have HEI : Hid (∀ s ∈ edgeL N, s.c < 4096 ∧ s.k < 8) := Lib.hid (fun s hs => N.small ((mem_edge N).1 hs).1)
  have HRZ := Lib.hid (fun n hn => RdOK.zero N (n := n) hn)
  obtain ⟨nm, hnm⟩ : ∃ n, n = N.M.length := ⟨_, rfl⟩
  rw [← hnm] at KE KN ⊢
  obtain ⟨wd, hwd⟩ : ∃ q, q = N.W := ⟨_, rfl⟩
  rw [← hwd] at KE KN ⊢
  obtain ⟨R0, hR0⟩ : ∃ q, q = edgeL N := ⟨_, rfl⟩
  rw [← hR0] at KE HEL HEI HRZ
  obtain ⟨n0, hn0⟩ : ∃ q, q = R0.length := ⟨_, rfl⟩
  rw [← hn0] at KE HEL HRZ
  have HN0 := Lib.hid hn0
  clear hnm hwd h hD hR0 hn0
  obtain ⟨Q, hQ⟩ : ∃ Q, Q = Grown N m w := ⟨_, rfl⟩
  rw [← hQ]
  have HQ := Lib.hid hQ
  clear hQ
  have hmm := @run_makeMap Tryd.prog
  go_enter Tryd.func46, Tryd.ntmps46
  go_wp2_with fail
  go_step3
  go_upto_region 1 with fail
  refine Code.at (fun wB hW => ?_)
  have nB : Hid (New w wB) := Lib.hid (by subst hW; (repeat (first | (with_reducible exact New.refl _) | (with_reducible assumption) | ((with_reducible refine New.setB ?_ ?_ _); focus (first | omega | (simp; omega) | (simp; done))) | (with_reducible refine New.alloc ?_ _) | (with_reducible refine New.drew ?_) | (with_reducible refine New.drewN ?_ _) | (with_reducible refine New.hat ?_ _) | ((with_reducible apply New.snart); (with_reducible assumption)))))
  have HG : Hid (GnAt wd (.slice la nm lc) wB w.heap.size) := Lib.hid (by subst hW; exact ⟨by go_simp, by go_simp⟩)
  clear hW
  go_upto_region 2 with fail
  refine Code.at (fun W2 hW => ?_)
  have n2 : Hid (New wB W2) := Lib.hid (by subst hW; (repeat (first | (with_reducible exact New.refl _) | (with_reducible assumption) | ((with_reducible refine New.setB ?_ ?_ _); focus (first | omega | (simp; omega) | (simp; done))) | (with_reducible refine New.alloc ?_ _) | (with_reducible refine New.drew ?_) | (with_reducible refine New.drewN ?_ _) | (with_reducible refine New.hat ?_ _) | ((with_reducible apply New.snart); (with_reducible assumption)))))
  have HM : Hid (HeldAt W2 wB.heap.size 0 (fun _ => none)) := Lib.hid (by subst hW; exact (HeldAt.made wB).new (by (repeat (first | (with_reducible exact New.refl _) | (with_reducible assumption) | ((with_reducible refine New.setB ?_ ?_ _); focus (first | omega | (simp; omega) | (simp; done))) | (with_reducible refine New.alloc ?_ _) | (with_reducible refine New.drew ?_) | (with_reducible refine New.drewN ?_ _) | (with_reducible refine New.hat ?_ _) | ((with_reducible apply New.snart); (with_reducible assumption))))))
  have HB2 : Hid (W2.cell? ⟨wB.heap.size + 1, 0, none⟩ = some (.map (some wB.heap.size))) := Lib.hid (by subst hW; go_simp)
  clear hW
  obtain ⟨M, hM⟩ : ∃ q, q = wB.heap.size := ⟨_, rfl⟩
  rw [← hM] at HM HB2 ⊢
  have HMM := Lib.hid hM
  clear hM
  have hz2 := World.block_lt_of_cell? _ _ HB2.out
  simp only [] at hz2
  obtain ⟨g0, g1⟩ := HG.out.new n2.out
  go_wp2_with fail
  refine (KE.out _ (nB.out.trans n2.out)).mono ?_
  rintro e w3 ⟨a3, c3, rfl, hs3, n3⟩
  clear g0 g1
  go_upto_region 3 with fail
  refine Code.at (fun W4 hW => ?_)
  have n4 : New w3 W4 := by subst hW; (repeat (first | (with_reducible exact New.refl _) | (with_reducible assumption) | ((with_reducible refine New.setB ?_ ?_ _); focus (first | omega | (simp; omega) | (simp; done))) | (with_reducible refine New.alloc ?_ _) | (with_reducible refine New.drew ?_) | (with_reducible refine New.drewN ?_ _) | (with_reducible refine New.hat ?_ _) | ((with_reducible apply New.snart); (with_reducible assumption))))
  have HB1 : Hid (W4.cell? ⟨w3.heap.size, 0, none⟩ = some (.slice a3 n0 c3) ∧ W4.frozen? ⟨w3.heap.size, 0, none⟩ = false) := Lib.hid (by subst hW; exact ⟨by go_simp, by go_simp⟩)
  clear hW
  have n34 := n3.trans n4
  replace HM := Lib.hid (HM.out.new n34)
  replace HB2 := Lib.hid (n34.keep HB2.out)
  have HS4 := Lib.hid (hs3.keep n4)
  have N4 := Lib.hid (n2.out.trans n34)
  have hB1M : M + 1 < w3.heap.size := Nat.lt_of_lt_of_le hz2 n3.size
  obtain ⟨B1, hB1⟩ : ∃ q, q = w3.heap.size := ⟨_, rfl⟩
  rw [← hB1] at HB1 hB1M ⊢
  have hMwB : Hid (wB.heap.size ≤ M) := Lib.hid (by rw [HMM.out]; exact Nat.le_refl _)
  have hB0M : w.heap.size < M := by
    have h1 := World.block_lt_of_cell? _ _ HG.out.c0
    simp only [] at h1
    rw [HMM.out]
    exact h1
  clear hs3 n3 n4 n34 hB1 HMM hz2
  have hb1 := HB1.out.1
  go_wp2_with fail
  clear hb1
  go_loopg [16] n0 (fun gk s16 wr => ∃ i : Nat, s16 = .int .i64 i ∧ i ≤ n0 ∧ n0 - i ≤ gk ∧ Hid (HeldAt wr M i (putF (fun _ => none) 0 (R0.take i))) ∧ Hid (Mut M W4 wr) ∧ Hid (New wB wr))
  case atStart => exact ⟨0, rfl, by omega, by omega, Lib.hid (HM.out.congr (Nat.le_refl _) (fun s _ _ => by rw [List.take_zero, putF_nil])), Lib.hid (Mut.refl _ _), N4⟩
  case round =>
    obtain ⟨i, rfl, hi, hgk, hheld, hmut, hnr⟩ := hrel
    by_cases hlt : i < n0
    · have hil : i < R0.length := by rw [← HN0.out]; exact hlt
      have hnl := HEL.out
      obtain ⟨-, -, -, -, hrow⟩ := (HM.out.sl HS4.out hmut.out).row'
      obtain ⟨b, off, rfl, hA⟩ := hrow (by omega)
      obtain ⟨e0, e1⟩ := Sp.cells hA i hil
      have hb2 := hmut.out.cell HB2.out (by omega)
      obtain ⟨hsc, hsk⟩ := HEI.out R0[i] (List.getElem_mem hil)
      have htk : R0.take (i + 1) = R0.take i ++ [R0[i]] := List.take_succ_eq_append_getElem hil
      obtain ⟨T, hT⟩ : ∃ q, q = R0[i] := ⟨_, rfl⟩
      rw [← hT] at e0 e1 htk hsc hsk
      have HTK := Lib.hid htk
      obtain ⟨P, hP⟩ : ∃ q, q = R0.take i := ⟨_, rfl⟩
      rw [← hP] at hheld HTK
      clear hT htk hP hA hrow
      rename World => Wi
      go_upto_region 6 with fail
      refine Code.at (fun W7 hW => ?_)
      have n7 : New Wi W7 := by subst hW; (repeat (first | (with_reducible exact New.refl _) | (with_reducible assumption) | ((with_reducible refine New.setB ?_ ?_ _); focus (first | omega | (simp; omega) | (simp; done))) | (with_reducible refine New.alloc ?_ _) | (with_reducible refine New.drew ?_) | (with_reducible refine New.drewN ?_ _) | (with_reducible refine New.hat ?_ _) | ((with_reducible apply New.snart); (with_reducible assumption))))
      have HQ7 : Hid (SpAt T W7 Wi.heap.size) := Lib.hid (by subst hW; exact ⟨by go_simp, by go_simp⟩)
      clear hW e0 e1
      replace hb2 := n7.keep hb2
      have N7 := Lib.hid (hnr.out.trans n7)
      have M7 := Lib.hid (hmut.out.trans (Mut.new n7))
      have HH7 := Lib.hid (hheld.out.new n7)
      clear n7 hheld hmut hnr
      obtain ⟨q0, q1⟩ := HQ7.out
      go_wp2_with (at_mapUpdate; refine wpList_held_put rfl _ _ _ rfl M i (putF (fun _ => none) 0 P) rfl HH7.out (by unfold maxLen; omega) T hsc hsk rfl 0 (by omega) rfl ?_; intro w8 hheld8 hgrow8)
      have HH8 : Hid (HeldAt w8 M (i + 1) (putF (fun _ => none) 0 (R0.take (i + 1)))) := Lib.hid (hheld8.congr (Nat.le_refl _) (fun t _ _ => by rw [HTK.out]; exact putF_zero P T t))
      have M8 := Lib.hid (M7.out.trans (Mut.grown hgrow8))
      have N8 := Lib.hid (newGrown N7.out hgrow8 (fun k e => by injection e with e; have := hMwB.out; omega))
      clear hheld8 hgrow8 HH7 M7 N7
      go_roundg (n0 - (i + 1))
      case measure => omega
      case rel => exact ⟨i + 1, by go_num, by omega, by omega, HH8, M8, N8⟩
    · obtain rfl : i = n0 := by omega
      have HOK := Lib.hid (HRZ.out i rfl)
      have HH0 : Hid (HeldAt wr M i (putF (fun _ => none) 0 R0)) := Lib.hid (by
        have h := hheld.out
        rw [List.take_of_length_le (by rw [HN0.out]; exact Nat.le_refl _)] at h
        exact h)
      have HS0 := Lib.hid (HM.out.sl HS4.out hmut.out)
      rw [HN0.out] at HS0
      have hb2 := hmut.out.cell HB2.out (by omega)
      have HB20 := Lib.hid hb2
      have HB10 : Hid (wr.cell? ⟨B1, 0, none⟩ = some (.slice a3 R0.length c3) ∧ wr.frozen? ⟨B1, 0, none⟩ = false) := Lib.hid (by
        rw [← HN0.out]
        have h1 := World.block_lt_of_cell? _ _ HB1.out.1
        simp only [] at h1
        exact ⟨hmut.out.cell HB1.out.1 (by omega), (World.frozen?_of_block (a := ⟨B1, 0, none⟩) (hmut.out.2 B1 h1 (by omega))).trans HB1.out.2⟩)
      have hNR := hnr
      clear hheld hmut hnr hb2 HB1 HB2 HM HS4 N4 n2 HRZ HEL
      rename World => W9
      go_wp2_with fail
      go_step3
      go_wp2_with fail
      go_loopg [10] m (fun gk s10 wr => ∃ (f n : Nat) (R : List Sp) (F : Sp → Option Nat) (a : Option Addr) (c : Nat), s10 = .int .i64 ((f + 1 : Nat) : Int) ∧ f + 1 ≤ m ∧ m - (f + 1) ≤ gk ∧ Hid (RdOK N f n R F) ∧ Hid (HeldAt wr M n F) ∧ Hid (Sl Sp.enc 2 wr (.slice a R.length c) R) ∧ Hid (wr.cell? ⟨B1, 0, none⟩ = some (.slice a R.length c) ∧ wr.frozen? ⟨B1, 0, none⟩ = false) ∧ Hid (wr.cell? ⟨M + 1, 0, none⟩ = some (.map (some M))) ∧ Hid (New wB wr))
      case atStart => exact ⟨0, _, R0, _, a3, c3, rfl, by omega, by omega, HOK, HH0, HS0, HB10, HB20, hNR⟩
      case round =>
        clear HOK HH0 HS0 HB10 HB20 hNR
        obtain ⟨f, n, R, F, a, c, rfl, hf, hgk, HOK, HH, HS, HB1, HB2, hnr⟩ := hrel
        by_cases hlt : f + 1 < m
        · have h5 : 8 ^ f ≤ 32768 := pow_five (by omega)
          have h1 := HOK.out.len
          have h2 := HOK.out.cnt
          have KNi := Lib.hid (KN.out R (fun s hs => ((HOK.out.mem s).1 hs).1) (by omega) (f + 1) (by omega) wB wr hnr.out nB.out w.heap.size B1 (M + 1) M n hMwB.out (by omega) HG.out a c HB1.out.1 HS.out HB2.out F HH.out)
          have hd : decide (((f + 1 : Nat) : Int) < (m : Int)) = true := decide_eq_true (by omega)
          have HNX := Lib.hid (fun l hm hl => RdOK.next (l := l) HOK.out hm hl)
          obtain ⟨P, hP⟩ : ∃ q, q = rdP N R R.length := ⟨_, rfl⟩
          rw [← hP] at KNi HNX
          have hb1z : B1 < wr.heap.size := by have := World.block_lt_of_cell? _ _ HB1.out.1; simpa using this
          clear hP h5 h1 h2
          rename World => Wr
          go_wp2_with fail
          refine KNi.out.mono ?_
          rintro e w5 ⟨a5, c5, l, rfl, hs5, hg5, hm5, hl5, hh5, hmut5, hn5⟩
          have hb1 := hmut5.cell HB1.out.1 (by omega)
          have hf1 := (World.frozen?_of_block (a := ⟨B1, 0, none⟩) (hmut5.2 B1 hb1z (by omega))).trans HB1.out.2
          have hb2 := hmut5.cell HB2.out (by omega)
          have HOK5 := Lib.hid (HNX.out l hm5 hl5)
          have HH5 := Lib.hid hh5
          have HS5 := Lib.hid (And.intro hs5 hg5)
          have HN5 := Lib.hid hn5
          obtain ⟨ln, hln⟩ : ∃ q, q = l.length := ⟨_, rfl⟩
          rw [← hln] at HS5 ⊢
          have HLN := Lib.hid hln
          clear hs5 hg5 hm5 hl5 hh5 hmut5 hn5 HNX KNi HOK HH HS hln
          go_upto_region 13 with fail
          refine Code.at (fun W6 hW => ?_)
          have HB16 : Hid (W6.cell? ⟨B1, 0, none⟩ = some (.slice a5 ln c5) ∧ W6.frozen? ⟨B1, 0, none⟩ = false) := Lib.hid (by subst hW; exact ⟨by go_simp, by go_simp⟩)
          have HB26 : Hid (W6.cell? ⟨M + 1, 0, none⟩ = some (.map (some M))) := Lib.hid (by
            subst hW
            have hne : M + 1 ≠ B1 := by omega
            go_simp)
          have HH6 : Hid (HeldAt W6 M (n + P.length) (putF F (f + 1) P)) := Lib.hid (by subst hW; exact HH5.out.set (p := ⟨B1, 0, none⟩) (by show M ≠ B1; omega) _)
          have HS6 : Hid (Sl Sp.enc 2 W6 (.slice a5 ln c5) l) := Lib.hid (by
            subst hW
            refine sl_set (p := ⟨B1, 0, none⟩) HS5.out.1 (fun g e => ?_) _
            have := HS5.out.2 g e
            show g ≠ B1
            omega)
          have HN6 : Hid (New wB W6) := Lib.hid (by subst hW; exact New.setB (p := ⟨B1, 0, none⟩) (by have := hMwB.out; show wB.heap.size ≤ B1; omega) HN5.out _)
          clear hW hb1 hf1 hb2 HS5 HN5 HH5
          have hb1 := HB16.out.1
          by_cases h0 : ln = 0
          · have hst := Lib.hid (fun s (hs : SpIn N.M s) => RdOK.stop (m := m) HOK5.out (by rw [← HLN.out]; exact h0) (by omega) hs)
            have hd2 : ((ln : Int) == 0) = true := by rw [h0]; rfl
            have hb2 := HB26.out
            have HEND := Lib.hid (And.intro HH6.out (And.intro hst.out (nB.out.trans HN6.out)))
            clear h0 hst HH6 HS6 HN6
            go_wp2_with fail
            rw [HQ.out]
            exact ⟨M, _, _, rfl, HEND.out.1, HEND.out.2.1, HEND.out.2.2⟩
          · have hd2 : ((ln : Int) == 0) = false := by rw [beq_eq_false_iff_ne]; omega
            have HS7 : Hid (Sl Sp.enc 2 W6 (.slice a5 l.length c5) l) := Lib.hid (by rw [← HLN.out]; exact HS6.out)
            have HB17 : Hid (W6.cell? ⟨B1, 0, none⟩ = some (.slice a5 l.length c5) ∧ W6.frozen? ⟨B1, 0, none⟩ = false) := Lib.hid (by rw [← HLN.out]; exact HB16.out)
            clear h0 HS6 HB16
            go_wp2_with fail
            go_roundg (m - (f + 1 + 1))
            case measure => omega
            case rel => exact ⟨f + 1, _, l, _, a5, c5, by go_num, by omega, by omega, HOK5, HH6, HS7, HB17, HB26, HN6⟩
        · obtain rfl : m = f + 1 := by omega
          have hd : decide (((f + 1 : Nat) : Int) < ((f + 1 : Nat) : Int)) = false := decide_eq_false (by omega)
          have hst := Lib.hid (fun s (hs : SpIn N.M s) => RdOK.last HOK.out hs)
          have HEND := Lib.hid (And.intro HH.out (And.intro hst.out (nB.out.trans hnr.out)))
          have hb2 := HB2.out
          clear hst HH HS hnr HB1
          go_wp2_with fail
          rw [HQ.out]
          exact ⟨M, _, _, rfl, HEND.out.1, HEND.out.2.1, HEND.out.2.2⟩

end Go.Proofs.YtgoggogcbjfofaaDoor

/- Package field: clearances, Cap, Build. -/
namespace Go.Proofs.YtgoggogcbjfofaaDoor
open Go.RowKit
set_option linter.unusedVariables false

theorem iE_one (t : Int) : ∀ u ∈ iE t, u.oneCell' = true := by
  intro u hu
  simp [iE] at hu
  subst hu
  rfl
theorem i_new (w : World) (t : Int) (ty : TypeId) : Sl iE 1 (w.alloc (.cells #[.int .i64 t] ty)) (.slice (some ⟨w.heap.size, 0, none⟩) 1 1) [t] :=
  ⟨_, _, rfl, Nat.le_refl _, by unfold maxLen; omega, fun h => (by cases h), fun _ => ⟨w.heap.size, 0, rfl, fun j hj i hi => by
    have hj' : j = 0 := by simpa using hj
    subst hj'
    have hi' : i = 0 := by have : i < 1 := hi; omega
    subst hi'
    exact cell_of_heap (heap_new w (.cells #[.int .i64 t] ty)) rfl⟩⟩
theorem ints_info : (Tryd.prog.info? 50).map (fun i => (i.zero, i.size, i.bytes)) = some (some (.slice none 0 0), 1, 24) := by kernel_rfl
/-- A column's clearances. -/
def fcC (N : Net) (m i k : Nat) : List Int := (List.range k).map fun j => ((clr N.go m ⟨i, j⟩ : Nat) : Int)
def clT (N : Net) (m i : Nat) : List (List Int) := (List.range i).map fun j => fcC N m j (colM N.M j).length
def clL (N : Net) (m : Nat) : List (List Int) := clT N m N.M.length
theorem fcC_len (N : Net) (m i k : Nat) : (fcC N m i k).length = k := by unfold fcC; simp
theorem fcC_succ (N : Net) (m i k : Nat) : fcC N m i (k + 1) = fcC N m i k ++ [((clr N.go m ⟨i, k⟩ : Nat) : Int)] := by
  unfold fcC
  rw [List.range_succ, List.map_append]
  rfl
theorem clT_len (N : Net) (m i : Nat) : (clT N m i).length = i := by unfold clT; simp
theorem clT_succ (N : Net) (m i : Nat) : clT N m (i + 1) = clT N m i ++ [fcC N m i (colM N.M i).length] := by
  unfold clT
  rw [List.range_succ, List.map_append]
  rfl

set_option maxHeartbeats 16000000 in
set_option maxRecDepth 100000 in
theorem fd_clearances (N : Net) (la : Option Addr) (lc : Nat) (m : Nat) (hm1 : 1 ≤ m) (hm6 : m ≤ 6) (w : World) (h : RowsK Lk.enc 4 w (.slice la N.M.length lc) N.M) (hD : Dirs w) : Calls Tryd.prog 33 #[.agg #[.int .i64 ((N.W : Nat) : Int), .slice la N.M.length lc], .int .i64 (m : Nat)] w fun e w' => ∃ v, e = .returned v ∧ RowsK iE 1 w' v (clL N m) ∧ New w w' := by
  obtain ⟨i0, hi0, hz0, hz1, hz2⟩ := info_parts int_info
  obtain ⟨i1, hi1, hy0, hy1, hy2⟩ := info_parts ints_info
  have KG := Lib.hid (fun W (q : New w W) => fd_grow N la lc m hm1 hm6 W (h.keep q) (hD.new q))
  have HH := Lib.hid (fun W (q : New w W) => h.keep q)
  have HCL := Lib.hid (fun i k => fcC_len N m i k)
  have HCS := Lib.hid (fun i k => fcC_succ N m i k)
  have HTL := Lib.hid (fun i => clT_len N m i)
  have HTS := Lib.hid (fun i => clT_succ N m i)
  have HT0 : Hid (clT N m 0 = []) := Lib.hid rfl
  have HC0 : Hid (∀ i, fcC N m i 0 = []) := Lib.hid (fun i => rfl)
  have HLEN := Lib.hid N.len
  have HCOL := Lib.hid N.col
  obtain ⟨n, hn⟩ : ∃ n, n = N.M.length := ⟨_, rfl⟩
  have HN := Lib.hid hn
  unfold clL Grown at *
  rw [← hn] at KG HH HLEN ⊢
  obtain ⟨wd, hwd⟩ : ∃ q, q = N.W := ⟨_, rfl⟩
  rw [← hwd] at KG ⊢
  have HCLR : Hid (∀ s, clr N.go m s ≤ 6) := Lib.hid (fun s => Nat.le_trans (clr_le m s) hm6)
  clear hn hwd h hD
  generalize clr N.go m = cl at *
  generalize fcC N m = cC at *
  generalize clT N m = cT at *
  go_enter Tryd.func33, Tryd.ntmps33
  go_upto_region 1 with fail
  refine Code.at (fun W hW => ?_)
  have n0 : New w W := by subst hW; (repeat (first | (with_reducible exact New.refl _) | (with_reducible assumption) | ((with_reducible refine New.setB ?_ ?_ _); focus (first | omega | (simp; omega) | (simp; done))) | (with_reducible refine New.alloc ?_ _) | (with_reducible refine New.drew ?_) | (with_reducible refine New.drewN ?_ _) | (with_reducible refine New.hat ?_ _) | ((with_reducible apply New.snart); (with_reducible assumption))))
  have HG : Hid (GnAt wd (.slice la n lc) W w.heap.size) := Lib.hid (by subst hW; exact ⟨by go_simp, by go_simp⟩)
  clear hW
  obtain ⟨g0, g1⟩ := HG.out
  go_wp2_with fail
  refine (KG.out _ n0).mono ?_
  rintro e w1 ⟨M, mc, F, rfl, hheld, hF, n1⟩
  have N1 := Lib.hid (n0.trans n1)
  replace HG := Lib.hid (HG.out.new n1)
  have HH1 := Lib.hid hheld
  have HF := Lib.hid hF
  obtain ⟨base, hbase⟩ : ∃ q, q = w1.heap.size := ⟨_, rfl⟩
  have HBS := Lib.hid hbase
  clear hheld hF n1 n0 KG hbase g0 g1
  obtain ⟨g0, g1⟩ := HG.out
  have hnl := HLEN.out
  go_wp2_with fail
  clear g0 g1
  go_loopg [19, 6] n (fun gk s19 s6 wr => ∃ (i : Nat) (ra : Option Addr) (rn rc : Nat) (us : List Value), s19 = .int .i64 i ∧ s6 = .slice ra rn rc ∧ i ≤ n ∧ n - i ≤ gk ∧ Hid (RowsOK iE 1 50 base wr (.slice ra rn rc) us (cT i)) ∧ Hid (New w1 wr))
  case atStart => exact ⟨0, none, 0, 0, [], rfl, rfl, by omega, by omega, Lib.hid (by rw [HT0.out]; exact RowsOK.nil), Lib.hid (New.refl _)⟩
  case round =>
    obtain ⟨i, ra, rn, rc, us, rfl, rfl, hi, hgk, HRO, hnr⟩ := hrel
    by_cases hlt : i < n
    · have hil : i < N.M.length := by rw [← HN.out]; exact hlt
      obtain ⟨b, off, a, c, rfl, hc, hsl⟩ := (HH.out _ (N1.out.trans hnr.out)).at i hil
      have hcl := colM_at hil
      rw [← hcl] at hc
      have hc8 := HCOL.out i
      obtain ⟨k0, hk0⟩ : ∃ q, q = (colM N.M i).length := ⟨_, rfl⟩
      rw [← hk0] at hc hc8
      have HM := Lib.hid hk0
      have hti := HTS.out i
      rw [← hk0] at hti
      have HTI := Lib.hid hti
      have HGK := Lib.hid hgk
      clear hsl hk0 hti hcl hgk
      rename World => Wo
      obtain ⟨base2, hb2⟩ : ∃ q, q = Wo.heap.size := ⟨_, rfl⟩
      have HB2 := Lib.hid hb2
      clear hb2
      go_wp2_with fail
      clear hc
      go_loopg [26, 9] k0 (fun gk s26 s9 wr => ∃ (k : Nat) (ca : Option Addr) (cn cc : Nat), s26 = .int .i64 k ∧ s9 = .slice ca cn cc ∧ k ≤ k0 ∧ k0 - k ≤ gk ∧ Hid (wr.ownsRow base2 3 1 (.slice ca cn cc) (cC i k).length ((cC i k).flatMap iE)) ∧ Hid (New Wo wr))
      case atStart => exact ⟨0, none, 0, 0, rfl, rfl, by omega, by omega, Lib.hid (by rw [HC0.out]; exact World.ownsRow_nil _ _ _ _), Lib.hid (New.refl _)⟩
      case round =>
        obtain ⟨k, ca, cn, cc, rfl, rfl, hk, hgk, hown, hnk⟩ := hrel
        by_cases hkt : k < k0
        · have hin : SpIn N.M ⟨i, k⟩ := ⟨hil, by rw [← HM.out]; exact hkt⟩
          have hFi := Lib.hid (HF.out ⟨i, k⟩ hin)
          have hck := HCL.out i k
          have HCK := Lib.hid (HCS.out i k)
          have hcl6 := HCLR.out ⟨i, k⟩
          obtain ⟨c0, hc0⟩ : ∃ q, q = cC i k := ⟨_, rfl⟩
          rw [← hc0] at hown hck HCK
          obtain ⟨x, hx⟩ : ∃ q, q = cl ⟨i, k⟩ := ⟨_, rfl⟩
          rw [← hx] at hFi HCK hcl6
          obtain ⟨o, ho⟩ : ∃ o, o = F ⟨i, k⟩ := ⟨_, rfl⟩
          rw [← ho] at hFi
          have HO := Lib.hid ho
          clear hc0 hx ho hin
          have hbz : base2 ≤ wr.heap.size := by rw [HB2.out]; exact hnk.out.size
          have HHr := Lib.hid (HH1.out.new (hnr.out.trans hnk.out))
          go_upto_region 11 with (at_lookup; refine wpList_held rfl _ _ rfl M mc F rfl HHr.out ⟨i, k⟩ (by show i < 4096; omega) (by show k < 8; omega) rfl ?_; rw [← HO.out])
          rcases o with _ | v
          · have hxm : m = x := hFi.out
            subst hxm
            simp only [Option.isSome_none, Option.getD_none]
            go_wp2_with (at_builtin; refine wpList_append_sl rfl _ _ 50 rfl iE_len iE_one base2 3 i0 _ 8 Tryd.underlying50 hi0 hz0 hz1 hz2 rfl (by decide) _ c0 rfl (own_new hown.out ((New.refl _).alloc _)) _ [((m : Nat) : Int)] rfl (i_new _ _ _) (by unfold maxLen; simp only [List.length_singleton]; omega) (by simp only [List.length_singleton]; omega) (by simp; omega) ?_; intro v' w2 hown' hnew _; obtain ⟨a', d', N', hN', rfl⟩ := own_shape2 hown'; clear hN'; have nw1 := hnew Wo (hnk.out.trans ((New.refl _).alloc _)) (Nat.le_of_eq HB2.out.symm))
            go_roundg (k0 - (k + 1))
            case measure => omega
            case rel => exact ⟨k + 1, a', N', d', by go_num, rfl, by omega, by omega, Lib.hid (by rw [HCK.out]; exact hown'), Lib.hid nw1⟩
          · have hxm : v = x := hFi.out
            subst hxm
            simp only [Option.isSome_some, Option.getD_some]
            go_wp2_with (at_builtin; refine wpList_append_sl rfl _ _ 50 rfl iE_len iE_one base2 3 i0 _ 8 Tryd.underlying50 hi0 hz0 hz1 hz2 rfl (by decide) _ c0 rfl (own_new hown.out ((New.refl _).alloc _)) _ [((v : Nat) : Int)] rfl (i_new _ _ _) (by unfold maxLen; simp only [List.length_singleton]; omega) (by simp only [List.length_singleton]; omega) (by simp; omega) ?_; intro v' w2 hown' hnew _; obtain ⟨a', d', N', hN', rfl⟩ := own_shape2 hown'; clear hN'; have nw1 := hnew Wo (hnk.out.trans ((New.refl _).alloc _)) (Nat.le_of_eq HB2.out.symm))
            go_roundg (k0 - (k + 1))
            case measure => omega
            case rel => exact ⟨k + 1, a', N', d', by go_num, rfl, by omega, by omega, Lib.hid (by rw [HCK.out]; exact hown'), Lib.hid nw1⟩
        · obtain rfl : k = k0 := by omega
          have HRn := Lib.hid (HRO.out.new hnk.out)
          have HNN := Lib.hid (hnr.out.trans hnk.out)
          have hbz : base ≤ wr.heap.size := by rw [HBS.out]; exact HNN.out.size
          have hsl := own_sl iE_len hown.out
          have HSL := Lib.hid hsl
          have HOB := Lib.hid (fun g e => own_block hown.out g e)
          have htl := HTL.out i
          have hul := HRn.out.len
          rw [htl] at hul
          generalize cC i k = col at *
          clear hown hsl hgk htl
          go_upto_region 15 with fail
          obtain ⟨w9, hw9⟩ : ∃ q, q = wr.alloc (.cells #[.slice ca cn cc] 50) := ⟨_, rfl⟩
          have n9 : New wr w9 := by subst hw9; exact (New.refl _).alloc _
          have hp : w9.cell? ⟨wr.heap.size, 0, none⟩ = some (.slice ca cn cc) := by subst hw9; exact cell_of_heap (heap_new _ _) rfl
          have HR9 := Lib.hid (HRn.out.new n9)
          have hb9 : base ≤ w9.heap.size := Nat.le_trans hbz n9.size
          have ho9 := HR9.out.own
          go_wp2_with (at_builtin; rw [← hw9]; refine wpList_append_own_at _ rfl _ _ 29 rfl base 50 i1 (.slice none 0 0) 1 24 Tryd.underlying29 hi1 hy0 hy1 hy2 rfl (by decide) _ _ _ rfl ho9 ⟨wr.heap.size, 0, none⟩ 1 1 [.slice ca cn cc] rfl rfl (by intro j u hj; cases j with | zero => (simp at hj; subst hj; exact hp) | succ j => simp at hj) (by intro u hu; rw [List.mem_singleton] at hu; subst hu; rfl) (by unfold maxLen; omega) (by omega) hb9 ?_; intro v' w4 hown' hgrow _ hat; obtain ⟨a', d', N', hN', rfl⟩ := own_shape2 hown'; clear hN')
          replace hgrow : w9.grownBy w4 (Value.slice ra rn rc).ownBlock := hgrow
          replace hat : (Value.slice a' N' d').ownBlock = (Value.slice ra rn rc).ownBlock ∨ (Value.slice a' N' d').ownBlock = some w9.heap.size := hat
          have HP : Hid (RowsOK iE 1 50 base w4 (.slice a' N' d') (us ++ [.slice ca cn cc]) (cT (i + 1))) := Lib.hid (by
            rw [HTI.out]
            refine HR9.out.push iE_len (by omega) (HSL.out.keep n9) (fun _ g e e2 => ?_) hown' hgrow hat
            have q1 := HOB.out g e
            have q2 := (HRO.out.own.lt g e2).2
            have q3 := HB2.out
            omega)
          have HN4 : Hid (New w1 w4) := Lib.hid (newGrown (HNN.out.trans n9) hgrow (fun j hj => by have := (HRO.out.own.lt j hj).1; have := HBS.out; omega))
          clear hgrow hat hown' n9 hp
          go_roundg (n - (i + 1))
          case measure => have := HGK.out; omega
          case rel => exact ⟨i + 1, a', N', d', _, by go_num, rfl, by omega, by omega, HP, HN4⟩
    · obtain rfl : i = n := by omega
      have HO : Hid (RowsK iE 1 wr (.slice ra rn rc) (cT i)) := Lib.hid HRO.out.rows
      go_wp2_with fail
      go_ret
      exact ⟨_, rfl, HO.out, N1.out.trans hnr.out⟩

end Go.Proofs.YtgoggogcbjfofaaDoor
