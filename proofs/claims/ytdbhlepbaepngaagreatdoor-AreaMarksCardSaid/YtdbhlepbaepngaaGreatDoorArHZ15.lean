import Derived.Test.YtdbhlepbaepngaaGreatDoorArFZ15
import Derived.Test.YtdbhlepbaepngaaGreatDoorLooseEZ15

/- Layer 12: what the laws say of two boxes over a floor. -/
namespace Go.Proofs.YtdbhlepbaepngaaGreatDoor
open Go.RowKit
set_option linter.unusedVariables false

section
variable {P : Program}
theorem store_blk_run {op : Oper} {a : Act} {w : World} (ty : TypeId) (x y : Operand) (ho : op.op = .store ty x y)
    (b : Nat) (cells : Array Value) (hx : a.eval x = .pointer (some ⟨b, 0, none⟩)) (hy : a.eval y = .agg cells)
    (ht : Thr w b cells.size) (hi : (P.info? ty).map (·.size) = some cells.size) (h1 : ∀ v ∈ cells.toList, v.oneCell' = true) :
    ∃ W, (execOp a.eval op).run P w = .ok .skip W ∧ (∀ a0, New a0 w → a0.heap.size ≤ b → New a0 W) ∧ (∀ b', b' ≠ b → W.heap[b']? = w.heap[b']?) ∧ CellsAt W b 0 cells.toList := by
  have ht' : w.there b 0 cells.size := fun j hj => by
    obtain ⟨⟨v, hv⟩, hf⟩ := ht j hj
    rw [Nat.zero_add]
    exact ⟨by rw [hv]; rfl, hf⟩
  refine ⟨w.setCells b 0 cells.toList, ?_, fun a0 h0 hb => new_setCells h0 hb _ _, fun b' hne => heap_setCells_other b _ _ _ _ hne, fun j hj => ?_⟩
  · unfold execOp
    simp only [ho, hx, hy, Instr.storeAt, Instr.sureAddr, Sem.run_bind, Sem.run_pure, Result.andThen_ok, run_storeVar_mid w b 0 ty cells ht' hi (all_oneCell_toArray h1)]
  · have := World.rangeAt_setCells_same w b 0 cells.toList (by simpa using ht')
    exact this j _ (List.getElem?_eq_getElem hj)
end

theorem ar_config (w : World) : Calls Tryz.prog 11 #[] w fun e w' => e = .returned (.agg #[.int .i64 0, .int .i64 1, .int .i64 3, .int .i64 1, .int .i64 1, .int .i64 8, .int .i64 8]) ∧ New w w' := by
  go_enter Tryz.func11, Tryz.ntmps11
  go_wp2_with fail
  refine bodyPost_ret (v := .agg #[.int .i64 0, .int .i64 1, .int .i64 3, .int .i64 1, .int .i64 1, .int .i64 8, .int .i64 8]) (by simp [results, Tryz.results11, go_sem, *]) rfl ?_
  exact ⟨rfl, by (repeat (first | (with_reducible exact New.refl _) | (with_reducible assumption) | ((with_reducible refine New.setB ?_ ?_ _); focus (first | omega | (simp; omega) | (simp; done))) | (with_reducible refine New.alloc ?_ _) | (with_reducible refine New.drew ?_) | (with_reducible refine New.drewN ?_ _) | (with_reducible refine New.hat ?_ _) | ((with_reducible apply New.snart); (with_reducible assumption))))⟩
theorem ar_box (i a : Int) (w : World) : Calls Tryz.prog 12 #[.int .i64 i, .int .i64 a] w fun e w' => e = .returned (.agg #[.int .i64 i, .int .i64 0, .int .i64 0, .int .i64 7, .int .i64 7, .int .i64 (-9), .int .i64 9, .int .i64 a]) ∧ New w w' := by
  go_enter Tryz.func12, Tryz.ntmps12
  go_wp2_with fail
  refine bodyPost_ret (v := .agg #[.int .i64 i, .int .i64 0, .int .i64 0, .int .i64 7, .int .i64 7, .int .i64 (-9), .int .i64 9, .int .i64 a]) (by simp [results, Tryz.results12, go_sem, *]) rfl ?_
  exact ⟨rfl, by (repeat (first | (with_reducible exact New.refl _) | (with_reducible assumption) | ((with_reducible refine New.setB ?_ ?_ _); focus (first | omega | (simp; omega) | (simp; done))) | (with_reducible refine New.alloc ?_ _) | (with_reducible refine New.drew ?_) | (with_reducible refine New.drewN ?_ _) | (with_reducible refine New.hat ?_ _) | ((with_reducible apply New.snart); (with_reducible assumption))))⟩

def wkC : CfgR := ⟨0, 1, 3, 1, 1, 8, 8⟩
def wkL : List BoxR := [⟨5, 0, 0, 7, 7, -9, 9, 4⟩, ⟨3, 0, 0, 7, 7, -9, 9, 2⟩]
def wkG (a : Int) (ga : Option Addr) (gc : Nat) : Gd := ⟨0, 0, 1, 1, [[⟨2, 9, a⟩]], ga, gc⟩
theorem wk_E1 (ga : Option Addr) (gc : Nat) : markE wkC (wkG 1 ga gc) wkL = 0 := by kernel_rfl
theorem wk_M1 (ga : Option Addr) (gc : Nat) : markL (wkG 1 ga gc) wkL = [[⟨2, 9, 4⟩]] := by kernel_rfl
theorem wk_E2 (ga : Option Addr) (gc : Nat) : markE wkC (wkG 4 ga gc) [] = 0 := by kernel_rfl
theorem wk_M2 (ga : Option Addr) (gc : Nat) : markL (wkG 4 ga gc) [] = [[⟨2, 9, 1⟩]] := by kernel_rfl

theorem wk_mark (a b : Int) (ga : Option Addr) (gc : Nat) (at0 : Option Addr) (l : List BoxR) (cap n : Nat) (hn : l.length = n) (hl : n ≤ 100) (hE : markE wkC (wkG a ga gc) l = 0) (hM : markL (wkG a ga gc) l = [[⟨2, 9, b⟩]]) (w : World) (hN : Nowhere w) (hG : RowsK Fl.enc 3 w (.slice ga 1 gc) [[⟨2, 9, a⟩]]) (H : RowIn BoxR.enc 8 w at0 l) :
    Calls Tryz.prog 6 #[.agg #[.int .i64 0, .int .i64 1, .int .i64 3, .int .i64 1, .int .i64 1, .int .i64 8, .int .i64 8], .agg #[.int .i64 0, .int .i64 0, .int .i64 1, .int .i64 1, .slice ga 1 gc], .slice at0 n cap] w fun e w' => ∃ a' c', e = .returned (.tuple #[.agg #[.int .i64 0, .int .i64 0, .int .i64 1, .int .i64 1, .slice a' 1 c'], .int .i64 0]) ∧ RowsN Fl.enc 3 37 39 w.heap.size w' (.slice a' 1 c') [[⟨2, 9, b⟩]] ∧ New w w' := by
  have h := ar_Mark wkC (wkG a ga gc) at0 l cap (by unfold maxLen; omega) w hN hG H
  rw [hE, hM, hn] at h
  refine h.mono ?_
  rintro e w' ⟨⟨ox, oz, ow, od, oL, oa, oc⟩, rfl, hr, hz, -, hn⟩
  obtain ⟨h0, h1, h2, h3, h4⟩ := hz rfl
  simp only at h0 h1 h2 h3 h4 hr
  subst h0 h1 h2 h3 h4
  exact ⟨oa, oc, rfl, hr, hn⟩
theorem wk_at {W : World} {ga : Option Addr} {gc : Nat} {f : Fl} (h : RowsK Fl.enc 3 W (.slice ga 1 gc) [[f]]) : ∃ b off b2 off2 d, ga = some ⟨b, off, none⟩ ∧ W.cell? ⟨b, off, none⟩ = some (.slice (some ⟨b2, off2, none⟩) 1 d) ∧ W.cell? ⟨b2, off2 + 2, none⟩ = some (.int .i64 f.area) := by
  obtain ⟨b, off, r, d, e, hc, hs⟩ := RowsK.at (L := [[f]]) (n := 1) h 0 (by simp)
  obtain ⟨b2, off2, e2, hr⟩ := hs.row'.2.2.2.2 (by simp)
  obtain ⟨-, -, c2⟩ := Fl.cells hr 0 (by simp)
  simp only [Nat.zero_mul, Nat.add_zero, List.getElem_cons_zero] at c2
  rw [Nat.add_zero] at hc
  subst e2
  exact ⟨b, off, b2, off2, d, e, hc, c2⟩

def wkV1 (Z0 : Nat) (ga : Option Addr) (gc : Nat) : Nat → World → Value → Prop
  | 0, _, v => v = .agg #[.int .i64 0, .int .i64 1, .int .i64 3, .int .i64 1, .int .i64 1, .int .i64 8, .int .i64 8]
  | 1, _, v => v = .agg #[.int .i64 0, .int .i64 0, .int .i64 1, .int .i64 1, .slice ga 1 gc]
  | 2, _, v => v = .agg #[.int .i64 5, .int .i64 0, .int .i64 0, .int .i64 7, .int .i64 7, .int .i64 (-9), .int .i64 9, .int .i64 4]
  | 3, _, v => v = .agg #[.int .i64 3, .int .i64 0, .int .i64 0, .int .i64 7, .int .i64 7, .int .i64 (-9), .int .i64 9, .int .i64 2]
  | 4, w, v => ∃ p, v = .slice (some ⟨p, 0, none⟩) 2 2 ∧ RowAt BoxR.enc 8 w p 0 wkL
  | 5, w, v => ∃ a c, v = .tuple #[.agg #[.int .i64 0, .int .i64 0, .int .i64 1, .int .i64 1, .slice a 1 c], .int .i64 0] ∧ RowsN Fl.enc 3 37 39 Z0 w (.slice a 1 c) [[⟨2, 9, 4⟩]]
  | 6, w, v => ∃ a c, v = .tuple #[.agg #[.int .i64 0, .int .i64 0, .int .i64 1, .int .i64 1, .slice a 1 c], .int .i64 0] ∧ RowsN Fl.enc 3 37 39 Z0 w (.slice a 1 c) [[⟨2, 9, 4⟩]]
  | 7, w, v => ∃ a c, v = .agg #[.int .i64 0, .int .i64 0, .int .i64 1, .int .i64 1, .slice a 1 c] ∧ RowsN Fl.enc 3 37 39 Z0 w (.slice a 1 c) [[⟨2, 9, 4⟩]]
  | 8, _, v => v = .int .i64 0
  | 9, w, v => ∃ g cs, v = .pointer (some ⟨g, 0, none⟩) ∧ w.heap[g]? = some (.cells cs 26 (0, 0)) ∧ cs.size = 5 ∧ Z0 ≤ g
  | _, _, _ => True
theorem wkV1_keep {Z0 : Nat} {ga : Option Addr} {gc : Nat} : ∀ i w w' v, wkV1 Z0 ga gc i w v → New w w' → wkV1 Z0 ga gc i w' v := by
  intro i w w' v h hn
  match i, h with
  | 0, h => exact h
  | 1, h => exact h
  | 2, h => exact h
  | 3, h => exact h
  | 4, ⟨p, e, hr⟩ => exact ⟨p, e, hr.keep hn⟩
  | 5, ⟨a, c, e, hr⟩ => exact ⟨a, c, e, hr.new hn⟩
  | 6, ⟨a, c, e, hr⟩ => exact ⟨a, c, e, hr.new hn⟩
  | 7, ⟨a, c, e, hr⟩ => exact ⟨a, c, e, hr.new hn⟩
  | 8, h => exact h
  | 9, ⟨g, cs, e, h1, h2, h3⟩ => exact ⟨g, cs, e, New.stays hn h1, h2, h3⟩
  | i + 10, _ => trivial

def wkV2 (Z0 : Nat) (ga : Option Addr) (gc : Nat) : Nat → World → Value → Prop
  | 0, _, v => v = .agg #[.int .i64 0, .int .i64 1, .int .i64 3, .int .i64 1, .int .i64 1, .int .i64 8, .int .i64 8]
  | 1, _, v => v = .agg #[.int .i64 0, .int .i64 0, .int .i64 1, .int .i64 1, .slice ga 1 gc]
  | 2, w, v => ∃ a c, v = .tuple #[.agg #[.int .i64 0, .int .i64 0, .int .i64 1, .int .i64 1, .slice a 1 c], .int .i64 0] ∧ RowsN Fl.enc 3 37 39 Z0 w (.slice a 1 c) [[⟨2, 9, 1⟩]]
  | 3, w, v => ∃ a c, v = .tuple #[.agg #[.int .i64 0, .int .i64 0, .int .i64 1, .int .i64 1, .slice a 1 c], .int .i64 0] ∧ RowsN Fl.enc 3 37 39 Z0 w (.slice a 1 c) [[⟨2, 9, 1⟩]]
  | 4, w, v => ∃ a c, v = .agg #[.int .i64 0, .int .i64 0, .int .i64 1, .int .i64 1, .slice a 1 c] ∧ RowsN Fl.enc 3 37 39 Z0 w (.slice a 1 c) [[⟨2, 9, 1⟩]]
  | 5, _, v => v = .int .i64 0
  | 6, w, v => ∃ g cs, v = .pointer (some ⟨g, 0, none⟩) ∧ w.heap[g]? = some (.cells cs 26 (0, 0)) ∧ cs.size = 5 ∧ Z0 ≤ g
  | _, _, _ => True
theorem wkV2_keep {Z0 : Nat} {ga : Option Addr} {gc : Nat} : ∀ i w w' v, wkV2 Z0 ga gc i w v → New w w' → wkV2 Z0 ga gc i w' v := by
  intro i w w' v h hn
  match i, h with
  | 0, h => exact h
  | 1, h => exact h
  | 2, ⟨a, c, e, hr⟩ => exact ⟨a, c, e, hr.new hn⟩
  | 3, ⟨a, c, e, hr⟩ => exact ⟨a, c, e, hr.new hn⟩
  | 4, ⟨a, c, e, hr⟩ => exact ⟨a, c, e, hr.new hn⟩
  | 5, h => exact h
  | 6, ⟨g, cs, e, h1, h2, h3⟩ => exact ⟨g, cs, e, New.stays hn h1, h2, h3⟩
  | i + 7, _ => trivial

theorem wk_row {w : World} {p : Nat} (h : w.heap[p]? = some (Obj.cells (wkL.flatMap BoxR.enc).toArray 42 (0, 0))) : RowAt BoxR.enc 8 w p 0 wkL := fun j hj i hi => by
  have hj' : j = 0 ∨ j = 1 := by have : j < 2 := hj; omega
  have hi' : i < 8 := by have := hi; rw [BoxR.enc_len] at this; exact this
  rcases hj' with rfl | rfl <;> rcases (show i = 0 ∨ i = 1 ∨ i = 2 ∨ i = 3 ∨ i = 4 ∨ i = 5 ∨ i = 6 ∨ i = 7 by omega) with rfl | rfl | rfl | rfl | rfl | rfl | rfl | rfl <;> exact cell_of_heap h rfl
theorem thr_of {w : World} {g n : Nat} {cs : Array Value} {t : TypeId} (h : w.heap[g]? = some (Obj.cells cs t (0, 0))) (hn : cs.size = n) : Thr w g n := fun j hj => by
  have hj' : j < cs.size := by omega
  exact ⟨⟨cs[j], cell_of_heap h (Array.getElem?_eq_getElem hj')⟩, frozen_of_heap h⟩

set_option maxHeartbeats 8000000 in
set_option maxRecDepth 100000 in
theorem ar_wakes (w : World) (hN : Nowhere w) : Calls Tryz.prog 5 #[] w fun e w' => e = .returned (.bool true) ∧ New w w' := by
  have HC := Lib.hid ar_config
  have HX := Lib.hid ar_box
  have HNW := Lib.hid (fun W n => hN.new (n : New w W))
  have HM1 := Lib.hid (fun p ga gc W h1 h2 h3 => wk_mark 1 4 ga gc (some ⟨p, 0, none⟩) wkL 2 2 rfl (by omega) (wk_E1 ga gc) (wk_M1 ga gc) W h1 h2 h3)
  have HM2 := Lib.hid (fun ga gc W h1 h2 => wk_mark 4 1 ga gc none [] 0 0 rfl (by omega) (wk_E2 ga gc) (wk_M2 ga gc) W h1 h2 RowIn.nil)
  clear hN
  go_enter Tryz.func5, Tryz.ntmps5
  go_upto_region 2 with fail
  refine Code.at (fun Z hW => ?_)
  have nZ : New w Z := by subst hW; (repeat (first | (with_reducible exact New.refl _) | (with_reducible assumption) | ((with_reducible refine New.setB ?_ ?_ _); focus (first | omega | (simp; omega) | (simp; done))) | (with_reducible refine New.alloc ?_ _) | (with_reducible refine New.drew ?_) | (with_reducible refine New.drewN ?_ _) | (with_reducible refine New.hat ?_ _) | ((with_reducible apply New.snart); (with_reducible assumption))))
  have f0 : Z.cell? ⟨w.heap.size, 0, none⟩ = some (.int .i64 2) := by subst hW; go_simp
  have f1 : Z.cell? ⟨w.heap.size, 1, none⟩ = some (.int .i64 9) := by subst hW; go_simp
  have f2 : Z.cell? ⟨w.heap.size, 2, none⟩ = some (.int .i64 1) := by subst hW; go_simp
  have s0 : Z.cell? ⟨w.heap.size + 1, 0, none⟩ = some (.slice (some ⟨w.heap.size, 0, none⟩) 1 1) := by subst hW; go_simp
  have q0 : Z.cell? ⟨w.heap.size + 1 + 1, 0, none⟩ = some (.int .i64 0) := by subst hW; go_simp
  have q1 : Z.cell? ⟨w.heap.size + 1 + 1, 1, none⟩ = some (.int .i64 0) := by subst hW; go_simp
  have q2 : Z.cell? ⟨w.heap.size + 1 + 1, 2, none⟩ = some (.int .i64 1) := by subst hW; go_simp
  have q3 : Z.cell? ⟨w.heap.size + 1 + 1, 3, none⟩ = some (.int .i64 1) := by subst hW; go_simp
  have q4 : Z.cell? ⟨w.heap.size + 1 + 1, 4, none⟩ = some (.slice (some ⟨w.heap.size + 1, 0, none⟩) 1 1) := by subst hW; go_simp
  clear hW
  have hG : RowsK Fl.enc 3 Z (.slice (some ⟨w.heap.size + 1, 0, none⟩) 1 1) [[⟨2, 9, 1⟩]] := by
    refine ⟨[.slice (some ⟨w.heap.size, 0, none⟩) 1 1], rfl, ⟨_, _, rfl, Nat.le_refl _, by unfold maxLen; omega, fun h => (by cases h), fun _ => ⟨w.heap.size + 1, 0, rfl, fun j hj i hi => ?_⟩⟩, fun j hj => ?_⟩
    · have hj' : j = 0 := by simp at hj; exact hj
      have hi' : i = 0 := by simp [oneV] at hi; exact hi
      subst hj' hi'
      exact s0
    · have hj' : j = 0 := by simp at hj; exact hj
      subst hj'
      refine ⟨_, rfl, ⟨_, _, rfl, Nat.le_refl _, by unfold maxLen; omega, fun h => (by cases h), fun _ => ⟨w.heap.size, 0, rfl, fun j hj i hi => ?_⟩⟩⟩
      have hj' : j = 0 := by simp at hj; exact hj
      subst hj'
      have hi' : i < 3 := hi
      rcases (show i = 0 ∨ i = 1 ∨ i = 2 by omega) with rfl | rfl | rfl
      · exact f0
      · exact f1
      · exact f2
  have HG := Lib.hid (fun W (n : New Z W) => hG.keep n)
  have HQ := Lib.hid (fun W (n : New Z W) => And.intro (n.keep q0) (And.intro (n.keep q1) (And.intro (n.keep q2) (And.intro (n.keep q3) (n.keep q4)))))
  have NZ := Lib.hid nZ
  clear f0 f1 f2 s0 q0 q1 q2 q3 q4 hG nZ
  obtain ⟨g0, hg0⟩ : ∃ q, q = (⟨w.heap.size + 1, 0, none⟩ : Addr) := ⟨_, rfl⟩
  obtain ⟨B, hB⟩ : ∃ q, q = w.heap.size + 1 + 1 := ⟨_, rfl⟩
  rw [← hg0, ← hB] at HQ
  rw [← hg0] at HG
  rw [← hB]
  clear hg0 hB
  refine wp_region_loose_e 10 8 (wkV1 Z.heap.size (some g0) 1) (by kernel_rfl) (by kernel_rfl) rfl rfl rfl rfl rfl (by decide) (fun _ _ h => by cases h) wkV1_keep ?_ ?_ ?_
  · intro i o hi ho a' w' nn hr hd
    rcases (show i = 0 ∨ i = 1 ∨ i = 2 ∨ i = 3 ∨ i = 4 ∨ i = 5 ∨ i = 6 ∨ i = 7 ∨ i = 8 ∨ i = 9 by omega) with rfl | rfl | rfl | rfl | rfl | rfl | rfl | rfl | rfl | rfl <;> obtain rfl := Option.some.inj ho
    · exact yields_enter 11 #[] (by go_simp) ((HC.out _).mono fun e w'' ⟨he, hn⟩ => ⟨_, he, hn, rfl⟩)
    · have r : (a'.tmps[1]?).getD undef = .pointer (some ⟨B, 0, none⟩) := (eval_get a' 1).symm.trans (hr 1 (by kernel_rfl))
      obtain ⟨q0, q1, q2, q3, q4⟩ := HQ.out _ nn
      exact yields_value (.agg #[.int .i64 0, .int .i64 0, .int .i64 1, .int .i64 1, .slice (some g0) 1 1]) (by go_simp) ⟨New.refl _, rfl⟩
    · exact yields_enter 12 #[.int .i64 5, .int .i64 4] (by go_simp) ((HX.out _ _ _).mono fun e w'' ⟨he, hn⟩ => ⟨_, he, hn, rfl⟩)
    · exact yields_enter 12 #[.int .i64 3, .int .i64 2] (by go_simp) ((HX.out _ _ _).mono fun e w'' ⟨he, hn⟩ => ⟨_, he, hn, rfl⟩)
    · have e2 : a'.eval (.tmp 13) = .agg #[.int .i64 5, .int .i64 0, .int .i64 0, .int .i64 7, .int .i64 7, .int .i64 (-9), .int .i64 9, .int .i64 4] := hd 2 13 (by omega) (by kernel_rfl) (by kernel_rfl)
      have e3 : a'.eval (.tmp 14) = .agg #[.int .i64 3, .int .i64 0, .int .i64 0, .int .i64 7, .int .i64 7, .int .i64 (-9), .int .i64 9, .int .i64 2] := hd 3 14 (by omega) (by kernel_rfl) (by kernel_rfl)
      have r2 : (a'.tmps[13]?).getD undef = _ := (eval_get a' 13).symm.trans e2
      have r3 : (a'.tmps[14]?).getD undef = _ := (eval_get a' 14).symm.trans e3
      exact yields_value (w' := w'.alloc (.cells (wkL.flatMap BoxR.enc).toArray 42)) (.slice (some ⟨w'.heap.size, 0, none⟩) 2 2) (by unfold wkL BoxR.enc; go_simp) ⟨(New.refl _).alloc _, _, rfl, wk_row (heap_new _ _)⟩
    · have e0 : a'.eval (.tmp 11) = .agg #[.int .i64 0, .int .i64 1, .int .i64 3, .int .i64 1, .int .i64 1, .int .i64 8, .int .i64 8] := hd 0 11 (by omega) (by kernel_rfl) (by kernel_rfl)
      have e1 : a'.eval (.tmp 12) = .agg #[.int .i64 0, .int .i64 0, .int .i64 1, .int .i64 1, .slice (some g0) 1 1] := hd 1 12 (by omega) (by kernel_rfl) (by kernel_rfl)
      obtain ⟨p, e2, hp⟩ : ∃ p, a'.eval (.tmp 15) = .slice (some ⟨p, 0, none⟩) 2 2 ∧ RowAt BoxR.enc 8 w' p 0 wkL := hd 4 15 (by omega) (by kernel_rfl) (by kernel_rfl)
      have r0 : (a'.tmps[11]?).getD undef = _ := (eval_get a' 11).symm.trans e0
      have r1 : (a'.tmps[12]?).getD undef = _ := (eval_get a' 12).symm.trans e1
      have r2 : (a'.tmps[15]?).getD undef = _ := (eval_get a' 15).symm.trans e2
      refine yields_enter 6 #[.agg #[.int .i64 0, .int .i64 1, .int .i64 3, .int .i64 1, .int .i64 1, .int .i64 8, .int .i64 8], .agg #[.int .i64 0, .int .i64 0, .int .i64 1, .int .i64 1, .slice (some g0) 1 1], .slice (some ⟨p, 0, none⟩) 2 2] (by go_simp) ((HM1.out p (some g0) 1 w' (HNW.out _ (NZ.out.trans nn)) (HG.out _ nn) (fun _ => ⟨p, 0, rfl, hp⟩)).mono ?_)
      rintro e w'' ⟨a, c, he, h5, h6⟩
      exact ⟨_, he, h6, a, c, rfl, h5.mono nn.size⟩
    · obtain ⟨a, c, e5, h5⟩ : ∃ a c, a'.eval (.tmp 16) = .tuple #[.agg #[.int .i64 0, .int .i64 0, .int .i64 1, .int .i64 1, .slice a 1 c], .int .i64 0] ∧ RowsN Fl.enc 3 37 39 Z.heap.size w' (.slice a 1 c) [[⟨2, 9, 4⟩]] := hd 5 16 (by omega) (by kernel_rfl) (by kernel_rfl)
      have r : (a'.tmps[16]?).getD undef = _ := (eval_get a' 16).symm.trans e5
      exact yields_value (.tuple #[.agg #[.int .i64 0, .int .i64 0, .int .i64 1, .int .i64 1, .slice a 1 c], .int .i64 0]) (by go_simp) ⟨New.refl _, a, c, rfl, h5⟩
    · obtain ⟨a, c, e5, h5⟩ : ∃ a c, a'.eval (.tmp 10) = .tuple #[.agg #[.int .i64 0, .int .i64 0, .int .i64 1, .int .i64 1, .slice a 1 c], .int .i64 0] ∧ RowsN Fl.enc 3 37 39 Z.heap.size w' (.slice a 1 c) [[⟨2, 9, 4⟩]] := hd 6 10 (by omega) (by kernel_rfl) (by kernel_rfl)
      have r : (a'.tmps[10]?).getD undef = _ := (eval_get a' 10).symm.trans e5
      exact yields_value (.agg #[.int .i64 0, .int .i64 0, .int .i64 1, .int .i64 1, .slice a 1 c]) (by go_simp) ⟨New.refl _, a, c, rfl, h5⟩
    · obtain ⟨a, c, e5, h5⟩ : ∃ a c, a'.eval (.tmp 10) = .tuple #[.agg #[.int .i64 0, .int .i64 0, .int .i64 1, .int .i64 1, .slice a 1 c], .int .i64 0] ∧ RowsN Fl.enc 3 37 39 Z.heap.size w' (.slice a 1 c) [[⟨2, 9, 4⟩]] := hd 6 10 (by omega) (by kernel_rfl) (by kernel_rfl)
      have r : (a'.tmps[10]?).getD undef = _ := (eval_get a' 10).symm.trans e5
      exact yields_value (.int .i64 0) (by go_simp) ⟨New.refl _, rfl⟩
    · exact yields_value (w' := w'.alloc (.cells #[.int .i64 0, .int .i64 0, .int .i64 0, .int .i64 0, .slice none 0 0] 26)) (.pointer (some ⟨w'.heap.size, 0, none⟩)) (by go_simp) ⟨(New.refl _).alloc _, _, _, rfl, heap_new _ _, rfl, nn.size⟩
  · intro a' w' nn hd
    obtain ⟨a, c, e5, h5⟩ : ∃ a c, a'.eval (.tmp 10) = .tuple #[.agg #[.int .i64 0, .int .i64 0, .int .i64 1, .int .i64 1, .slice a 1 c], .int .i64 0] ∧ RowsN Fl.enc 3 37 39 Z.heap.size w' (.slice a 1 c) [[⟨2, 9, 4⟩]] := hd 6 10 (by omega) (by kernel_rfl) (by kernel_rfl)
    have r : (a'.tmps[10]?).getD undef = _ := (eval_get a' 10).symm.trans e5
    exact ⟨.int .i64 0, fun W => by go_simp⟩
  · intro vs w' nn hv
    obtain ⟨a, c, e7, h7⟩ : ∃ a c, vs 7 = .agg #[.int .i64 0, .int .i64 0, .int .i64 1, .int .i64 1, .slice a 1 c] ∧ RowsN Fl.enc 3 37 39 Z.heap.size w' (.slice a 1 c) [[⟨2, 9, 4⟩]] := hv 7 (by omega)
    obtain ⟨a2, c2, e6, -⟩ : ∃ a c, vs 6 = .tuple #[.agg #[.int .i64 0, .int .i64 0, .int .i64 1, .int .i64 1, .slice a 1 c], .int .i64 0] ∧ RowsN Fl.enc 3 37 39 Z.heap.size w' (.slice a 1 c) [[⟨2, 9, 4⟩]] := hv 6 (by omega)
    obtain ⟨a3, c3, e5, -⟩ : ∃ a c, vs 5 = .tuple #[.agg #[.int .i64 0, .int .i64 0, .int .i64 1, .int .i64 1, .slice a 1 c], .int .i64 0] ∧ RowsN Fl.enc 3 37 39 Z.heap.size w' (.slice a 1 c) [[⟨2, 9, 4⟩]] := hv 5 (by omega)
    obtain ⟨p, e4, -⟩ : ∃ p, vs 4 = .slice (some ⟨p, 0, none⟩) 2 2 ∧ RowAt BoxR.enc 8 w' p 0 wkL := hv 4 (by omega)
    have e8 : vs 8 = .int .i64 0 := hv 8 (by omega)
    obtain ⟨g, cs, e9, hg, hcs, hgZ⟩ : ∃ g cs, vs 9 = .pointer (some ⟨g, 0, none⟩) ∧ w'.heap[g]? = some (.cells cs 26 (0, 0)) ∧ cs.size = 5 ∧ Z.heap.size ≤ g := hv 9 (by omega)
    simp only [List.take_succ_cons, List.take_zero, List.drop_succ_cons, List.drop_zero, putL, Act.put, List.setIfInBounds_toArray, List.set_cons_zero, List.set_cons_succ, Nat.reduceAdd, Nat.zero_add]
    rw [e4, e5, e6, e7, e8, e9]
    have key : ∀ (op : Oper) (x : Act), op.op = .store 26 (.tmp 2) (.tmp 17) → x.eval (.tmp 2) = .pointer (some ⟨g, 0, none⟩) → x.eval (.tmp 17) = .agg #[.int .i64 0, .int .i64 0, .int .i64 1, .int .i64 1, .slice a 1 c] → ∃ W, (execOp x.eval op).run Tryz.prog w' = .ok .skip W ∧ New Z W ∧ RowsN Fl.enc 3 37 39 Z.heap.size W (.slice a 1 c) [[⟨2, 9, 4⟩]] ∧ CellsAt W g 0 #[.int .i64 0, .int .i64 0, .int .i64 1, .int .i64 1, .slice a 1 c].toList := fun op x ho hx hy => by
      obtain ⟨Y, hrun, nY, kY, cY⟩ := store_blk_run (P := Tryz.prog) (w := w') 26 _ _ ho g #[.int .i64 0, .int .i64 0, .int .i64 1, .int .i64 1, .slice a 1 c] hx hy (thr_of hg hcs) (by kernel_rfl) (by intro v hv; simp at hv; rcases hv with rfl | rfl | rfl | rfl <;> rfl)
      exact ⟨Y, hrun, nY _ nn hgZ, h7.kept fun b cs t _ ht hc => kY b (fun e => by subst e; rw [hg] at hc; injection hc with hc; injection hc with _ hc; rcases ht with rfl | rfl <;> exact absurd hc (by decide)), cY⟩
    refine Exists.elim (key _ _ ?_ ?_ ?_) (fun Y hY => ⟨Y, hY.1, ?_⟩)
    · rfl
    · rfl
    · rfl
    obtain ⟨-, nz, hrn, hcy⟩ := hY
    have NY := Lib.hid (NZ.out.trans nz)
    have HRY := Lib.hid (fun W (n : New Y W) => hrn.new n)
    have y0 : Y.cell? ⟨g, 0, none⟩ = some (.int .i64 0) := hcy 0 (by show 0 < 5; omega)
    have y1 : Y.cell? ⟨g, 1, none⟩ = some (.int .i64 0) := hcy 1 (by show 1 < 5; omega)
    have y2 : Y.cell? ⟨g, 2, none⟩ = some (.int .i64 1) := hcy 2 (by show 2 < 5; omega)
    have y3 : Y.cell? ⟨g, 3, none⟩ = some (.int .i64 1) := hcy 3 (by show 3 < 5; omega)
    have y4 : Y.cell? ⟨g, 4, none⟩ = some (.slice a 1 c) := hcy 4 (by show 4 < 5; omega)
    have HYC := Lib.hid (fun W (n : New Y W) => And.intro (n.keep y0) (And.intro (n.keep y1) (And.intro (n.keep y2) (And.intro (n.keep y3) (n.keep y4)))))
    clear hv e4 e5 e6 e7 e8 e9 h7 hg hcs hgZ nn key hrn hcy nz y0 y1 y2 y3 y4 HG HQ HM1 NZ HX
    go_upto_region 3 with fail
    refine wp_region_loose_e 7 5 (wkV2 Y.heap.size a c) (by kernel_rfl) (by kernel_rfl) rfl rfl rfl rfl rfl (by decide) (fun _ _ h => by cases h) wkV2_keep ?_ ?_ ?_
    · intro i o hi ho a' w' nn hr hd
      rcases (show i = 0 ∨ i = 1 ∨ i = 2 ∨ i = 3 ∨ i = 4 ∨ i = 5 ∨ i = 6 by omega) with rfl | rfl | rfl | rfl | rfl | rfl | rfl <;> obtain rfl := Option.some.inj ho
      · exact yields_enter 11 #[] (by go_simp) ((HC.out _).mono fun e w'' ⟨he, hn⟩ => ⟨_, he, hn, rfl⟩)
      · have r : (a'.tmps[2]?).getD undef = .pointer (some ⟨g, 0, none⟩) := (eval_get a' 2).symm.trans (hr 2 (by kernel_rfl))
        obtain ⟨q0, q1, q2, q3, q4⟩ := HYC.out _ nn
        exact yields_value (.agg #[.int .i64 0, .int .i64 0, .int .i64 1, .int .i64 1, .slice a 1 c]) (by go_simp) ⟨New.refl _, rfl⟩
      · have e0 : a'.eval (.tmp 20) = .agg #[.int .i64 0, .int .i64 1, .int .i64 3, .int .i64 1, .int .i64 1, .int .i64 8, .int .i64 8] := hd 0 20 (by omega) (by kernel_rfl) (by kernel_rfl)
        have e1 : a'.eval (.tmp 21) = .agg #[.int .i64 0, .int .i64 0, .int .i64 1, .int .i64 1, .slice a 1 c] := hd 1 21 (by omega) (by kernel_rfl) (by kernel_rfl)
        have r0 : (a'.tmps[20]?).getD undef = _ := (eval_get a' 20).symm.trans e0
        have r1 : (a'.tmps[21]?).getD undef = _ := (eval_get a' 21).symm.trans e1
        refine yields_enter 6 #[.agg #[.int .i64 0, .int .i64 1, .int .i64 3, .int .i64 1, .int .i64 1, .int .i64 8, .int .i64 8], .agg #[.int .i64 0, .int .i64 0, .int .i64 1, .int .i64 1, .slice a 1 c], .slice none 0 0] (by go_simp) ((HM2.out a c w' (HNW.out _ (NY.out.trans nn)) (HRY.out _ nn).rows).mono ?_)
        rintro e w'' ⟨a2, c2, he, h5, h6⟩
        exact ⟨_, he, h6, a2, c2, rfl, h5.mono nn.size⟩
      · obtain ⟨a2, c2, e5, h5⟩ : ∃ a c, a'.eval (.tmp 22) = .tuple #[.agg #[.int .i64 0, .int .i64 0, .int .i64 1, .int .i64 1, .slice a 1 c], .int .i64 0] ∧ RowsN Fl.enc 3 37 39 Y.heap.size w' (.slice a 1 c) [[⟨2, 9, 1⟩]] := hd 2 22 (by omega) (by kernel_rfl) (by kernel_rfl)
        have r : (a'.tmps[22]?).getD undef = _ := (eval_get a' 22).symm.trans e5
        exact yields_value (.tuple #[.agg #[.int .i64 0, .int .i64 0, .int .i64 1, .int .i64 1, .slice a2 1 c2], .int .i64 0]) (by go_simp) ⟨New.refl _, a2, c2, rfl, h5⟩
      · obtain ⟨a2, c2, e5, h5⟩ : ∃ a c, a'.eval (.tmp 19) = .tuple #[.agg #[.int .i64 0, .int .i64 0, .int .i64 1, .int .i64 1, .slice a 1 c], .int .i64 0] ∧ RowsN Fl.enc 3 37 39 Y.heap.size w' (.slice a 1 c) [[⟨2, 9, 1⟩]] := hd 3 19 (by omega) (by kernel_rfl) (by kernel_rfl)
        have r : (a'.tmps[19]?).getD undef = _ := (eval_get a' 19).symm.trans e5
        exact yields_value (.agg #[.int .i64 0, .int .i64 0, .int .i64 1, .int .i64 1, .slice a2 1 c2]) (by go_simp) ⟨New.refl _, a2, c2, rfl, h5⟩
      · obtain ⟨a2, c2, e5, h5⟩ : ∃ a c, a'.eval (.tmp 19) = .tuple #[.agg #[.int .i64 0, .int .i64 0, .int .i64 1, .int .i64 1, .slice a 1 c], .int .i64 0] ∧ RowsN Fl.enc 3 37 39 Y.heap.size w' (.slice a 1 c) [[⟨2, 9, 1⟩]] := hd 3 19 (by omega) (by kernel_rfl) (by kernel_rfl)
        have r : (a'.tmps[19]?).getD undef = _ := (eval_get a' 19).symm.trans e5
        exact yields_value (.int .i64 0) (by go_simp) ⟨New.refl _, rfl⟩
      · exact yields_value (w' := w'.alloc (.cells #[.int .i64 0, .int .i64 0, .int .i64 0, .int .i64 0, .slice none 0 0] 26)) (.pointer (some ⟨w'.heap.size, 0, none⟩)) (by go_simp) ⟨(New.refl _).alloc _, _, _, rfl, heap_new _ _, rfl, nn.size⟩
    · intro a' w' nn hd
      obtain ⟨a2, c2, e5, h5⟩ : ∃ a c, a'.eval (.tmp 19) = .tuple #[.agg #[.int .i64 0, .int .i64 0, .int .i64 1, .int .i64 1, .slice a 1 c], .int .i64 0] ∧ RowsN Fl.enc 3 37 39 Y.heap.size w' (.slice a 1 c) [[⟨2, 9, 1⟩]] := hd 3 19 (by omega) (by kernel_rfl) (by kernel_rfl)
      have r : (a'.tmps[19]?).getD undef = _ := (eval_get a' 19).symm.trans e5
      exact ⟨.int .i64 0, fun W => by go_simp⟩
    · intro vs w' nn hv
      obtain ⟨a2, c2, e4, h4⟩ : ∃ a c, vs 4 = .agg #[.int .i64 0, .int .i64 0, .int .i64 1, .int .i64 1, .slice a 1 c] ∧ RowsN Fl.enc 3 37 39 Y.heap.size w' (.slice a 1 c) [[⟨2, 9, 1⟩]] := hv 4 (by omega)
      obtain ⟨a3, c3, e3, -⟩ : ∃ a c, vs 3 = .tuple #[.agg #[.int .i64 0, .int .i64 0, .int .i64 1, .int .i64 1, .slice a 1 c], .int .i64 0] ∧ RowsN Fl.enc 3 37 39 Y.heap.size w' (.slice a 1 c) [[⟨2, 9, 1⟩]] := hv 3 (by omega)
      obtain ⟨a5, c5, e2, -⟩ : ∃ a c, vs 2 = .tuple #[.agg #[.int .i64 0, .int .i64 0, .int .i64 1, .int .i64 1, .slice a 1 c], .int .i64 0] ∧ RowsN Fl.enc 3 37 39 Y.heap.size w' (.slice a 1 c) [[⟨2, 9, 1⟩]] := hv 2 (by omega)
      have e5 : vs 5 = .int .i64 0 := hv 5 (by omega)
      obtain ⟨g2, cs, e6, hg, hcs, hgZ⟩ : ∃ g cs, vs 6 = .pointer (some ⟨g, 0, none⟩) ∧ w'.heap[g]? = some (.cells cs 26 (0, 0)) ∧ cs.size = 5 ∧ Y.heap.size ≤ g := hv 6 (by omega)
      simp only [List.take_succ_cons, List.take_zero, List.drop_succ_cons, List.drop_zero, putL, Act.put, List.setIfInBounds_toArray, List.set_cons_zero, List.set_cons_succ, Nat.reduceAdd, Nat.zero_add]
      rw [e2, e3, e4, e5, e6]
      have key : ∀ (op : Oper) (x : Act), op.op = .store 26 (.tmp 4) (.tmp 23) → x.eval (.tmp 4) = .pointer (some ⟨g2, 0, none⟩) → x.eval (.tmp 23) = .agg #[.int .i64 0, .int .i64 0, .int .i64 1, .int .i64 1, .slice a2 1 c2] → ∃ W, (execOp x.eval op).run Tryz.prog w' = .ok .skip W ∧ New Y W ∧ RowsN Fl.enc 3 37 39 Y.heap.size W (.slice a2 1 c2) [[⟨2, 9, 1⟩]] ∧ CellsAt W g2 0 #[.int .i64 0, .int .i64 0, .int .i64 1, .int .i64 1, .slice a2 1 c2].toList := fun op x ho hx hy => by
        obtain ⟨X, hrun, nX, kX, cX⟩ := store_blk_run (P := Tryz.prog) (w := w') 26 _ _ ho g2 #[.int .i64 0, .int .i64 0, .int .i64 1, .int .i64 1, .slice a2 1 c2] hx hy (thr_of hg hcs) (by kernel_rfl) (by intro v hv; simp at hv; rcases hv with rfl | rfl | rfl | rfl <;> rfl)
        exact ⟨X, hrun, nX _ nn hgZ, h4.kept fun b cs t _ ht hc => kX b (fun e => by subst e; rw [hg] at hc; injection hc with hc; injection hc with _ hc; rcases ht with rfl | rfl <;> exact absurd hc (by decide)), cX⟩
      refine Exists.elim (key _ _ ?_ ?_ ?_) (fun X hX => ⟨X, hX.1, ?_⟩)
      · rfl
      · rfl
      · rfl
      obtain ⟨-, nx, hrx, hcx⟩ := hX
      obtain ⟨-, -, -, -, y4⟩ := HYC.out _ nx
      have x4 : X.cell? ⟨g2, 4, none⟩ = some (.slice a2 1 c2) := hcx 4 (by show 4 < 5; omega)
      obtain ⟨b1, o1, b2, o2, d1, rfl, u1, u2⟩ := wk_at (HRY.out _ nx).rows
      obtain ⟨b3, o3, b4, o4, d2, rfl, u3, u4⟩ := wk_at hrx.rows
      simp only [] at u2 u4
      have nn := NY.out.trans nx
      clear hv e2 e3 e4 e5 e6 h4 hg hcs hgZ key hrx hcx nx HYC HRY HM2 HC HNW NY
      go_wp2_with fail
      go_ret
      exact ⟨rfl, nn⟩

end Go.Proofs.YtdbhlepbaepngaaGreatDoor
