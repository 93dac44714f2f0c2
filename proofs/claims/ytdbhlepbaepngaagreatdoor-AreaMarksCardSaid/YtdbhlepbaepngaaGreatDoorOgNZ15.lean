import Derived.Test.YtdbhlepbaepngaaGreatDoorOgIZ15
import Derived.RangeFuncNested
import Derived.Test.YtdbhlepbaepngaaGreatDoorSoWZ15

/- Package open: columnsOf, at. -/
namespace Go.Proofs.YtdbhlepbaepngaaGreatDoor
open Go.RowKit
set_option linter.unusedVariables false

def Gd.zero : Gd := ⟨0, 0, 0, 0, [], none, 0⟩
theorem Gd.zero_ok (w : World) : Gd.zero.ok w := RowsK.nil
theorem Gd.zero_E : gE Gd.zero = 0 := by kernel_rfl
theorem Gd.ok.keep {G : Gd} {w w' : World} (h : G.ok w) (n : New w w') : G.ok w' := RowsK.keep h n
/-- A grid's columns: of one that may not be there are none. -/
def colG (G : Gd) : Gd := if gE G = 0 then G else Gd.zero
theorem colG_ok {G : Gd} {w : World} (h : G.ok w) : (colG G).ok w := by
  unfold colG
  split
  · exact h
  · exact Gd.zero_ok w
theorem colG_E (G : Gd) : gE (colG G) = 0 := by
  unfold colG
  split
  · rename_i h; exact h
  · exact Gd.zero_E

set_option maxHeartbeats 2000000 in
set_option maxRecDepth 100000 in
theorem og_columnsOf (G : Gd) (w : World) (h : G.ok w) : Calls Tryz.prog 29 #[.agg #[.int .i64 G.x, .int .i64 G.z, .int .i64 G.w, .int .i64 G.d, .slice G.ga G.L.length G.gc]] w fun e w' => e = .returned (.agg #[.int .i64 (colG G).x, .int .i64 (colG G).z, .int .i64 (colG G).w, .int .i64 (colG G).d, .slice (colG G).ga (colG G).L.length (colG G).gc]) ∧ New w w' := by
  have KC := Lib.hid (fun W n => og_check G W (h.keep (n : New w W)))
  have h2 := gE_two G
  have HG : Hid (gE G = 0 → colG G = G) := Lib.hid (fun q => by unfold colG; rw [if_pos q])
  have HZ : Hid (gE G = 2 → colG G = Gd.zero) := Lib.hid (fun q => by unfold colG; rw [if_neg (by omega)])
  obtain ⟨r, hr⟩ : ∃ r, r = gE G := ⟨_, rfl⟩
  rw [← hr] at KC h2 HG HZ
  clear hr h
  obtain ⟨n, hn⟩ : ∃ n, n = G.L.length := ⟨_, rfl⟩
  have HN := Lib.hid hn
  rw [← hn] at KC ⊢
  clear hn
  rcases h2 with rfl | rfl
  · have e := HG.out rfl
    rw [e, ← HN.out]
    clear e
    go_enter Tryz.func29, Tryz.ntmps29
    go_wp2_with fail
    refine Calls.at (fun W0 hW => ?_)
    have n0 : New w W0 := by subst hW; (repeat (first | (with_reducible exact New.refl _) | (with_reducible assumption) | ((with_reducible refine New.setB ?_ ?_ _); focus (first | omega | (simp; omega) | (simp; done))) | (with_reducible refine New.alloc ?_ _) | (with_reducible refine New.drew ?_) | (with_reducible refine New.drewN ?_ _) | (with_reducible refine New.hat ?_ _) | ((with_reducible apply New.snart); (with_reducible assumption))))
    have g0 : W0.cell? ⟨w.heap.size, 0, none⟩ = some (.int .i64 G.x) := by subst hW; go_simp
    have g1 : W0.cell? ⟨w.heap.size, 1, none⟩ = some (.int .i64 G.z) := by subst hW; go_simp
    have g2 : W0.cell? ⟨w.heap.size, 2, none⟩ = some (.int .i64 G.w) := by subst hW; go_simp
    have g3 : W0.cell? ⟨w.heap.size, 3, none⟩ = some (.int .i64 G.d) := by subst hW; go_simp
    have g4 : W0.cell? ⟨w.heap.size, 4, none⟩ = some (.slice G.ga n G.gc) := by subst hW; go_simp
    have r0 : W0.heap[w.heap.size + 1]? = some (.cells #[.int .i64 0, .int .i64 0, .int .i64 0, .int .i64 0, .slice none 0 0] 67 (0, 0)) := by
      subst hW
      have h := World.alloc_heap_new (w.alloc (.cells #[.int .i64 G.x, .int .i64 G.z, .int .i64 G.w, .int .i64 G.d, .slice G.ga n G.gc] 26)) (.cells #[.int .i64 0, .int .i64 0, .int .i64 0, .int .i64 0, .slice none 0 0] 67)
      rw [World.size_alloc] at h
      exact h
    clear hW
    refine (KC.out _ n0).mono ?_
    rintro e w1 ⟨rfl, n1⟩
    have q0 := (n1.block _ (Array.getElem?_eq_some_iff.1 r0).1).trans r0
    have z0 : w1.cell? ⟨w.heap.size + 1, 0, none⟩ = some (.int .i64 0) := cell_of_heap q0 rfl
    have z1 : w1.cell? ⟨w.heap.size + 1, 1, none⟩ = some (.int .i64 0) := cell_of_heap q0 rfl
    have z2 : w1.cell? ⟨w.heap.size + 1, 2, none⟩ = some (.int .i64 0) := cell_of_heap q0 rfl
    have z3 : w1.cell? ⟨w.heap.size + 1, 3, none⟩ = some (.int .i64 0) := cell_of_heap q0 rfl
    have z4 : w1.cell? ⟨w.heap.size + 1, 4, none⟩ = some (.slice none 0 0) := cell_of_heap q0 rfl
    have f0 : w1.frozen? ⟨w.heap.size + 1, 0, none⟩ = false := by simp [World.frozen?, q0]
    have f1 : w1.frozen? ⟨w.heap.size + 1, 1, none⟩ = false := by simp [World.frozen?, q0]
    have f2 : w1.frozen? ⟨w.heap.size + 1, 2, none⟩ = false := by simp [World.frozen?, q0]
    have f3 : w1.frozen? ⟨w.heap.size + 1, 3, none⟩ = false := by simp [World.frozen?, q0]
    have f4 : w1.frozen? ⟨w.heap.size + 1, 4, none⟩ = false := by simp [World.frozen?, q0]
    replace g0 := n1.keep g0
    replace g1 := n1.keep g1
    replace g2 := n1.keep g2
    replace g3 := n1.keep g3
    replace g4 := n1.keep g4
    have nn := n0.trans n1
    clear q0 r0 n0 n1
    go_wp2_with fail

    generalize hW5 : World.setCell _ _ _ = W5
    have n5 : New w W5 := by subst hW5; (repeat (first | (with_reducible exact New.refl _) | (with_reducible assumption) | ((with_reducible refine New.setB ?_ ?_ _); focus (first | omega | (simp; omega) | (simp; done))) | (with_reducible refine New.alloc ?_ _) | (with_reducible refine New.drew ?_) | (with_reducible refine New.drewN ?_ _) | (with_reducible refine New.hat ?_ _) | ((with_reducible apply New.snart); (with_reducible assumption))))
    have k0 : W5.cell? ⟨w.heap.size + 1, 0, none⟩ = some (.int .i64 G.x) := by subst hW5; go_simp
    have k1 : W5.cell? ⟨w.heap.size + 1, 1, none⟩ = some (.int .i64 G.z) := by subst hW5; go_simp
    have k2 : W5.cell? ⟨w.heap.size + 1, 2, none⟩ = some (.int .i64 G.w) := by subst hW5; go_simp
    have k3 : W5.cell? ⟨w.heap.size + 1, 3, none⟩ = some (.int .i64 G.d) := by subst hW5; go_simp
    have k4 : W5.cell? ⟨w.heap.size + 1, 4, none⟩ = some (.slice G.ga n G.gc) := by subst hW5; go_simp
    clear hW5 z0 z1 z2 z3 z4 f0 f1 f2 f3 f4 g0 g1 g2 g3 g4
    refine bodyPost_ret (v := .agg #[.int .i64 G.x, .int .i64 G.z, .int .i64 G.w, .int .i64 G.d, .slice G.ga n G.gc]) (by simp [results, Tryz.results29, go_sem, *]) rfl ?_
    exact ⟨rfl, n5⟩
  · have e := HZ.out rfl
    rw [e]
    clear e
    go_enter Tryz.func29, Tryz.ntmps29
    go_wp2_with fail
    refine Calls.at (fun W0 hW => ?_)
    have n0 : New w W0 := by subst hW; (repeat (first | (with_reducible exact New.refl _) | (with_reducible assumption) | ((with_reducible refine New.setB ?_ ?_ _); focus (first | omega | (simp; omega) | (simp; done))) | (with_reducible refine New.alloc ?_ _) | (with_reducible refine New.drew ?_) | (with_reducible refine New.drewN ?_ _) | (with_reducible refine New.hat ?_ _) | ((with_reducible apply New.snart); (with_reducible assumption))))
    have r0 : W0.heap[w.heap.size + 1]? = some (.cells #[.int .i64 0, .int .i64 0, .int .i64 0, .int .i64 0, .slice none 0 0] 67 (0, 0)) := by
      subst hW
      have h := World.alloc_heap_new (w.alloc (.cells #[.int .i64 G.x, .int .i64 G.z, .int .i64 G.w, .int .i64 G.d, .slice G.ga n G.gc] 26)) (.cells #[.int .i64 0, .int .i64 0, .int .i64 0, .int .i64 0, .slice none 0 0] 67)
      rw [World.size_alloc] at h
      exact h
    clear hW
    refine (KC.out _ n0).mono ?_
    rintro e w1 ⟨rfl, n1⟩
    have q0 := (n1.block _ (Array.getElem?_eq_some_iff.1 r0).1).trans r0
    have z0 : w1.cell? ⟨w.heap.size + 1, 0, none⟩ = some (.int .i64 0) := cell_of_heap q0 rfl
    have z1 : w1.cell? ⟨w.heap.size + 1, 1, none⟩ = some (.int .i64 0) := cell_of_heap q0 rfl
    have z2 : w1.cell? ⟨w.heap.size + 1, 2, none⟩ = some (.int .i64 0) := cell_of_heap q0 rfl
    have z3 : w1.cell? ⟨w.heap.size + 1, 3, none⟩ = some (.int .i64 0) := cell_of_heap q0 rfl
    have z4 : w1.cell? ⟨w.heap.size + 1, 4, none⟩ = some (.slice none 0 0) := cell_of_heap q0 rfl
    have f0 : w1.frozen? ⟨w.heap.size + 1, 0, none⟩ = false := by simp [World.frozen?, q0]
    have f1 : w1.frozen? ⟨w.heap.size + 1, 1, none⟩ = false := by simp [World.frozen?, q0]
    have f2 : w1.frozen? ⟨w.heap.size + 1, 2, none⟩ = false := by simp [World.frozen?, q0]
    have f3 : w1.frozen? ⟨w.heap.size + 1, 3, none⟩ = false := by simp [World.frozen?, q0]
    have f4 : w1.frozen? ⟨w.heap.size + 1, 4, none⟩ = false := by simp [World.frozen?, q0]
    have nn := n0.trans n1
    clear q0 r0 n0 n1
    go_wp2_with fail
    generalize hW5 : World.setCell _ _ _ = W5
    have n5 : New w W5 := by subst hW5; (repeat (first | (with_reducible exact New.refl _) | (with_reducible assumption) | ((with_reducible refine New.setB ?_ ?_ _); focus (first | omega | (simp; omega) | (simp; done))) | (with_reducible refine New.alloc ?_ _) | (with_reducible refine New.drew ?_) | (with_reducible refine New.drewN ?_ _) | (with_reducible refine New.hat ?_ _) | ((with_reducible apply New.snart); (with_reducible assumption))))
    have k0 : W5.cell? ⟨w.heap.size + 1, 0, none⟩ = some (.int .i64 0) := by subst hW5; go_simp
    have k1 : W5.cell? ⟨w.heap.size + 1, 1, none⟩ = some (.int .i64 0) := by subst hW5; go_simp
    have k2 : W5.cell? ⟨w.heap.size + 1, 2, none⟩ = some (.int .i64 0) := by subst hW5; go_simp
    have k3 : W5.cell? ⟨w.heap.size + 1, 3, none⟩ = some (.int .i64 0) := by subst hW5; go_simp
    have k4 : W5.cell? ⟨w.heap.size + 1, 4, none⟩ = some (.slice none 0 0) := by subst hW5; go_simp
    clear hW5 z0 z1 z2 z3 z4 f0 f1 f2 f3 f4
    refine bodyPost_ret (v := .agg #[.int .i64 0, .int .i64 0, .int .i64 0, .int .i64 0, .slice none 0 0]) (by simp [results, Tryz.results29, go_sem, *]) rfl ?_
    exact ⟨rfl, n5⟩

end Go.Proofs.YtdbhlepbaepngaaGreatDoor

/- Package open: a column of a grid. -/
namespace Go.Proofs.YtdbhlepbaepngaaGreatDoor
open Go.RowKit
set_option linter.unusedVariables false

def inG (G : Gd) (x z : Int) : Bool := wiB x G.x (G.x + G.w - 1) && wiB z G.z (G.z + G.d - 1)
def ixG (G : Gd) (x z : Int) : Nat := ((z - G.z) * G.w + (x - G.x)).toNat
/-- A column's floors. -/
def atG (G : Gd) (x z : Int) : List Fl := if inG G x z = true then (G.L[ixG G x z]?).getD [] else []
theorem inG_iff {G : Gd} {x z : Int} : inG G x z = true ↔ (G.x ≤ x ∧ x ≤ G.x + G.w - 1) ∧ (G.z ≤ z ∧ z ≤ G.z + G.d - 1) := by
  unfold inG
  simp only [Bool.and_eq_true, wiB_iff]
/-- Where a column of the grid stands. -/
theorem ixG_is {G : Gd} (hE : gE G = 0) {x z : Int} (h : inG G x z = true) : 0 ≤ (z - G.z) * G.w ∧ (z - G.z) * G.w ≤ 4096 ∧ (ixG G x z : Int) = (z - G.z) * G.w + (x - G.x) ∧ ixG G x z < G.L.length := by
  obtain ⟨hp, hl, -⟩ := gd_is hE
  have hb := placeB_iff.1 hp
  have hi := inG_iff.1 h
  have h1 : 0 ≤ (z - G.z) * G.w := Int.mul_nonneg (by omega) (by omega)
  have h2 : (z - G.z) * G.w ≤ (G.d - 1) * G.w := Int.mul_le_mul_of_nonneg_right (by omega) (by omega)
  have h3 : (G.d - 1) * G.w = G.w * G.d - G.w := by rw [Int.sub_mul, Int.one_mul, Int.mul_comm]
  have h4 := mul_64 (show 0 ≤ G.w by omega) (show G.w ≤ 64 by omega) (show 0 ≤ G.d by omega) (show G.d ≤ 64 by omega)
  have h5 : (ixG G x z : Int) = (z - G.z) * G.w + (x - G.x) := by unfold ixG; omega
  exact ⟨h1, by omega, h5, by omega⟩
theorem atG_in {G : Gd} (hE : gE G = 0) {x z : Int} (h : inG G x z = true) : atG G x z = G.L[ixG G x z]'(ixG_is hE h).2.2.2 := by
  unfold atG
  rw [if_pos h, List.getElem?_eq_getElem (ixG_is hE h).2.2.2]
  rfl
theorem atG_out {G : Gd} {x z : Int} (h : inG G x z = false) : atG G x z = [] := by unfold atG; rw [if_neg (by rw [h]; simp)]
theorem atG_len {G : Gd} (hE : gE G = 0) (x z : Int) : (atG G x z).length ≤ 8 := by
  cases h : inG G x z
  · rw [atG_out h]; simp
  · rw [atG_in hE h]
    exact riseB_len ((gd_is hE).2.2 _ _)

set_option maxHeartbeats 4000000 in
set_option maxRecDepth 100000 in
theorem og_at0 (G : Gd) (hE : gE G = 0) (x z : Int) (w0 w : World) (hn0 : New w0 w) (h : G.ok w0) : Calls Tryz.prog 45 #[.agg #[.int .i64 G.x, .int .i64 G.z, .int .i64 G.w, .int .i64 G.d, .slice G.ga G.L.length G.gc], .int .i64 x, .int .i64 z] w fun e w' => ∃ v, e = .returned v ∧ Sl Fl.enc 3 w0 v (atG G x z) ∧ New w w' := by
  have KW := Lib.hid (fun n lo hi W => og_within n lo hi W)
  have HH : Hid (RowsK Fl.enc 3 w0 (.slice G.ga G.L.length G.gc) G.L) := Lib.hid h
  have hb := placeB_iff.1 (gd_is hE).1
  have K1 := fun W => KW.out x G.x (G.x + G.w - 1) W
  have K2 := fun W => KW.out z G.z (G.z + G.d - 1) W
  have hxa : IntKind.i64.wrap (G.x + G.w) = G.x + G.w := IntWalk.i64_in _ (by omega)
  have hxb : IntKind.i64.wrap (G.x + G.w - 1) = G.x + G.w - 1 := IntWalk.i64_in _ (by omega)
  have hza : IntKind.i64.wrap (G.z + G.d) = G.z + G.d := IntWalk.i64_in _ (by omega)
  have hzb : IntKind.i64.wrap (G.z + G.d - 1) = G.z + G.d - 1 := IntWalk.i64_in _ (by omega)
  have hin : inG G x z = (wiB x G.x (G.x + G.w - 1) && wiB z G.z (G.z + G.d - 1)) := rfl
  have HI := Lib.hid (fun q => (ixG_is hE (x := x) (z := z) q : _))
  have HQ := Lib.hid (fun q => (inG_iff (G := G) (x := x) (z := z)).1 q)
  have HB := Lib.hid hb
  obtain ⟨n, hn⟩ : ∃ n, n = G.L.length := ⟨_, rfl⟩
  rw [← hn] at HH ⊢
  have HN := Lib.hid hn
  obtain ⟨ga, hga⟩ : ∃ q, q = G.ga := ⟨_, rfl⟩
  rw [← hga] at HH ⊢
  clear hn h KW hb hga
  cases h1 : wiB x G.x (G.x + G.w - 1)
  · have HO : Hid (atG G x z = []) := Lib.hid (atG_out (by rw [hin, h1]; rfl))
    rw [h1] at K1
    clear hin h1
    go_enter Tryz.func45, Tryz.ntmps45
    go_wp2_with fail
    refine (K1 _).mono ?_
    rintro e w2 ⟨rfl, rfl⟩
    go_wp2_with fail
    go_ret
    exact ⟨_, rfl, by rw [HO.out]; exact Sl.nil, by (repeat (first | (with_reducible exact New.refl _) | (with_reducible assumption) | ((with_reducible refine New.setB ?_ ?_ _); focus (first | omega | (simp; omega) | (simp; done))) | (with_reducible refine New.alloc ?_ _) | (with_reducible refine New.drew ?_) | (with_reducible refine New.drewN ?_ _) | (with_reducible refine New.hat ?_ _) | ((with_reducible apply New.snart); (with_reducible assumption))))⟩
  cases h2 : wiB z G.z (G.z + G.d - 1)
  · have HO : Hid (atG G x z = []) := Lib.hid (atG_out (by rw [hin, h1, h2]; rfl))
    rw [h1] at K1
    rw [h2] at K2
    clear hin h1 h2
    go_enter Tryz.func45, Tryz.ntmps45
    go_wp2_with fail
    refine (K1 _).mono ?_
    rintro e w2 ⟨rfl, rfl⟩
    go_wp2_with fail
    refine (K2 _).mono ?_
    rintro e w2 ⟨rfl, rfl⟩
    go_wp2_with fail
    go_ret
    exact ⟨_, rfl, by rw [HO.out]; exact Sl.nil, by (repeat (first | (with_reducible exact New.refl _) | (with_reducible assumption) | ((with_reducible refine New.setB ?_ ?_ _); focus (first | omega | (simp; omega) | (simp; done))) | (with_reducible refine New.alloc ?_ _) | (with_reducible refine New.drew ?_) | (with_reducible refine New.drewN ?_ _) | (with_reducible refine New.hat ?_ _) | ((with_reducible apply New.snart); (with_reducible assumption))))⟩
  have hq : inG G x z = true := by rw [hin, h1, h2]; rfl
  have HO := Lib.hid (atG_in hE hq)
  rw [h1] at K1
  rw [h2] at K2
  clear hin h1 h2
  obtain ⟨i1, i2, i3, i4⟩ := HI.out hq
  have hr := HQ.out hq
  have hb := HB.out
  have hs1 : IntKind.i64.wrap (z - G.z) = z - G.z := IntWalk.i64_in _ (by omega)
  have hs2 : IntKind.i64.wrap ((z - G.z) * G.w) = (z - G.z) * G.w := IntWalk.i64_in _ (by omega)
  have hs3 : IntKind.i64.wrap ((z - G.z) * G.w + x) = (z - G.z) * G.w + x := IntWalk.i64_in _ (by omega)
  have hs4 : IntKind.i64.wrap ((z - G.z) * G.w + x - G.x) = (ixG G x z : Int) := by rw [IntWalk.i64_in _ (by omega)]; omega
  obtain ⟨b, off, a, c, rfl, hc, hs⟩ := HH.out.at (ixG G x z) i4
  have hkn : ixG G x z < n := by rw [HN.out]; exact i4
  have hO := HO.out
  obtain ⟨l, hl⟩ : ∃ l, l = G.L[ixG G x z] := ⟨_, rfl⟩
  rw [← hl] at hc hs hO
  have HS := Lib.hid hs
  replace hc := hn0.keep hc
  have hbz : b < w.heap.size := World.block_lt_of_cell? _ _ hc
  have HO2 := Lib.hid hO
  obtain ⟨m, hm⟩ : ∃ m, m = l.length := ⟨_, rfl⟩
  rw [← hm] at hc HS
  clear hl hs hO HO HI HQ HB i1 i2 i3 i4 hr hb hq HH hm
  generalize ixG G x z = k at *
  go_enter Tryz.func45, Tryz.ntmps45
  go_wp2_with fail
  refine (K1 _).mono ?_
  rintro e w2 ⟨rfl, rfl⟩
  go_wp2_with fail
  refine (K2 _).mono ?_
  rintro e w2 ⟨rfl, rfl⟩
  go_wp2_with fail
  go_ret
  exact ⟨_, rfl, by rw [HO2.out]; exact HS.out, by (repeat (first | (with_reducible exact New.refl _) | (with_reducible assumption) | ((with_reducible refine New.setB ?_ ?_ _); focus (first | omega | (simp; omega) | (simp; done))) | (with_reducible refine New.alloc ?_ _) | (with_reducible refine New.drew ?_) | (with_reducible refine New.drewN ?_ _) | (with_reducible refine New.hat ?_ _) | ((with_reducible apply New.snart); (with_reducible assumption))))⟩

theorem og_at (G : Gd) (hE : gE G = 0) (x z : Int) (w : World) (h : G.ok w) : Calls Tryz.prog 45 #[.agg #[.int .i64 G.x, .int .i64 G.z, .int .i64 G.w, .int .i64 G.d, .slice G.ga G.L.length G.gc], .int .i64 x, .int .i64 z] w fun e w' => ∃ v, e = .returned v ∧ Sl Fl.enc 3 w' v (atG G x z) ∧ New w w' :=
  (og_at0 G hE x z w w (New.refl w) h).mono fun e w' ⟨v, he, hs, n⟩ => ⟨v, he, hs.keep n, n⟩

end Go.Proofs.YtdbhlepbaepngaaGreatDoor

/- append(s, x...), s an own row, x any slice that holds rows. No function of the program in sight. -/
namespace Go.Proofs.YtdbhlepbaepngaaGreatDoor
open Go.RowKit
set_option linter.unusedVariables false

theorem wpList_append_sl {P : Program} {ops : Array Oper} {rest : List Oper} {o : Oper} {a : Act} {w : World} {Q : Exit → Act → World → Prop} (hgd : o.guard = none) (s x : Operand) (t : TypeId)
    (ho : o.op = .call { callee := .builtin .append, args := #[s, x], argTypes := #[t, t] })
    {α : Type} {enc : α → List Value} {k : Nat} (hk : ∀ a, (enc a).length = k) (h1 : ∀ a, ∀ u ∈ enc a, u.oneCell' = true)
    (base : Nat) (e : TypeId) (i : TypeInfo) (z : Value) (bytes : Nat) (ht : P.underlying t = some (.slice e)) (hi : P.info? e = some i) (hz : i.zero = some z)
    (hsize : i.size = k) (hby : i.bytes = bytes) (hzs : z.cells.size = k) (hsz : 0 < k)
    (v : Value) (l : List α) (hs : a.eval s = v) (hown : w.ownsRow base e k v l.length (l.flatMap enc))
    (u : Value) (m : List α) (hx : a.eval x = u) (hm : Sl enc k w u m)
    (h63 : l.length + m.length ≤ maxLen) (hbytes : (l.length + m.length) * bytes ≤ 140737488355328) (hbase : base ≤ w.heap.size)
    (h : ∀ v' w', w'.ownsRow base e k v' (l ++ m).length ((l ++ m).flatMap enc) → (∀ a0, New a0 w → a0.heap.size ≤ base → New a0 w') → (∀ b, b < base → w'.heap[b]? = w.heap[b]?) → wpList P ops Q rest (a.put o.dst v') w') : wpList P ops Q (o :: rest) a w := by
  obtain ⟨at0, c, rfl, hc, hcm, hnone, hrow⟩ := hm
  cases at0 with
  | none =>
    have hc0 := hnone rfl
    have hm0 : m = [] := List.eq_nil_of_length_eq_zero (by omega)
    subst hm0
    rw [hc0] at hx
    exact Lib.wpList_append_run w hgd s x t t ho _ _ hs hx _ _ (run_append_owned_none (P := P) w base t o.type e i k ht hi _ _ _ hown) (h _ _ (by simpa using hown) (fun _ h _ => h) (fun _ _ => rfl))
  | some ad =>
    refine wpList_append_own w hgd s x t ho base e i z k bytes ht hi hz hsize hby hzs hsz v l.length (l.flatMap enc) hs hown ad m.length c (m.flatMap enc) hx (flatMap_len hk m) (sl_news hk ⟨some ad, c, rfl, hc, hcm, hnone, hrow⟩) (by intro u hu; obtain ⟨y, _, hy⟩ := List.mem_flatMap.1 hu; exact h1 y u hy) h63 hbytes hbase (fun v' w' h2 h3 _ => ?_)
    refine h v' w' (by rw [List.length_append, List.flatMap_append]; exact h2) (fun a0 hn hb => newGrown hn h3 (fun j hj => Nat.le_trans hb (own_block hown j hj))) (fun b hb => h3.block b (by omega) (fun e => by have := own_block hown b e.symm; omega))

theorem cell_block {w w' : World} {b : Nat} (h : w'.heap[b]? = w.heap[b]?) {o : Nat} {v : Value} (hc : w.cell? ⟨b, o, none⟩ = some v) : w'.cell? ⟨b, o, none⟩ = some v := by
  unfold World.cell? at hc ⊢
  rw [h]; exact hc
theorem frozen_block {w w' : World} {b : Nat} (h : w'.heap[b]? = w.heap[b]?) {o : Nat} {f : Bool} (hc : w.frozen? ⟨b, o, none⟩ = f) : w'.frozen? ⟨b, o, none⟩ = f := by
  unfold World.frozen? at hc ⊢
  rw [h]; exact hc

/-- What is told of a region's operations: the first ones have these values, of the others P holds. -/
def fixV : List Value → (World → Value → Prop) → Nat → World → Value → Prop
  | [], P, _, w, v => P w v
  | c :: _, _, 0, _, v => v = c
  | _ :: cs, P, i + 1, w, v => fixV cs P i w v
theorem fixV_keep {P : World → Value → Prop} (hP : ∀ w w' v, P w v → New w w' → P w' v) : ∀ (cs : List Value) (i : Nat) (w w' : World) (v : Value), fixV cs P i w v → New w w' → fixV cs P i w' v
  | [], _, w, w', v, h, n => hP w w' v h n
  | _ :: _, 0, _, _, _, h, _ => h
  | _ :: cs, i + 1, w, w', v, h, n => fixV_keep hP cs i w w' v h n
theorem own_shape2 {w : World} {base size : Nat} {e : TypeId} {v : Value} {n : Nat} {xs : List Value} (h : w.ownsRow base e size v n xs) : ∃ a c N, N = n ∧ v = .slice a N c := by
  rcases h.2 with ⟨rfl, rfl⟩ | ⟨g, cap, cur, rfl, _⟩
  · exact ⟨_, _, _, rfl, rfl⟩
  · exact ⟨_, _, _, rfl, rfl⟩
theorem cell_lt {w : World} {b o : Nat} {v : Value} (h : w.cell? ⟨b, o, none⟩ = some v) : b < w.heap.size := World.block_lt_of_cell? _ _ h

section
variable {α : Type}
/-- A row on its way to having x put in at p. -/
def mid (l : List α) (p : Nat) (x : α) (m : Nat) : List α := if m ≤ p then l.take m else l.take p ++ [x] ++ (l.drop p).take (m - p)
theorem mid_zero (l : List α) (p : Nat) (x : α) : mid l p x 0 = [] := by unfold mid; simp
theorem mid_lo {l : List α} {p : Nat} {x : α} {m : Nat} (h : m < p) (hl : m < l.length) : mid l p x (m + 1) = mid l p x m ++ [l[m]] := by
  unfold mid
  rw [if_pos (by omega), if_pos (by omega), List.take_succ_eq_append_getElem hl]
theorem mid_at {l : List α} {p : Nat} {x : α} (hl : p < l.length) : mid l p x (p + 1) = mid l p x p ++ [x] ++ [l[p]] := by
  unfold mid
  rw [if_neg (by omega), if_pos (Nat.le_refl _), show p + 1 - p = 0 + 1 by omega, List.take_succ_eq_append_getElem (by simp; omega)]
  simp
theorem mid_hi {l : List α} {p : Nat} {x : α} {m : Nat} (h : p < m) (hl : m < l.length) : mid l p x (m + 1) = mid l p x m ++ [l[m]] := by
  unfold mid
  rw [if_neg (by omega), if_neg (by omega), show m + 1 - p = (m - p) + 1 by omega, List.take_succ_eq_append_getElem (by simp; omega)]
  simp only [List.append_assoc]
  congr 3
  rw [List.getElem_drop]
  congr 2
  omega
theorem mid_end {l : List α} {p : Nat} {x : α} (hl : p < l.length) : mid l p x l.length = l.take p ++ [x] ++ l.drop p := by
  unfold mid
  rw [if_neg (by omega)]
  congr 1
  exact List.take_of_length_le (by simp)
theorem mid_full {l : List α} {x : α} : mid l l.length x l.length = l := by
  unfold mid
  rw [if_pos (Nat.le_refl _), List.take_length]
theorem mid_len {l : List α} {p : Nat} {x : α} {m : Nat} : (mid l p x m).length ≤ m + 1 := by
  unfold mid
  split
  · simp; omega
  · simp; omega
end

end Go.Proofs.YtdbhlepbaepngaaGreatDoor

/- Package open: floors and where they are; stands. -/
namespace Go.Proofs.YtdbhlepbaepngaaGreatDoor
open Go.RowKit
set_option linter.unusedVariables false

/-- A floor, and where it is. -/
structure St where
  (x z y : Int)
  f : Fl
instance : Inhabited St := ⟨⟨0, 0, 0, Fl.zero⟩⟩
def St.enc (s : St) : List Value := #[.int .i64 s.x, .int .i64 s.z, .int .i64 s.y, .int .i64 s.f.y, .int .i64 s.f.top, .int .i64 s.f.area].toList
theorem St.enc_len (s : St) : s.enc.length = 6 := rfl
theorem St.enc_one (x : St) : ∀ u ∈ x.enc, u.oneCell' = true := by
  intro u hu
  simp [St.enc] at hu
  rcases hu with rfl | rfl | rfl | rfl | rfl | rfl <;> rfl
theorem St.cells {w : World} {b off : Nat} {l : List St} (H : RowAt St.enc 6 w b off l) (j : Nat) (h : j < l.length) :
    w.cell? ⟨b, off + j * 6, none⟩ = some (.int .i64 l[j].x) ∧ w.cell? ⟨b, off + j * 6 + 1, none⟩ = some (.int .i64 l[j].z) ∧ w.cell? ⟨b, off + j * 6 + 2, none⟩ = some (.int .i64 l[j].y) ∧ w.cell? ⟨b, off + j * 6 + 3, none⟩ = some (.int .i64 l[j].f.y) ∧ w.cell? ⟨b, off + j * 6 + 4, none⟩ = some (.int .i64 l[j].f.top) ∧ w.cell? ⟨b, off + j * 6 + 5, none⟩ = some (.int .i64 l[j].f.area) :=
  ⟨H j h 0 (by rw [St.enc_len]; omega), H j h 1 (by rw [St.enc_len]; omega), H j h 2 (by rw [St.enc_len]; omega), H j h 3 (by rw [St.enc_len]; omega), H j h 4 (by rw [St.enc_len]; omega), H j h 5 (by rw [St.enc_len]; omega)⟩
/-- One in a block of its own. -/
theorem st_new (w : World) (s : St) (t : TypeId) : Sl St.enc 6 (w.alloc (.cells #[.int .i64 s.x, .int .i64 s.z, .int .i64 s.y, .int .i64 s.f.y, .int .i64 s.f.top, .int .i64 s.f.area] t)) (.slice (some ⟨w.heap.size, 0, none⟩) 1 1) [s] :=
  ⟨_, _, rfl, Nat.le_refl _, by unfold maxLen; omega, fun h => (by cases h), fun _ => ⟨w.heap.size, 0, rfl, fun j hj i hi => by
    have hj' : j = 0 := by simpa using hj
    subst hj'
    have hi' : i < 6 := hi
    have hz := heap_new w (.cells #[.int .i64 s.x, .int .i64 s.z, .int .i64 s.y, .int .i64 s.f.y, .int .i64 s.f.top, .int .i64 s.f.area] t)
    rcases (show i = 0 ∨ i = 1 ∨ i = 2 ∨ i = 3 ∨ i = 4 ∨ i = 5 by omega) with rfl | rfl | rfl | rfl | rfl | rfl <;> exact cell_of_heap hz rfl⟩⟩

/-! Plain: all floors, column by column. -/
def stOf (G : Gd) (i : Nat) (f : Fl) : St := ⟨G.x + ((i % G.w.toNat : Nat) : Int), G.z + ((i / G.w.toNat : Nat) : Int), f.y, f⟩
def gcol (G : Gd) (i : Nat) : List Fl := (G.L[i]?).getD []
theorem gcol_at {G : Gd} {i : Nat} (h : i < G.L.length) : gcol G i = G.L[i] := by unfold gcol; rw [List.getElem?_eq_getElem h]; rfl
/-- The floors of the first n columns. -/
def stTo (G : Gd) (n : Nat) : List St := (List.range n).flatMap fun i => (gcol G i).map (stOf G i)
theorem stTo_succ (G : Gd) (n : Nat) : stTo G (n + 1) = stTo G n ++ (gcol G n).map (stOf G n) := by
  unfold stTo
  rw [List.range_succ, List.flatMap_append]
  simp
/-- .. and of the next one the first k. -/
def stAt (G : Gd) (n k : Nat) : List St := stTo G n ++ ((gcol G n).take k).map (stOf G n)
theorem stAt_zero (G : Gd) (n : Nat) : stAt G n 0 = stTo G n := by unfold stAt; simp
theorem stAt_succ {G : Gd} {n k : Nat} (h : k < (gcol G n).length) : stAt G n (k + 1) = stAt G n k ++ [stOf G n (gcol G n)[k]] := by
  unfold stAt
  rw [List.take_succ_eq_append_getElem h, List.map_append, List.append_assoc]
  rfl
theorem stAt_all {G : Gd} {n k : Nat} (h : (gcol G n).length ≤ k) : stAt G n k = stTo G (n + 1) := by
  unfold stAt
  rw [List.take_of_length_le h, stTo_succ]
def allG (G : Gd) : List St := stTo G G.L.length
theorem gcol_len {G : Gd} (hE : gE G = 0) (i : Nat) : (gcol G i).length ≤ 8 := by
  by_cases h : i < G.L.length
  · rw [gcol_at h]; exact riseB_len ((gd_is hE).2.2 i h)
  · unfold gcol; rw [List.getElem?_eq_none (by omega)]; simp
theorem stTo_len {G : Gd} (hE : gE G = 0) : ∀ n, (stTo G n).length ≤ 8 * n
  | 0 => by unfold stTo; simp
  | n + 1 => by
    rw [stTo_succ, List.length_append, List.length_map]
    have h1 := stTo_len hE n
    have h2 := gcol_len hE n
    omega
theorem stAt_len {G : Gd} (hE : gE G = 0) (n k : Nat) : (stAt G n k).length ≤ 8 * n + 8 := by
  unfold stAt
  rw [List.length_append, List.length_map, List.length_take]
  have h1 := stTo_len hE n
  have h2 := gcol_len hE n
  omega

theorem st_info : (Tryz.prog.info? 72).map (fun i => (i.zero, i.size, i.bytes)) = some (some (.agg #[.int .i64 0, .int .i64 0, .int .i64 0, .int .i64 0, .int .i64 0, .int .i64 0]), 6, 48) := by kernel_rfl

/-- Where the loops stand. -/
theorem gd_step {G : Gd} (hE : gE G = 0) {a b : Nat} (ha : (a : Int) < G.d) (hb : (b : Int) < G.w) : inG G (G.x + b) (G.z + a) = true ∧ ixG G (G.x + b) (G.z + a) = a * G.w.toNat + b ∧ a * G.w.toNat + b < G.L.length ∧ (a * G.w.toNat + b) % G.w.toNat = b ∧ (a * G.w.toNat + b) / G.w.toNat = a := by
  have hb' := placeB_iff.1 (gd_is hE).1
  have hin : inG G (G.x + b) (G.z + a) = true := inG_iff.2 (by omega)
  obtain ⟨h1, h2, h3, h4⟩ := ixG_is hE hin
  have e1 : G.z + (a : Int) - G.z = a := by omega
  have e2 : G.x + (b : Int) - G.x = b := by omega
  rw [e1, e2] at h3
  obtain ⟨n, hn⟩ : ∃ n : Nat, G.w = n := ⟨G.w.toNat, by omega⟩
  have hx : ixG G (G.x + b) (G.z + a) = a * G.w.toNat + b := by
    rw [hn] at h3 ⊢
    have : ((ixG G (G.x + b) (G.z + a) : Nat) : Int) = ((a * n + b : Nat) : Int) := by rw [h3]; push_cast; rfl
    simpa using Int.ofNat.inj this
  refine ⟨hin, hx, by rw [← hx]; exact h4, ?_, ?_⟩
  · rw [Nat.mul_comm, Nat.mul_add_mod, Nat.mod_eq_of_lt (by omega)]
  · rw [Nat.mul_comm, Nat.mul_add_div (by omega), Nat.div_eq_of_lt (by omega), Nat.add_zero]

end Go.Proofs.YtdbhlepbaepngaaGreatDoor
