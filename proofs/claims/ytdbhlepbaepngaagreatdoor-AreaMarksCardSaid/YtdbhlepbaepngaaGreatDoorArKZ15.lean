import Derived.Test.YtdbhlepbaepngaaGreatDoorArFZ15
import Derived.Test.YtdbhlepbaepngaaGreatDoorArDZ15
import Derived.Test.YtdbhlepbaepngaaGreatDoorOgMZ15

/- Package area: Count. -/
namespace Go.Proofs.YtdbhlepbaepngaaGreatDoor
open Go.RowKit Go.Shelf Go.Sort
set_option linter.unusedVariables false
attribute [local go_sem] Oper.semAt_some

/-- How many of these floors have area a. -/
def cntS (L : List St) (a : Nat) : Int := ((L.filter fun s => s.f.area == (a : Int)).length : Nat)
theorem cntS_nil (a : Nat) : cntS [] a = 0 := rfl
theorem cntS_snoc (L : List St) (s : St) (a : Nat) : cntS (L ++ [s]) a = if s.f.area = (a : Int) then cntS L a + 1 else cntS L a := by
  unfold cntS
  rw [List.filter_append]
  by_cases h : s.f.area = (a : Int)
  · rw [if_pos h]; simp [h]
  · rw [if_neg h]; simp [h]
theorem cntS_le (L : List St) (a : Nat) : 0 ≤ cntS L a ∧ cntS L a ≤ L.length := by
  unfold cntS
  have := List.length_filter_le (fun s : St => s.f.area == (a : Int)) L
  omega
/-- The counts, as they lie. -/
def cntV (c : Nat → Int) : Array Value := #[.int .i64 (c 0), .int .i64 (c 1), .int .i64 (c 2), .int .i64 (c 3), .int .i64 (c 4), .int .i64 (c 5), .int .i64 (c 6), .int .i64 (c 7)]
theorem cntV_at (c : Nat → Int) {a : Nat} (h : a < 8) : (cntV c)[a]? = some (.int .i64 (c a)) := by
  rcases (show a = 0 ∨ a = 1 ∨ a = 2 ∨ a = 3 ∨ a = 4 ∨ a = 5 ∨ a = 6 ∨ a = 7 by omega) with rfl | rfl | rfl | rfl | rfl | rfl | rfl | rfl <;> rfl
theorem cntV_set (c d : Nat → Int) {a : Nat} (h : a < 8) (e : ∀ b, b < 8 → d b = if a = b then c a + 1 else c b) : (cntV c).setIfInBounds a (.int .i64 (c a + 1)) = cntV d := by
  have e0 := e 0 (by omega)
  have e1 := e 1 (by omega)
  have e2 := e 2 (by omega)
  have e3 := e 3 (by omega)
  have e4 := e 4 (by omega)
  have e5 := e 5 (by omega)
  have e6 := e 6 (by omega)
  have e7 := e 7 (by omega)
  unfold cntV
  rw [e0, e1, e2, e3, e4, e5, e6, e7]
  rcases (show a = 0 ∨ a = 1 ∨ a = 2 ∨ a = 3 ∨ a = 4 ∨ a = 5 ∨ a = 6 ∨ a = 7 by omega) with rfl | rfl | rfl | rfl | rfl | rfl | rfl | rfl <;> rfl
/-- Areas that are gone over may be. -/
theorem st_area {G : Gd} (hE : gE G = 0) {s : St} (h : s ∈ allG G) : 0 ≤ s.f.area ∧ s.f.area ≤ 7 := by
  obtain ⟨i, f, hi, hf, rfl⟩ := st_mem hE h
  rw [gcol_at hi] at hf
  have hr := (gd_is hE).2.2 i hi
  obtain ⟨k, hk, rfl⟩ := List.getElem_of_mem hf
  unfold riseB at hr
  simp only [Bool.and_eq_true, List.all_eq_true] at hr
  have h2 := hr.2 k (List.mem_range.2 hk)
  rw [okAt_at hk] at h2
  unfold okF at h2
  simp only [Bool.and_eq_true, wiB_iff] at h2
  exact h2.2.2
theorem colG_fine (G : Gd) : gE (colG G) = 0 := colG_E G

set_option maxHeartbeats 8000000 in
set_option maxRecDepth 100000 in
theorem ar_Count (G : Gd) (w : World) (hG : G.ok w) :
    Calls Tryz.prog 9 #[.agg #[.int .i64 G.x, .int .i64 G.z, .int .i64 G.w, .int .i64 G.d, .slice G.ga G.L.length G.gc]] w fun e w' => e = .returned (.agg (cntV (cntS (allG (colG G))))) ∧ New w w' := by
  have KA := Lib.hid (fun W n => og_All G W (hG.keep (n : New w W)))
  have HL1 := Lib.hid (allG_small (colG_E G))
  have HAR := Lib.hid (fun s (h : s ∈ allG (colG G)) => st_area (colG_E G) h)
  obtain ⟨S, hS⟩ : ∃ S, S = allG (colG G) := ⟨_, rfl⟩
  rw [← hS] at KA HL1 HAR ⊢
  obtain ⟨n, hn⟩ : ∃ q, q = G.L.length := ⟨_, rfl⟩
  rw [← hn] at KA ⊢
  clear hn hS hG
  refine (callsIn_wide (n := 9)).1 ?_
  refine callsIn_of_wp_marks Tryz.func9 rfl trivial ?_ rfl
  simp only [Tryz.ntmps9, List.size_toArray, List.length_cons, List.length_nil, Nat.reduceAdd, Nat.reduceSub, Array.replicate_succ, Array.replicate_zero, List.push_toArray, List.append_toArray, List.nil_append, List.cons_append]
  refine wpIn_wide.2 ?_
  go_upto_region 2 with fail
  refine Code.at (fun W0 hW => ?_)
  have n0 : New w W0 := by subst hW; (repeat (first | (with_reducible exact New.refl _) | (with_reducible assumption) | ((with_reducible refine New.setB ?_ ?_ _); focus (first | omega | (simp; omega) | (simp; done))) | (with_reducible refine New.alloc ?_ _) | (with_reducible refine New.drew ?_) | (with_reducible refine New.drewN ?_ _) | (with_reducible refine New.hat ?_ _) | ((with_reducible apply New.snart); (with_reducible assumption))))
  have z0 : W0.heap.size = w.heap.size + 3 := by subst hW; simp
  have bg : W0.heap[w.heap.size]? = some (.cells #[.int .i64 G.x, .int .i64 G.z, .int .i64 G.w, .int .i64 G.d, .slice G.ga n G.gc] 26 (0, 0)) := by
    subst hW
    exact (((New.refl _).alloc _).alloc _).stays (World.alloc_heap_new w _)
  have br : Thr W0 (w.heap.size + 1) 8 := by
    subst hW
    have h := (Thr.new (w.alloc (.cells #[.int .i64 G.x, .int .i64 G.z, .int .i64 G.w, .int .i64 G.d, .slice G.ga n G.gc] 26)) #[.int .i64 0, .int .i64 0, .int .i64 0, .int .i64 0, .int .i64 0, .int .i64 0, .int .i64 0, .int .i64 0] 34 (w.heap.size + 1) (World.size_alloc _ _))
    exact h.keep (by (repeat (first | (with_reducible exact New.refl _) | (with_reducible assumption) | ((with_reducible refine New.setB ?_ ?_ _); focus (first | omega | (simp; omega) | (simp; done))) | (with_reducible refine New.alloc ?_ _) | (with_reducible refine New.drew ?_) | (with_reducible refine New.drewN ?_ _) | (with_reducible refine New.hat ?_ _) | ((with_reducible apply New.snart); (with_reducible assumption)))))
  have bn : W0.heap[w.heap.size + 1 + 1]? = some (.cells (cntV (cntS [])) 34 (0, 0)) := by
    subst hW
    have h := World.alloc_heap_new ((w.alloc (.cells #[.int .i64 G.x, .int .i64 G.z, .int .i64 G.w, .int .i64 G.d, .slice G.ga n G.gc] 26)).alloc (.cells #[.int .i64 0, .int .i64 0, .int .i64 0, .int .i64 0, .int .i64 0, .int .i64 0, .int .i64 0, .int .i64 0] 34)) (.cells #[.int .i64 0, .int .i64 0, .int .i64 0, .int .i64 0, .int .i64 0, .int .i64 0, .int .i64 0, .int .i64 0] 34)
    rw [World.size_alloc, World.size_alloc] at h
    exact h
  clear hW
  have g0 := cell_of_heap (o := 0) (v := .int .i64 G.x) bg rfl
  have g1 := cell_of_heap (o := 1) (v := .int .i64 G.z) bg rfl
  have g2 := cell_of_heap (o := 2) (v := .int .i64 G.w) bg rfl
  have g3 := cell_of_heap (o := 3) (v := .int .i64 G.d) bg rfl
  have g4 := cell_of_heap (o := 4) (v := .slice G.ga n G.gc) bg rfl
  clear bg
  obtain ⟨Br, hBr⟩ : ∃ q, q = w.heap.size + 1 := ⟨_, rfl⟩
  obtain ⟨N, hN⟩ : ∃ q, q = w.heap.size + 1 + 1 := ⟨_, rfl⟩
  rw [← hN] at bn
  rw [← hBr] at br
  rw [← hN, ← hBr]
  have HB := Lib.hid (And.intro hBr (And.intro hN z0))
  clear hBr hN z0
  go_wp2_with fail
  refine (KA.out _ n0).mono ?_
  rintro e W6 ⟨n6, B, at1, cap1, rfl, hSt, hSb⟩
  clear g0 g1 g2 g3 g4 KA
  have HN6 := Lib.hid (n0.trans n6)
  have bn6 := New.stays n6 bn
  have br6 := br.keep n6
  have hSlt := hSt.in_lt
  have hL1 := HL1.out
  have HSeq := Lib.hid (og_all1 at1 S cap1 B hL1 8 (by omega) W6 hSt)
  have hn6 := n6.size
  have HSB := Lib.hid hSb
  have HBR := Lib.hid br6
  have hNlt : N < W6.heap.size := (Array.getElem?_eq_some_iff.1 bn6).1
  clear n0 n6 bn br hSt hSb br6
  obtain ⟨n0, hn0⟩ : ∃ q, q = W6.heap.size := ⟨_, rfl⟩
  rw [← hn0] at hSlt hNlt
  have HN0 := Lib.hid hn0
  clear hn0 hn6
  go_wp2_with fail
  refine (wpIn_wide (n := 9)).1 ?_
  refine wpIn_act2 fun A hA => ?_
  refine wpIn_rangeL rfl (by omega) (gf := 31) (lb := #[.pointer (some ⟨B, 0, none⟩)]) (by rw [hA]; rfl) trivial (enters_of Tryz.func31 (by kernel_rfl) rfl) HSeq.out (fun h k => h.trans k)
    (fun U o hr => fun b hb => World.putObj_heap_other (by have := hSlt b hb; have := HN0.out; omega)) (Below.refl _ _) (fun _ => rfl)
    (fun i' U => Bar n0 N W6 U ∧ (Below w.heap.size w U ∧ U.heap[N]? = some (.cells (cntV (cntS (S.take i'))) 34 (0, 0))))
    (fun _ _ _ => False)
    (OwnFrom.and (Bar.own (Nat.le_of_eq HN0.out)) (OwnFrom.and (ownFrom_below (Nat.le_refl _) HN6.out.size) (fun i' X Y row hs hg hr => own_blk (β := Unit) N _ () X Y row hs hg hr)))
    (fun _ _ _ _ _ hs _ _ => hs)
    ⟨Bar.refl (Nat.le_of_eq HN0.out), HN6.out, by rw [List.take_zero]; exact bn6⟩
    (fun i' a' U => ∃ (s : St) (Q2 : Nat), S[i']? = some s ∧ n0 ≤ Q2 ∧ U.heap[Q2]? = some (.cells #[.int .i64 s.f.y, .int .i64 s.f.top, .int .i64 s.f.area] 39 (0, 0)) ∧ a' = { tmps := ((A.tmps.setIfInBounds 8 (.agg #[.int .i64 s.x, .int .i64 s.z, .int .i64 s.y])).setIfInBounds 9 (.agg #[.int .i64 s.f.y, .int .i64 s.f.top, .int .i64 s.f.area])).setIfInBounds 5 (.pointer (some ⟨Q2, 0, none⟩)), defers := [] })
    ?hAx ?assign ?body ?done ?stop
  case hAx =>
    rintro i' a' _ X Y row ⟨s, Q2, h1, h2, h5, rfl⟩ hg hr
    exact ⟨s, Q2, h1, h2, own_blk (β := Unit) Q2 _ () X Y row h5 hg hr, rfl⟩
  case assign =>
    intro i' hi' U K hI hK
    generalize hkk : S[i'] = s
    simp only [stA]
    rw [hA]
    simp only [List.zip_toArray, List.zip_cons_cons, List.zip_nil_right, List.foldl_toArray', List.foldl_cons, List.foldl_nil, List.setIfInBounds_toArray, List.set_cons_succ, List.set_cons_zero, List.size_toArray, List.length_cons, List.length_nil]
    gi_wp2
    obtain ⟨hBr, hB, hcn⟩ := hI
    obtain ⟨Q2, hQ2⟩ : ∃ q, q = U.heap.size := ⟨_, rfl⟩
    have nU : New U (U.alloc (.cells #[.int .i64 s.f.y, .int .i64 s.f.top, .int .i64 s.f.area] 39)) := by (repeat (first | (with_reducible exact New.refl _) | (with_reducible assumption) | ((with_reducible refine New.setB ?_ ?_ _); focus (first | omega | (simp; omega) | (simp; done))) | (with_reducible refine New.alloc ?_ _) | (with_reducible refine New.drew ?_) | (with_reducible refine New.drewN ?_ _) | (with_reducible refine New.hat ?_ _) | ((with_reducible apply New.snart); (with_reducible assumption))))
    have q2 : (U.alloc (.cells #[.int .i64 s.f.y, .int .i64 s.f.top, .int .i64 s.f.area] 39)).heap[U.heap.size]? = some (.cells #[.int .i64 s.f.y, .int .i64 s.f.top, .int .i64 s.f.area] 39 (0, 0)) := World.alloc_heap_new U _
    rw [← hQ2] at q2
    rw [← hQ2]
    have hBs := hB.size
    have hBr1 := hBr.1
    exact hK _ _ (keepsFrom_new nU) (KeepS.new (fun b hb => by have := hSlt b hb; omega) nU) ⟨hBr.new nU, New.trans (show New w U from hB) nU, New.stays nU hcn⟩ ⟨s, Q2, by rw [List.getElem?_eq_getElem hi', hkk], by omega, q2, by rw [hA]; simp only [List.setIfInBounds_toArray, List.set_cons_succ, List.set_cons_zero]⟩
  case body =>
    rintro i' hi' a' U - ⟨hBr, hB, hcn⟩ ⟨s, Q2, hs, hq2, q2, rfl⟩
    rw [hA]
    simp only [List.setIfInBounds_toArray, List.set_cons_succ, List.set_cons_zero]
    have hsi : S[i'] = s := by rw [List.getElem?_eq_getElem hi'] at hs; exact Option.some.inj hs
    have hsm : s ∈ S := by rw [← hsi]; exact List.getElem_mem hi'
    have htk : S.take (i' + 1) = S.take i' ++ [s] := by rw [List.take_succ_eq_append_getElem hi', hsi]
    obtain ⟨a0, a7⟩ := HAR.out s hsm
    obtain ⟨ar, har⟩ : ∃ ar : Nat, s.f.area = (ar : Int) := ⟨s.f.area.toNat, by omega⟩
    have har8 : ar < 8 := by omega
    have y2 : U.cell? ⟨Q2, 2, none⟩ = some (.int .i64 ar) := by rw [← har]; exact cell_of_heap q2 rfl
    have cN : U.cell? ⟨N, ar, none⟩ = some (.int .i64 (cntS (S.take i') ar)) := cell_of_heap hcn (cntV_at _ har8)
    have fN : U.frozen? ⟨N, ar, none⟩ = false := frozen_of_heap hcn
    obtain ⟨c1, c2⟩ := cntS_le (S.take i') ar
    have hlt := List.length_take_le i' S
    have hL1 := HL1.out
    have htl : (S.take i').length ≤ 100000 := by rw [List.length_take]; omega
    have hw1 : IntKind.i64.wrap (cntS (S.take i') ar + 1) = cntS (S.take i') ar + 1 := IntWalk.i64_in _ (by omega)
    have hs2 := heap_setCell_same U N ar _ _ (.int .i64 (cntS (S.take i') ar + 1)) hcn
    rw [cntV_set _ (cntS (S.take (i' + 1))) har8 (fun b hb => by rw [htk, cntS_snoc, har]; by_cases e : ar = b; (· subst e; rw [if_pos rfl, if_pos rfl]); (· rw [if_neg e, if_neg (by omega)]))] at hs2
    have hne : N ≠ Q2 := by omega
    have hfin : KeepsFrom W6.heap.size U (U.setCell ⟨N, ar, none⟩ (.int .i64 (cntS (S.take i') ar + 1))) ∧ KeepS (stS B at1 S) U (U.setCell ⟨N, ar, none⟩ (.int .i64 (cntS (S.take i') ar + 1))) ∧ Bar n0 N W6 (U.setCell ⟨N, ar, none⟩ (.int .i64 (cntS (S.take i') ar + 1))) ∧ Below w.heap.size w (U.setCell ⟨N, ar, none⟩ (.int .i64 (cntS (S.take i') ar + 1))) := by
      refine ⟨(KeepsOthers.setCell _ _ _).from _, fun b hb => ?_, hBr.set _ _, New.setB (p := ⟨N, ar, none⟩) (by have := HB.out; show w.heap.size ≤ N; omega) (show New w U from hB) _⟩
      have := HSB.out b hb
      have := HB.out
      exact Below.heap_setCell _ _ _ _ (show b ≠ N by omega)
    have HFIN := Lib.hid (And.intro hfin hs2)
    clear hfin hs2 hsi hsm htk hs hBr hB hcn q2 a0 a7 har c1 c2
    generalize cntS (S.take i') ar = cv at *
    gi_wp2_with fail
    exact ⟨HFIN.out.1.1, HFIN.out.1.2.1, HFIN.out.1.2.2.1, HFIN.out.1.2.2.2, HFIN.out.2⟩
  case done =>
    rintro U ⟨hBr, hB, hcn⟩ hD
    rw [hA]
    rw [List.take_length] at hcn
    obtain ⟨c, hc⟩ : ∃ c, c = cntS S := ⟨_, rfl⟩
    rw [← hc] at hcn
    have HC := Lib.hid hc
    have hlow : ∀ b, b < n0 → b ≠ N → U.heap[b]? = W6.heap[b]? := hBr.2
    have hth : Thr U Br 8 := fun j hj => by
      obtain ⟨⟨u, hu⟩, hf⟩ := HBR.out j hj
      have e := hlow Br (by have := HB.out; omega) (by have := HB.out; omega)
      exact ⟨⟨u, (World.cell?_of_block e).trans hu⟩, (World.frozen?_of_block e).trans hf⟩
    have q0 := cell_of_heap (o := 0) (v := .int .i64 (c 0)) hcn rfl
    have q1 := cell_of_heap (o := 1) (v := .int .i64 (c 1)) hcn rfl
    have q2 := cell_of_heap (o := 2) (v := .int .i64 (c 2)) hcn rfl
    have q3 := cell_of_heap (o := 3) (v := .int .i64 (c 3)) hcn rfl
    have q4 := cell_of_heap (o := 4) (v := .int .i64 (c 4)) hcn rfl
    have q5 := cell_of_heap (o := 5) (v := .int .i64 (c 5)) hcn rfl
    have q6 := cell_of_heap (o := 6) (v := .int .i64 (c 6)) hcn rfl
    have q7 := cell_of_heap (o := 7) (v := .int .i64 (c 7)) hcn rfl
    have HBU := Lib.hid hB
    have hDn : Br ≠ W6.heap.size := by have := HB.out; have := HN0.out; omega
    clear hc hcn hBr hB hlow
    go_wp2_with (refine wpList_store_blk rfl 34 _ _ rfl _ _ rfl rfl hth (by kernel_rfl) (by intro u hu; simp at hu; rcases hu with rfl | rfl | rfl | rfl | rfl | rfl | rfl | rfl <;> rfl) (fun Z nZ kZ cZ => ?_))
    have hZD : Z.heap[W6.heap.size]? = some (.deferred (some [])) := (kZ _ (fun e => hDn e.symm)).trans hD
    have hZn : New w Z := nZ w HBU.out (by have := HB.out; omega)
    have hBD : Br ≠ W6.heap.size := hDn
    refine ret_mark hZD fun U2 hU2 hk => ?_
    have k : ∀ j (hj : j < 8), U2.cell? ⟨Br, j, none⟩ = some (.int .i64 (c j)) := fun j hj => by
      have h1 := cZ j (by show j < 8; exact hj)
      rw [Nat.zero_add] at h1
      refine ((World.cell?_of_block (hk Br hBD)).trans h1).trans ?_
      have h2 := cntV_at c hj
      rw [← Array.getElem?_toList] at h2
      have h3 : (cntV c).toList[j]? = some ((cntV c).toList[j]'(by show j < 8; exact hj)) := List.getElem?_eq_getElem _
      exact h3.symm.trans h2
    have k0 := k 0 (by omega)
    have k1 := k 1 (by omega)
    have k2 := k 2 (by omega)
    have k3 := k 3 (by omega)
    have k4 := k 4 (by omega)
    have k5 := k 5 (by omega)
    have k6 := k 6 (by omega)
    have k7 := k 7 (by omega)
    refine ⟨.agg (cntV c), by simp [results, Tryz.results9, go_sem, k0, k1, k2, k3, k4, k5, k6, k7, cntV], by rw [HC.out], ?_⟩
    rw [hU2]
    exact Go.RowKit.Below.trans hZn (belowK_b (w := w) (Nat.le_refl _) _ _ _ _ HN6.out.size hZD rfl rfl)
  case stop =>
    rintro i' q U _ _ h _
    exact h.elim

end Go.Proofs.YtdbhlepbaepngaaGreatDoor

/- Layer 12: what marked grids are, plain. -/
namespace Go.Proofs.YtdbhlepbaepngaaGreatDoor
open Go.RowKit
set_option linter.unusedVariables false

theorem may_area {C : CfgR} {X : BoxR} (h : X.may C = true) : 0 ≤ X.ar ∧ X.ar ≤ 7 := by
  simp only [BoxR.may, BoxR.tests, ordB, Bool.and_eq_true, decide_eq_true_eq, Bool.and_true] at h
  omega
theorem ofX_area {l : List BoxR} (h : ∀ b ∈ l, 0 ≤ b.ar ∧ b.ar ≤ 7) (x z y : Int) : 0 ≤ ofX l x z y ∧ ofX l x z y ≤ 7 := by
  unfold ofX
  cases e : bestX l x z y with
  | none => simp
  | some b => exact h b (bestX_some l x z y b e).1
/-- Floors with other areas that may be, may be. -/
theorem riseB_same {l m : List Fl} (hlen : m.length = l.length) (hm : ∀ k (h : k < l.length) (h2 : k < m.length), m[k].y = l[k].y ∧ m[k].top = l[k].top ∧ 0 ≤ m[k].area ∧ m[k].area ≤ 7) (h : riseB l = true) : riseB m = true := by
  have h8 := riseB_len h
  unfold riseB at h
  simp only [Bool.and_eq_true, List.all_eq_true, decide_eq_true_eq] at h
  refine riseB_all (by omega) fun j hj => ?_
  have hjl : j < l.length := by omega
  have h1 := h.2 j (List.mem_range.2 hjl)
  obtain ⟨e1, e2, e3, e4⟩ := hm j hjl hj
  have el : leastAt m j = leastAt l j := by
    cases j with
    | zero => rfl
    | succ j =>
      rw [leastAt_succ (by omega), leastAt_succ (by omega)]
      exact (hm j (by omega) (by omega)).2.1
  rw [okAt_at hjl] at h1
  rw [okAt_at hj, el]
  unfold okF at h1 ⊢
  rw [e1, e2]
  simp only [Bool.and_eq_true, wiB_iff] at h1 ⊢
  exact ⟨h1.1, h1.2.1, e3, e4⟩
theorem mkX_is (l : List BoxR) (G : Gd) (i : Nat) (f : Fl) : mkX l (stOf G i f) = ⟨f.y, f.top, ofX l (G.x + ((i % G.w.toNat : Nat) : Int)) (G.z + ((i / G.w.toNat : Nat) : Int)) f.y⟩ := rfl
theorem markC_is (G : Gd) (l : List BoxR) (i : Nat) {k : Nat} (h : k < (markC G l i).length) (h2 : k < (gcol G i).length) : (markC G l i)[k] = ⟨(gcol G i)[k].y, (gcol G i)[k].top, ofX l (G.x + ((i % G.w.toNat : Nat) : Int)) (G.z + ((i / G.w.toNat : Nat) : Int)) (gcol G i)[k].y⟩ := by
  rw [markC_at, mkX_is]
/-- A grid that was made of another one by marking. -/
structure MadeBy (O G : Gd) (l : List BoxR) : Prop where
  x : O.x = G.x
  z : O.z = G.z
  w : O.w = G.w
  d : O.d = G.d
  L : O.L = markL G l
theorem MadeBy.gcol {O G : Gd} {l : List BoxR} (h : MadeBy O G l) (i : Nat) : gcol O i = if i < G.L.length then markC G l i else [] := by
  by_cases hi : i < G.L.length
  · rw [if_pos hi]
    have ho : i < O.L.length := by rw [h.L, markL_len]; exact hi
    have e : Go.Proofs.YtdbhlepbaepngaaGreatDoor.gcol O i = O.L[i] := gcol_at ho
    rw [e]
    have := markL_at G l (i := i) (by rw [markL_len]; exact hi)
    rw [← this]
    congr 1
    exact h.L
  · rw [if_neg hi]
    unfold Go.Proofs.YtdbhlepbaepngaaGreatDoor.gcol
    rw [List.getElem?_eq_none (by rw [h.L, markL_len]; omega)]
    rfl
theorem MadeBy.len {O G : Gd} {l : List BoxR} (h : MadeBy O G l) : O.L.length = G.L.length := by rw [h.L, markL_len]
theorem MadeBy.fine {O G : Gd} {l : List BoxR} (h : MadeBy O G l) (hE : gE G = 0) (ha : ∀ b ∈ l, 0 ≤ b.ar ∧ b.ar ≤ 7) : gE O = 0 := by
  obtain ⟨h1, h2, h3⟩ := gd_is hE
  refine gd_fine ?_ ?_ fun j hj => ?_
  · unfold placeB at h1 ⊢
    rw [h.x, h.z, h.w, h.d]
    exact h1
  · rw [h.len, h.w, h.d]; exact h2
  · have hj2 : j < G.L.length := by rw [← h.len]; exact hj
    have e : O.L[j] = markC G l j := by
      have := h.gcol j
      rw [if_pos hj2, gcol_at hj] at this
      exact this
    rw [e]
    refine riseB_same (l := G.L[j]) (by rw [markC_len, gcol_at hj2]) (fun k hk hk2 => ?_) (h3 j hj2)
    have hk3 : k < (Go.Proofs.YtdbhlepbaepngaaGreatDoor.gcol G j).length := by rw [gcol_at hj2]; exact hk
    rw [markC_is G l j hk2 hk3]
    have e2 : (Go.Proofs.YtdbhlepbaepngaaGreatDoor.gcol G j)[k] = G.L[j][k] := by
      have := gcol_at hj2
      congr 1
    rw [e2]
    exact ⟨rfl, rfl, (ofX_area ha _ _ _).1, (ofX_area ha _ _ _).2⟩
/-- Of what was marked ahead nothing is left. -/
theorem MadeBy.over {O G : Gd} {l0 : List BoxR} (h : MadeBy O G l0) (l : List BoxR) : markL O l = markL G l := by
  unfold markL
  rw [h.len]
  refine List.map_congr_left fun i hi => ?_
  have hi' := List.mem_range.1 hi
  unfold markC
  rw [h.gcol i, if_pos hi']
  unfold markC
  rw [List.map_map, List.map_map, List.map_map, List.map_map]
  refine List.map_congr_left fun f hf => ?_
  show mkX l (stOf O i (mkX l0 (stOf G i f))) = mkX l (stOf G i f)
  rw [mkX_is, mkX_is, mkX_is, h.x, h.z, h.w]
theorem MadeBy.trans {O A G : Gd} {l0 l : List BoxR} (h0 : MadeBy A G l0) (h : MadeBy O A l) : MadeBy O G l :=
  ⟨h.x.trans h0.x, h.z.trans h0.z, h.w.trans h0.w, h.d.trans h0.d, by rw [h.L, h0.over]⟩
theorem markL_any {G : Gd} {l m : List BoxR} (hm : ∀ q, q ∈ l ↔ q ∈ m) (hu : ∀ p ∈ l, ∀ q ∈ l, p.i = q.i → p = q) : markL G l = markL G m := by
  unfold markL
  refine List.map_congr_left fun i hi => ?_
  unfold markC
  rw [List.map_map, List.map_map]
  refine List.map_congr_left fun f hf => ?_
  show mkX l (stOf G i f) = mkX m (stOf G i f)
  rw [mkX_is, mkX_is, ofX_any hm hu]
theorem markE_any {C : CfgR} {G : Gd} {l m : List BoxR} (hl : l.length = m.length) (hm : ∀ q, q ∈ l ↔ q ∈ m) : markE C G l = markE C G m := by
  have e : l.all (fun b => b.may C) = m.all (fun b => b.may C) := by
    cases h1 : m.all (fun b => b.may C)
    · rw [List.all_eq_false] at h1 ⊢
      obtain ⟨b, hb, h2⟩ := h1
      exact ⟨b, (hm b).2 hb, h2⟩
    · rw [List.all_eq_true] at h1 ⊢
      exact fun b hb => h1 b ((hm b).1 hb)
  unfold markE markB
  rw [e, hl]
theorem smallL_fine {G : Gd} (hE : gE G = 0) : smallL G.L := fun j hj => by
  have := riseB_len ((gd_is hE).2.2 j hj)
  omega
theorem sameG_made {O A G : Gd} {l : List BoxR} (h : MadeBy O G l) (k : MadeBy A G l) : sameG O A = true := by
  unfold sameG eqR
  rw [h.x, h.z, h.w, h.d, h.L, k.x, k.z, k.w, k.d, k.L]
  simp

/-! Counts. -/
def sumC (c : Nat → Int) : Nat → Int
  | 0 => 0
  | n + 1 => sumC c n + c n
theorem cntS_cons (L : List St) (s : St) (a : Nat) : cntS (s :: L) a = cntS L a + if s.f.area = (a : Int) then 1 else 0 := by
  unfold cntS
  by_cases h : s.f.area = (a : Int)
  · rw [if_pos h, List.filter_cons_of_pos (by simpa using h)]; simp
  · rw [if_neg h, List.filter_cons_of_neg (by simpa using h)]; simp
theorem sumC_cnt : ∀ (L : List St), (∀ s ∈ L, 0 ≤ s.f.area ∧ s.f.area ≤ 7) → sumC (cntS L) 8 = L.length
  | [], _ => by simp [sumC, cntS]
  | s :: L, h => by
    have ih := sumC_cnt L (fun t ht => h t (List.mem_cons_of_mem _ ht))
    have hs := h s List.mem_cons_self
    simp only [sumC, cntS_cons, List.length_cons] at ih ⊢
    generalize s.f.area = ar at *
    rcases (show ar = 0 ∨ ar = 1 ∨ ar = 2 ∨ ar = 3 ∨ ar = 4 ∨ ar = 5 ∨ ar = 6 ∨ ar = 7 by omega) with rfl | rfl | rfl | rfl | rfl | rfl | rfl | rfl <;> simp <;> omega
theorem sumC_le (L : List St) : ∀ n, n ≤ 8 → 0 ≤ sumC (cntS L) n ∧ sumC (cntS L) n ≤ n * L.length
  | 0, _ => by simp [sumC]
  | n + 1, h => by
    have ih := sumC_le L n (by omega)
    have h1 := cntS_le L n
    unfold sumC
    have e : ((n + 1 : Nat) : Int) * (L.length : Int) = n * L.length + L.length := by push_cast; rw [Int.add_mul, Int.one_mul]
    rw [e]
    omega
theorem MadeBy.stTo_len {O G : Gd} {l : List BoxR} (h : MadeBy O G l) : ∀ n, n ≤ G.L.length → (stTo O n).length = (stTo G n).length
  | 0, _ => rfl
  | n + 1, hn => by
    rw [stTo_succ, stTo_succ, List.length_append, List.length_append, List.length_map, List.length_map, h.stTo_len n (by omega), h.gcol n, if_pos (by omega), markC_len]
theorem MadeBy.all_len {O G : Gd} {l : List BoxR} (h : MadeBy O G l) : (allG O).length = (allG G).length := by
  unfold allG
  rw [h.len]
  exact h.stTo_len _ (Nat.le_refl _)

theorem MadeBy.at {O G : Gd} {l : List BoxR} (h : MadeBy O G l) {i : Nat} (hi : i < G.L.length) (ho : i < O.L.length) : O.L[i].length = G.L[i].length ∧ ∀ k (h1 : k < G.L[i].length) (h2 : k < O.L[i].length), O.L[i][k].y = G.L[i][k].y ∧ O.L[i][k].top = G.L[i][k].top ∧ O.L[i][k].area = ofX l (G.x + ((i % G.w.toNat : Nat) : Int)) (G.z + ((i / G.w.toNat : Nat) : Int)) G.L[i][k].y := by
  have e : O.L[i] = markC G l i := by
    have := h.gcol i
    rw [if_pos hi, gcol_at ho] at this
    exact this
  have eg : Go.Proofs.YtdbhlepbaepngaaGreatDoor.gcol G i = G.L[i] := gcol_at hi
  refine ⟨by rw [e, markC_len, eg], fun k h1 h2 => ?_⟩
  have h3 : k < (markC G l i).length := by rw [markC_len, eg]; exact h1
  have h4 : k < (Go.Proofs.YtdbhlepbaepngaaGreatDoor.gcol G i).length := by rw [eg]; exact h1
  have e2 : O.L[i][k] = (markC G l i)[k] := by congr 1
  have e3 : (Go.Proofs.YtdbhlepbaepngaaGreatDoor.gcol G i)[k] = G.L[i][k] := by congr 1
  rw [e2, markC_is G l i h3 h4, e3]
  exact ⟨rfl, rfl, rfl⟩
theorem stTo_len_succ (G : Gd) {i : Nat} (hi : i < G.L.length) : (stTo G (i + 1)).length = (stTo G i).length + G.L[i].length := by
  rw [stTo_succ, List.length_append, List.length_map, gcol_at hi]

end Go.Proofs.YtdbhlepbaepngaaGreatDoor
