import Derived.Test.YtdbhlepbaepngaaGreatDoorArKZ15
import Derived.Test.YtdbhlepbaepngaaGreatDoorOgTZ15

/- Layer 12: the document's Count. -/
namespace Go.Proofs.YtdbhlepbaepngaaGreatDoor
open Go.RowKit
set_option linter.unusedVariables false

set_option maxHeartbeats 4000000 in
set_option maxRecDepth 100000 in
theorem rr_Count (G : Gd) (w : World) (hG : G.ok w) :
    Calls Tryz.prog 10 #[.agg #[.int .i64 G.x, .int .i64 G.z, .int .i64 G.w, .int .i64 G.d, .slice G.ga G.L.length G.gc]] w fun e w' => e = .returned (.agg (cntV (cntS (allG (colG G))))) ∧ New w w' := by
  have KA := Lib.hid (fun W n => rg_All_own G W (hG.keep (n : New w W)))
  have HL1 := Lib.hid (allG_small (colG_E G))
  have HAR := Lib.hid (fun s (h : s ∈ allG (colG G)) => st_area (colG_E G) h)
  obtain ⟨S, hS⟩ : ∃ S, S = allG (colG G) := ⟨_, rfl⟩
  rw [← hS] at KA HL1 HAR ⊢
  obtain ⟨gn, hgn⟩ : ∃ q, q = G.L.length := ⟨_, rfl⟩
  rw [← hgn] at KA ⊢
  clear hgn hS hG
  go_enter Tryz.func10, Tryz.ntmps10
  go_upto_region 2 with fail
  refine Code.at (fun W0 hW => ?_)
  have n0 : New w W0 := by subst hW; (repeat (first | (with_reducible exact New.refl _) | (with_reducible assumption) | ((with_reducible refine New.setB ?_ ?_ _); focus (first | omega | (simp; omega) | (simp; done))) | (with_reducible refine New.alloc ?_ _) | (with_reducible refine New.drew ?_) | (with_reducible refine New.drewN ?_ _) | (with_reducible refine New.hat ?_ _) | ((with_reducible apply New.snart); (with_reducible assumption))))
  have z0 : W0.heap.size = w.heap.size + 3 := by subst hW; simp
  have bg : W0.heap[w.heap.size]? = some (.cells #[.int .i64 G.x, .int .i64 G.z, .int .i64 G.w, .int .i64 G.d, .slice G.ga gn G.gc] 26 (0, 0)) := by
    subst hW
    exact New.stays (((New.refl _).alloc _).alloc _) (World.alloc_heap_new w _)
  have br : Thr W0 (w.heap.size + 1) 8 := by
    subst hW
    have h := (Thr.new (w.alloc (.cells #[.int .i64 G.x, .int .i64 G.z, .int .i64 G.w, .int .i64 G.d, .slice G.ga gn G.gc] 26)) #[.int .i64 0, .int .i64 0, .int .i64 0, .int .i64 0, .int .i64 0, .int .i64 0, .int .i64 0, .int .i64 0] 34 (w.heap.size + 1) (World.size_alloc _ _))
    exact h.keep (by (repeat (first | (with_reducible exact New.refl _) | (with_reducible assumption) | ((with_reducible refine New.setB ?_ ?_ _); focus (first | omega | (simp; omega) | (simp; done))) | (with_reducible refine New.alloc ?_ _) | (with_reducible refine New.drew ?_) | (with_reducible refine New.drewN ?_ _) | (with_reducible refine New.hat ?_ _) | ((with_reducible apply New.snart); (with_reducible assumption)))))
  have bn : W0.heap[w.heap.size + 1 + 1]? = some (.cells (cntV (cntS [])) 34 (0, 0)) := by
    subst hW
    have h := World.alloc_heap_new ((w.alloc (.cells #[.int .i64 G.x, .int .i64 G.z, .int .i64 G.w, .int .i64 G.d, .slice G.ga gn G.gc] 26)).alloc (.cells #[.int .i64 0, .int .i64 0, .int .i64 0, .int .i64 0, .int .i64 0, .int .i64 0, .int .i64 0, .int .i64 0] 34)) (.cells #[.int .i64 0, .int .i64 0, .int .i64 0, .int .i64 0, .int .i64 0, .int .i64 0, .int .i64 0, .int .i64 0] 34)
    rw [World.size_alloc, World.size_alloc] at h
    exact h
  clear hW
  have g0 := cell_of_heap (o := 0) (v := .int .i64 G.x) bg rfl
  have g1 := cell_of_heap (o := 1) (v := .int .i64 G.z) bg rfl
  have g2 := cell_of_heap (o := 2) (v := .int .i64 G.w) bg rfl
  have g3 := cell_of_heap (o := 3) (v := .int .i64 G.d) bg rfl
  have g4 := cell_of_heap (o := 4) (v := .slice G.ga gn G.gc) bg rfl
  clear bg
  obtain ⟨Br, hBr⟩ : ∃ q, q = w.heap.size + 1 := ⟨_, rfl⟩
  obtain ⟨N, hN⟩ : ∃ q, q = w.heap.size + 1 + 1 := ⟨_, rfl⟩
  rw [← hN] at bn
  rw [← hBr] at br
  rw [← hN, ← hBr]
  have HB := Lib.hid (And.intro hBr (And.intro hN z0))
  clear hBr hN z0
  go_wp2_with fail
  refine (KA.out _ n0).mono ?_
  rintro e W6 ⟨v, rfl, hs, hob, n6⟩
  obtain ⟨at1, c1, rfl, -, -, -, hrow⟩ := hs
  have HROW := Lib.hid hrow
  have HOB := Lib.hid hob
  have N6 := Lib.hid (n0.trans n6)
  have bn6 := New.stays n6 bn
  have br6 := br.keep n6
  have HZ6 : Hid (N < W6.heap.size ∧ Br < W6.heap.size) := Lib.hid ⟨(Array.getElem?_eq_some_iff.1 bn6).1, br6.lt (by omega)⟩
  have HBR := Lib.hid br6
  obtain ⟨n, hn⟩ : ∃ q, q = S.length := ⟨_, rfl⟩
  have hn1 : n ≤ 100000 := by rw [hn]; exact HL1.out
  have HNL := Lib.hid hn
  rw [← hn]
  clear g0 g1 g2 g3 g4 bn br br6 n0 n6 hrow hob hn KA
  go_wp2_with fail
  go_loopg [5] n (fun gk s5 wr => ∃ i : Nat, s5 = .int .i64 i ∧ i ≤ n ∧ n - i ≤ gk ∧ Hid (Bar W6.heap.size N W6 wr) ∧ Hid (wr.heap[N]? = some (.cells (cntV (cntS (S.take i))) 34 (0, 0))) ∧ Hid (New w wr))
  case atStart => exact ⟨0, rfl, by omega, by omega, Lib.hid (Bar.refl (Nat.le_refl _)), Lib.hid (by rw [List.take_zero]; exact bn6), N6⟩
  case round =>
    clear bn6
    obtain ⟨i, rfl, hi, hgk, HBA, HCN, HNW⟩ := hrel
    by_cases hlt : i < n
    · have hil : i < S.length := by rw [← HNL.out]; exact hlt
      obtain ⟨b, off, rfl, hA⟩ := HROW.out (by omega)
      have hbW : b < W6.heap.size := World.block_lt_of_cell? _ _ (hA 0 (by omega) 0 (by rw [St.enc_len]; omega))
      have hbN : b ≠ N := by have := HOB.out b rfl; have := HB.out; omega
      have hA2 : RowAt St.enc 6 wr b off S := fun j hj q hq => (World.cell?_of_block (a := ⟨b, off + j * 6 + q, none⟩) (HBA.out.2 b hbW hbN)).trans (hA j hj q hq)
      obtain ⟨-, -, -, -, -, d5⟩ := St.cells hA2 i hil
      have htk : S.take (i + 1) = S.take i ++ [S[i]] := List.take_succ_eq_append_getElem hil
      have hsm : S[i] ∈ S := List.getElem_mem hil
      obtain ⟨s, hs⟩ : ∃ s, s = S[i] := ⟨_, rfl⟩
      rw [← hs] at d5 htk hsm
      obtain ⟨a0, a7⟩ := HAR.out s hsm
      obtain ⟨ar, har⟩ : ∃ ar : Nat, s.f.area = (ar : Int) := ⟨s.f.area.toNat, by omega⟩
      have har8 : ar < 8 := by omega
      rw [har] at d5
      have d5' : wr.cell? ⟨b, off + i * 6 + 3 + 2, none⟩ = some (.int .i64 ar) := d5
      have hcn := HCN.out
      have cN : wr.cell? ⟨N, ar, none⟩ = some (.int .i64 (cntS (S.take i) ar)) := cell_of_heap hcn (cntV_at _ har8)
      have fN : wr.frozen? ⟨N, ar, none⟩ = false := frozen_of_heap hcn
      obtain ⟨c1', c2'⟩ := cntS_le (S.take i) ar
      have htl : (S.take i).length ≤ 100000 := by rw [List.length_take]; omega
      have hw1 : IntKind.i64.wrap (cntS (S.take i) ar + 1) = cntS (S.take i) ar + 1 := IntWalk.i64_in _ (by omega)
      have hs2 := heap_setCell_same wr N ar _ _ (.int .i64 (cntS (S.take i) ar + 1)) hcn
      rw [cntV_set _ (cntS (S.take (i + 1))) har8 (fun b hb => by rw [htk, cntS_snoc, har]; by_cases e : ar = b; (· subst e; rw [if_pos rfl, if_pos rfl]); (· rw [if_neg e, if_neg (by omega)]))] at hs2
      have HB9 := Lib.hid (HBA.out.set ar (.int .i64 (cntS (S.take i) ar + 1)))
      have HN9 := Lib.hid (New.setB (p := ⟨N, ar, none⟩) (by have := HB.out; show w.heap.size ≤ N; omega) HNW.out (.int .i64 (cntS (S.take i) ar + 1)))
      have HS9 := Lib.hid hs2
      have hbz := World.block_lt_of_cell? _ _ d5
      clear hA hA2 hbW htk hsm hs a0 a7 har c1' c2' hcn hs2 d5
      generalize cntS (S.take i) ar = cv at *
      go_wp2_with fail
      go_roundg (n - (i + 1))
      case measure => omega
      case rel => exact ⟨i + 1, by go_num, by omega, by omega, HB9, HS9, HN9⟩
    · obtain rfl : i = n := by omega
      have hcn := HCN.out
      rw [List.take_of_length_le (by rw [← HNL.out]; exact Nat.le_refl _)] at hcn
      obtain ⟨c, hc⟩ : ∃ c, c = cntS S := ⟨_, rfl⟩
      rw [← hc] at hcn
      have HC := Lib.hid hc
      have hth : Thr wr Br 8 := fun j hj => by
        obtain ⟨⟨u, hu⟩, hf⟩ := HBR.out j hj
        have e := HBA.out.2 Br HZ6.out.2 (by have := HB.out; omega)
        exact ⟨⟨u, (World.cell?_of_block e).trans hu⟩, (World.frozen?_of_block e).trans hf⟩
      have q0 := cell_of_heap (o := 0) (v := .int .i64 (c 0)) hcn rfl
      have q1 := cell_of_heap (o := 1) (v := .int .i64 (c 1)) hcn rfl
      have q2 := cell_of_heap (o := 2) (v := .int .i64 (c 2)) hcn rfl
      have q3 := cell_of_heap (o := 3) (v := .int .i64 (c 3)) hcn rfl
      have q4 := cell_of_heap (o := 4) (v := .int .i64 (c 4)) hcn rfl
      have q5 := cell_of_heap (o := 5) (v := .int .i64 (c 5)) hcn rfl
      have q6 := cell_of_heap (o := 6) (v := .int .i64 (c 6)) hcn rfl
      have q7 := cell_of_heap (o := 7) (v := .int .i64 (c 7)) hcn rfl
      clear hc hcn
      go_wp2_with (refine wpList_store_blk rfl 34 _ _ rfl _ _ rfl rfl hth (by kernel_rfl) (by intro u hu; simp at hu; rcases hu with rfl | rfl | rfl | rfl | rfl | rfl | rfl | rfl <;> rfl) (fun Z nZ kZ cZ => ?_))
      have hZn : New w Z := nZ w HNW.out (by have := HB.out; omega)
      have k : ∀ j (hj : j < 8), Z.cell? ⟨Br, j, none⟩ = some (.int .i64 (c j)) := fun j hj => by
        have h1 := cZ j (by show j < 8; exact hj)
        rw [Nat.zero_add] at h1
        refine h1.trans ?_
        have h2 := cntV_at c hj
        rw [← Array.getElem?_toList] at h2
        have h3 : (cntV c).toList[j]? = some ((cntV c).toList[j]'(by show j < 8; exact hj)) := List.getElem?_eq_getElem _
        exact h3.symm.trans h2
      have k0 := k 0 (by omega)
      have k1 := k 1 (by omega)
      have k2 := k 2 (by omega)
      have k3 := k 3 (by omega)
      have k4 := k 4 (by omega)
      have k5 := k 5 (by omega)
      have k6 := k 6 (by omega)
      have k7 := k 7 (by omega)
      clear nZ kZ cZ
      refine bodyPost_ret (v := .agg (cntV c)) (by simp [results, Tryz.results10, go_sem, k0, k1, k2, k3, k4, k5, k6, k7, cntV]) rfl ?_
      exact ⟨by rw [HC.out], hZn⟩

end Go.Proofs.YtdbhlepbaepngaaGreatDoor
