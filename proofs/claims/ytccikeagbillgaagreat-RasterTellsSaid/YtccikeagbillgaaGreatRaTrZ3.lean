import Derived.Test.YtccikeagbillgaaGreatRaC0Z3
import Derived.Test.YtccikeagbillgaaGreatSoCBZ3
import Derived.Test.YtccikeagbillgaaGreatSteadyZ3
import Derived.Deep.LoopGhost
import Derived.Test.YtccikeagbillgaaGreatTriBZ3
import Derived.Test.YtccikeagbillgaaGreatWholeMZ3
import Derived.Test.YtccikeagbillgaaGreatSoLSZ3
import Derived.Test.YtccikeagbillgaaGreatTriGZ3
import Derived.Test.YtccikeagbillgaaGreatWholeJZ3
import Derived.Test.YtccikeagbillgaaGreatSpRcZ3
import Derived.Test.YtccikeagbillgaaGreatRaAZ3
import Derived.Test.YtccikeagbillgaaGreatRaRZ3
import Derived.Test.YtccikeagbillgaaGreatClZdZ3
import Derived.Test.YtccikeagbillgaaGreatSpXZ3
import Derived.Test.YtccikeagbillgaaGreatRaEZ3
import Derived.Test.YtccikeagbillgaaGreatWholeBZ3
import Derived.ChangeKeysEq
import Derived.OwnWalk
import Derived.Test.YtccikeagbillgaaGreatSpRdZ3
import Derived.Test.YtccikeagbillgaaGreatRaToZ3

/- The document's own May (layer 9). -/
namespace Go.Proofs.YtccikeagbillgaaGreat
open Go.RowKit Go.Sort
set_option linter.unusedVariables false

set_option maxHeartbeats 2000000 in
set_option maxRecDepth 100000 in
theorem m_may (C : CfgR) (hC : C.fine) (at0 : Option Addr) (l : List TriR) (cap : Nat) (hl : l.length ≤ maxLen) (w : World) (H : RowIn TriR.enc 10 w at0 l) :
    Calls Tryz.prog 23 #[.agg #[.int .i64 C.cl, .int .i64 C.cb, .int .i64 C.ht, .int .i64 C.ri, .int .i64 C.ru, .int .i64 C.wd, .int .i64 C.dp], .slice at0 l.length cap] w fun e w' => e = .returned (.bool (mayL C l)) ∧ New w w' := by
  have KM := Lib.hid (fun T W => u_mayTri C.wd C.dp ⟨hC.w1, hC.w2⟩ ⟨hC.d1, hC.d2⟩ T W)
  have HH := Lib.hid H
  obtain ⟨v, hv⟩ : ∃ v, v = mayL C l := ⟨_, rfl⟩
  rw [← hv]
  have HV := Lib.hid hv
  clear hv H
  unfold maxLen at hl
  by_cases hn : 200 < l.length
  · have HE : Hid (v = false) := Lib.hid (by rw [HV.out]; unfold mayL; rw [decide_eq_false (by omega)]; rfl)
    have hd : ((l.length : Int) > 200) := by omega
    go_enter Tryz.func23, Tryz.ntmps23
    go_wp2_with fail
    go_ret
    rw [HE.out]
    exact ⟨rfl, by (repeat (first | (with_reducible exact New.refl _) | (with_reducible assumption) | ((with_reducible refine New.setB ?_ ?_ _); focus (first | omega | (simp; omega) | (simp; done))) | (with_reducible refine New.alloc ?_ _) | (with_reducible refine New.drew ?_) | (with_reducible refine New.drewN ?_ _) | (with_reducible refine New.hat ?_ _) | ((with_reducible apply New.snart); (with_reducible assumption))))⟩
  · have hd : ¬ ((l.length : Int) > 200) := by omega
    go_enter Tryz.func23, Tryz.ntmps23
    go_wp2_with fail
    clear hd
    generalize hW : World.alloc _ _ = W1
    have n1 : New w W1 := by subst hW; (repeat (first | (with_reducible exact New.refl _) | (with_reducible assumption) | ((with_reducible refine New.setB ?_ ?_ _); focus (first | omega | (simp; omega) | (simp; done))) | (with_reducible refine New.alloc ?_ _) | (with_reducible refine New.drew ?_) | (with_reducible refine New.drewN ?_ _) | (with_reducible refine New.hat ?_ _) | ((with_reducible apply New.snart); (with_reducible assumption))))
    have hB : W1.heap[w.heap.size]? = some (.cells (cfgA C) 23 (0, 0)) := by subst hW; exact World.alloc_heap_new w _
    clear hW
    have HB := Lib.hid (And.intro n1 hB)
    clear n1 hB
    go_loopg [5] l.length (fun k s wr => ∃ i : Nat, s = .int .i64 i ∧ i + k = l.length ∧ Hid (∀ j (hj : j < l.length), j < i → mayTB C.wd C.dp l[j] = true) ∧ Hid (New W1 wr))
    case atStart => exact ⟨0, by simp, by omega, Lib.hid (fun _ _ h => absurd h (by omega)), Lib.hid (New.refl _)⟩
    case round =>
      obtain ⟨i, rfl, hik, HNO, HN⟩ := hrel
      by_cases hlt : i < l.length
      · obtain ⟨b0, off, rfl, hA⟩ := HH.out (by omega)
        obtain ⟨d0, d1, d2, d3, d4, d5, d6, d7, d8, d9⟩ := TriR.cells (hA.keep (HB.out.1.trans HN.out)) i hlt
        obtain ⟨c0, c1, c2, c3, c4, c5, c6⟩ := cfg_cs (HN.out.blk HB.out.2)
        have KM1 := fun W => KM.out l[i] W
        clear hA
        cases he : mayTB C.wd C.dp l[i]
        · rw [he] at KM1
          have KM2 := Lib.hid KM1
          have HE : Hid (v = false) := Lib.hid (by
            rw [HV.out]
            unfold mayL
            cases ha : l.all (mayTB C.wd C.dp)
            · simp
            · rw [List.all_eq_true] at ha
              have := ha _ (List.getElem_mem hlt)
              rw [he] at this
              cases this)
          clear KM1 he
          go_wp2_with fail
          (refine wp_region_hat (by kernel_rfl) (by kernel_rfl) ?_; intro hatc hatf; (repeat (go_big_quiet_step ((first | (go_at_call 17; with_reducible exact Calls.hat (KM2.out _)))))); refine wpQuiet_nil ?_; rintro _ ⟨x, rfl⟩)
          have hn := HB.out.1.trans (HN.out.trans x.h)
          generalize x.w = V at *
          go_wp2_with fail
          go_ret
          rw [HE.out]
          exact ⟨rfl, hn⟩
        · rw [he] at KM1
          have KM2 := Lib.hid KM1
          have HE := Lib.hid he
          clear KM1 he
          go_wp2_with fail
          (refine wp_region_hat (by kernel_rfl) (by kernel_rfl) ?_; intro hatc hatf; (repeat (go_big_quiet_step ((first | (go_at_call 17; with_reducible exact Calls.hat (KM2.out _)))))); refine wpQuiet_nil ?_; rintro _ ⟨x, rfl⟩)
          have hn := HN.out.trans x.h
          generalize x.w = V at *
          go_wp2_with fail
          go_roundg (gk - 1)
          case measure => omega
          case rel =>
            refine ⟨i + 1, by go_num, by omega, Lib.hid (fun j hj hji => ?_), Lib.hid hn⟩
            by_cases h : j < i
            · exact HNO.out j hj h
            · obtain rfl : j = i := by omega
              exact HE.out
      · have HE : Hid (v = true) := Lib.hid (by
          rw [HV.out]
          unfold mayL
          rw [decide_eq_true (by omega), Bool.true_and, List.all_eq_true]
          intro x hx
          obtain ⟨j, hj, rfl⟩ := List.getElem_of_mem hx
          exact HNO.out j hj (by omega))
        go_wp2_with fail
        go_ret
        rw [HE.out]
        exact ⟨rfl, HB.out.1.trans HN.out⟩

end Go.Proofs.YtccikeagbillgaaGreat

/- The document's Normal of a triangle. -/
namespace Go.Proofs.YtccikeagbillgaaGreat
open Go.RowKit
set_option linter.unusedVariables false

def badB (x y z : Int) : Bool := decide (x < 0) || (decide (32 < x) || (decide (z < 0) || (decide (32 < z) || (decide (y < -2048) || decide (2048 < y)))))
theorem badB_iff {x y z : Int} : badB x y z = false ↔ StV 32 32 x y z := by
  unfold badB StV
  simp only [Bool.or_eq_false_iff, decide_eq_false_iff_not]
  omega
theorem bad_st (x0 y0 z0 x1 y1 z1 x2 y2 z2 : Int) : stB 32 32 x0 y0 z0 x1 y1 z1 x2 y2 z2 = (!badB x0 y0 z0 && (!badB x1 y1 z1 && !badB x2 y2 z2)) := by
  rw [Bool.eq_iff_iff, stB_iff]
  unfold StP
  simp only [Bool.and_eq_true, Bool.not_eq_true', badB_iff]

set_option maxHeartbeats 4000000 in
set_option maxRecDepth 100000 in
theorem r_normal (i x0 y0 z0 x1 y1 z1 x2 y2 z2 : Int) (w : World) :
    Calls Tryz.prog 40 #[.agg #[.int .i64 i, .int .i64 x0, .int .i64 y0, .int .i64 z0, .int .i64 x1, .int .i64 y1, .int .i64 z1, .int .i64 x2, .int .i64 y2, .int .i64 z2]] w fun e w' => e = .returned (.tuple #[.int .i64 (normX x0 y0 z0 x1 y1 z1 x2 y2 z2), .int .i64 (normY x0 y0 z0 x1 y1 z1 x2 y2 z2), .int .i64 (normZ x0 y0 z0 x1 y1 z1 x2 y2 z2), .int .i64 (normE x0 y0 z0 x1 y1 z1 x2 y2 z2)]) ∧ New w w' := by
  obtain ⟨X, hX⟩ : ∃ X, X = normX x0 y0 z0 x1 y1 z1 x2 y2 z2 := ⟨_, rfl⟩
  obtain ⟨Y, hY⟩ : ∃ X, X = normY x0 y0 z0 x1 y1 z1 x2 y2 z2 := ⟨_, rfl⟩
  obtain ⟨Z, hZ⟩ : ∃ X, X = normZ x0 y0 z0 x1 y1 z1 x2 y2 z2 := ⟨_, rfl⟩
  obtain ⟨E, hE⟩ : ∃ X, X = normE x0 y0 z0 x1 y1 z1 x2 y2 z2 := ⟨_, rfl⟩
  rw [← hX, ← hY, ← hZ, ← hE]
  obtain ⟨k0, hk0⟩ : ∃ b, b = badB x0 y0 z0 := ⟨_, rfl⟩
  obtain ⟨k1, hk1⟩ : ∃ b, b = badB x1 y1 z1 := ⟨_, rfl⟩
  obtain ⟨k2, hk2⟩ : ∃ b, b = badB x2 y2 z2 := ⟨_, rfl⟩
  have hst : stB 32 32 x0 y0 z0 x1 y1 z1 x2 y2 z2 = (!k0 && (!k1 && !k2)) := by rw [bad_st, hk0, hk1, hk2]
  have HB : Hid ((k0 || (k1 || k2)) = true → X = 0 ∧ Y = 0 ∧ Z = 0 ∧ E = 40) := by
    show _ → _
    intro h
    have : okB x0 y0 z0 x1 y1 z1 x2 y2 z2 = false := by
      unfold okB; rw [hst]; revert h; cases k0 <;> cases k1 <;> cases k2 <;> simp
    rw [hX, hY, hZ, hE]
    exact norm_no this
  have HG : Hid (k0 = false → k1 = false → k2 = false → StP 32 32 x0 y0 z0 x1 y1 z1 x2 y2 z2 ∧ (nyI x0 y0 z0 x1 y1 z1 x2 y2 z2 = 0 → X = 0 ∧ Y = 0 ∧ Z = 0 ∧ E = 40) ∧
      (¬ nyI x0 y0 z0 x1 y1 z1 x2 y2 z2 = 0 → X = nxI x0 y0 z0 x1 y1 z1 x2 y2 z2 ∧ Y = nyI x0 y0 z0 x1 y1 z1 x2 y2 z2 ∧ Z = nzI x0 y0 z0 x1 y1 z1 x2 y2 z2 ∧ E = 0)) := by
    show _ → _
    intro h0 h1 h2
    have hs : stB 32 32 x0 y0 z0 x1 y1 z1 x2 y2 z2 = true := by rw [hst, h0, h1, h2]; rfl
    refine ⟨stB_iff.1 hs, fun hy => ?_, fun hy => ?_⟩
    · rw [hX, hY, hZ, hE]
      exact norm_no (by unfold okB; rw [hs]; simp [hy])
    · rw [hX, hY, hZ, hE]
      exact norm_yes (by unfold okB; rw [hs]; simp [hy])
  have K0 : Hid _ := hk0
  have K1 : Hid _ := hk1
  have K2 : Hid _ := hk2
  clear hX hY hZ hE hk0 hk1 hk2 hst
  go_enter Tryz.func40, Tryz.ntmps40
  go_wp2_with fail
  generalize hW : World.alloc _ _ = W0
  (have c0 : (W0).cell? ⟨w.heap.size, 0, none⟩ = some (.int .i64 i) := (by subst hW; go_simp)); (have c1 : (W0).cell? ⟨w.heap.size, 1, none⟩ = some (.int .i64 x0) := (by subst hW; go_simp)); (have c2 : (W0).cell? ⟨w.heap.size, 2, none⟩ = some (.int .i64 y0) := (by subst hW; go_simp)); (have c3 : (W0).cell? ⟨w.heap.size, 3, none⟩ = some (.int .i64 z0) := (by subst hW; go_simp)); (have c4 : (W0).cell? ⟨w.heap.size, 4, none⟩ = some (.int .i64 x1) := (by subst hW; go_simp)); (have c5 : (W0).cell? ⟨w.heap.size, 5, none⟩ = some (.int .i64 y1) := (by subst hW; go_simp)); (have c6 : (W0).cell? ⟨w.heap.size, 6, none⟩ = some (.int .i64 z1) := (by subst hW; go_simp)); (have c7 : (W0).cell? ⟨w.heap.size, 7, none⟩ = some (.int .i64 x2) := (by subst hW; go_simp)); (have c8 : (W0).cell? ⟨w.heap.size, 8, none⟩ = some (.int .i64 y2) := (by subst hW; go_simp)); (have c9 : (W0).cell? ⟨w.heap.size, 9, none⟩ = some (.int .i64 z2) := (by subst hW; go_simp))
  have hn : New w W0 := by subst hW; (repeat (first | (with_reducible exact New.refl _) | (with_reducible assumption) | ((with_reducible refine New.setB ?_ ?_ _); focus (first | omega | (simp; omega) | (simp; done))) | (with_reducible refine New.alloc ?_ _) | (with_reducible refine New.drew ?_) | (with_reducible refine New.drewN ?_ _) | (with_reducible refine New.hat ?_ _) | ((with_reducible apply New.snart); (with_reducible assumption))))
  have zz := World.block_lt_of_cell? _ _ c1
  simp only [] at zz
  clear hW
  refine wp_loop_rounds 4 ?_
  rw [rounds_succ]
  go_upto_region 5 with fail
  go_cut [55] (fun s55 Z => s55 = .bool k0 ∧ New W0 Z)
  case first =>
    clear HB HG
    go_wp2_with fail
    all_goals
      go_meet
      refine ⟨?_, by (repeat (first | (with_reducible exact New.refl _) | (with_reducible assumption) | ((with_reducible refine New.setB ?_ ?_ _); focus (first | omega | (simp; omega) | (simp; done))) | (with_reducible refine New.alloc ?_ _) | (with_reducible refine New.drew ?_) | (with_reducible refine New.drewN ?_ _) | (with_reducible refine New.hat ?_ _) | ((with_reducible apply New.snart); (with_reducible assumption))))⟩
      rw [show k0 = _ from K0.out]
      refine congrArg Value.bool ?_
      unfold badB
      rw [Bool.eq_iff_iff]
      simp only [Bool.or_eq_true, decide_eq_true_eq, true_iff]
      omega
  case rest =>
    obtain ⟨rfl, nZ⟩ := hcut
    ((replace c0 := New.keep nZ c0); (replace c1 := New.keep nZ c1); (replace c2 := New.keep nZ c2); (replace c3 := New.keep nZ c3); (replace c4 := New.keep nZ c4); (replace c5 := New.keep nZ c5); (replace c6 := New.keep nZ c6); (replace c7 := New.keep nZ c7); (replace c8 := New.keep nZ c8); (replace c9 := New.keep nZ c9))
    replace hn := hn.trans nZ
    clear nZ
    rename World => W1
    replace zz := World.block_lt_of_cell? _ _ c1
    simp only [] at zz
    cases k0
    rotate_left
    · have hb := HB.out (by simp)
      have hb' : Hid _ := hb
      clear hb HB HG K0 K1 K2
      go_wp2_with fail
      refine bodyPost_ret (v := .tuple #[.int .i64 0, .int .i64 0, .int .i64 0, .int .i64 40]) (by simp [results, Tryz.results40, go_sem]) rfl ?_
      rw [hb'.out.1, hb'.out.2.1, hb'.out.2.2.1, hb'.out.2.2.2]
      exact ⟨rfl, hn⟩
    go_wp2_with fail
    rw [rounds_succ]
    go_upto_region 5 with fail
    go_cut [55] (fun s55 Z => s55 = .bool k1 ∧ New W1 Z)
    case first =>
      clear HB HG
      go_wp2_with fail
      all_goals
        go_meet
        refine ⟨?_, by (repeat (first | (with_reducible exact New.refl _) | (with_reducible assumption) | ((with_reducible refine New.setB ?_ ?_ _); focus (first | omega | (simp; omega) | (simp; done))) | (with_reducible refine New.alloc ?_ _) | (with_reducible refine New.drew ?_) | (with_reducible refine New.drewN ?_ _) | (with_reducible refine New.hat ?_ _) | ((with_reducible apply New.snart); (with_reducible assumption))))⟩
        rw [show k1 = _ from K1.out]
        refine congrArg Value.bool ?_
        unfold badB
        rw [Bool.eq_iff_iff]
        simp only [Bool.or_eq_true, decide_eq_true_eq, true_iff]
        omega
    case rest =>
      obtain ⟨rfl, nZ⟩ := hcut
      ((replace c0 := New.keep nZ c0); (replace c1 := New.keep nZ c1); (replace c2 := New.keep nZ c2); (replace c3 := New.keep nZ c3); (replace c4 := New.keep nZ c4); (replace c5 := New.keep nZ c5); (replace c6 := New.keep nZ c6); (replace c7 := New.keep nZ c7); (replace c8 := New.keep nZ c8); (replace c9 := New.keep nZ c9))
      replace hn := hn.trans nZ
      clear nZ
      rename World => W2
      replace zz := World.block_lt_of_cell? _ _ c1
      simp only [] at zz
      cases k1
      rotate_left
      · have hb := HB.out (by simp)
        have hb' : Hid _ := hb
        clear hb HB HG K0 K1 K2
        go_wp2_with fail
        refine bodyPost_ret (v := .tuple #[.int .i64 0, .int .i64 0, .int .i64 0, .int .i64 40]) (by simp [results, Tryz.results40, go_sem]) rfl ?_
        rw [hb'.out.1, hb'.out.2.1, hb'.out.2.2.1, hb'.out.2.2.2]
        exact ⟨rfl, hn⟩
      go_wp2_with fail
      rw [rounds_succ]
      go_upto_region 5 with fail
      go_cut [55] (fun s55 Z => s55 = .bool k2 ∧ New W2 Z)
      case first =>
        clear HB HG
        go_wp2_with fail
        all_goals
          go_meet
          refine ⟨?_, by (repeat (first | (with_reducible exact New.refl _) | (with_reducible assumption) | ((with_reducible refine New.setB ?_ ?_ _); focus (first | omega | (simp; omega) | (simp; done))) | (with_reducible refine New.alloc ?_ _) | (with_reducible refine New.drew ?_) | (with_reducible refine New.drewN ?_ _) | (with_reducible refine New.hat ?_ _) | ((with_reducible apply New.snart); (with_reducible assumption))))⟩
          rw [show k2 = _ from K2.out]
          refine congrArg Value.bool ?_
          unfold badB
          rw [Bool.eq_iff_iff]
          simp only [Bool.or_eq_true, decide_eq_true_eq, true_iff]
          omega
      case rest =>
        obtain ⟨rfl, nZ⟩ := hcut
        ((replace c0 := New.keep nZ c0); (replace c1 := New.keep nZ c1); (replace c2 := New.keep nZ c2); (replace c3 := New.keep nZ c3); (replace c4 := New.keep nZ c4); (replace c5 := New.keep nZ c5); (replace c6 := New.keep nZ c6); (replace c7 := New.keep nZ c7); (replace c8 := New.keep nZ c8); (replace c9 := New.keep nZ c9))
        replace hn := hn.trans nZ
        clear nZ
        rename World => W3
        replace zz := World.block_lt_of_cell? _ _ c1
        simp only [] at zz
        cases k2
        rotate_left
        · have hb := HB.out (by simp)
          have hb' : Hid _ := hb
          clear hb HB HG K0 K1 K2
          go_wp2_with fail
          refine bodyPost_ret (v := .tuple #[.int .i64 0, .int .i64 0, .int .i64 0, .int .i64 40]) (by simp [results, Tryz.results40, go_sem]) rfl ?_
          rw [hb'.out.1, hb'.out.2.1, hb'.out.2.2.1, hb'.out.2.2.2]
          exact ⟨rfl, hn⟩
        go_wp2_with fail
        obtain ⟨hs, hy0, hy1⟩ := HG.out (by trivial) (by trivial) (by trivial)
        replace hy0 := Lib.hid hy0
        replace hy1 := Lib.hid hy1
        have hbd := nI_bd hs
        unfold StP StV at hs
        obtain ⟨⟨⟨X0, X0'⟩, ⟨Z0, Z0'⟩, ⟨Y0, Y0'⟩⟩, ⟨⟨X1, X1'⟩, ⟨Z1, Z1'⟩, ⟨Y1, Y1'⟩⟩, ⟨⟨X2, X2'⟩, ⟨Z2, Z2'⟩, ⟨Y2, Y2'⟩⟩⟩ := hs
        clear HB HG K0 K1 K2
        rw [rounds_succ]
        go_upto_region 7 with fail
        go_cut [8, 9, 10] (fun s8 s9 s10 Z => ∃ p q r : Nat, s8 = .pointer (some ⟨p, 0, none⟩) ∧ s9 = .pointer (some ⟨q, 0, none⟩) ∧ s10 = .pointer (some ⟨r, 0, none⟩) ∧ New W3 Z ∧ (Z.cell? ⟨p, 0, none⟩ = some (.int .i64 x0) ∧ Z.cell? ⟨p, 1, none⟩ = some (.int .i64 y0) ∧ Z.cell? ⟨p, 2, none⟩ = some (.int .i64 z0)) ∧
          (Z.cell? ⟨q, 0, none⟩ = some (.int .i64 x1) ∧ Z.cell? ⟨q, 1, none⟩ = some (.int .i64 y1) ∧ Z.cell? ⟨q, 2, none⟩ = some (.int .i64 z1)) ∧ (Z.cell? ⟨r, 0, none⟩ = some (.int .i64 x2) ∧ Z.cell? ⟨r, 1, none⟩ = some (.int .i64 y2) ∧ Z.cell? ⟨r, 2, none⟩ = some (.int .i64 z2)))
        case first =>
          clear X0 X0' Z0 Z0' Y0 Y0' X1 X1' Z1 Z1' Y1 Y1' X2 X2' Z2 Z2' Y2 Y2' hy0 hy1 hbd
          have hk1 : ∀ o1 o2 o3, (((W3.alloc o1).alloc o2).alloc o3).cell? ⟨w.heap.size, 1, none⟩ = some (.int .i64 x0) := fun o1 o2 o3 => New.keep (by (repeat (first | (with_reducible exact New.refl _) | (with_reducible assumption) | ((with_reducible refine New.setB ?_ ?_ _); focus (first | omega | (simp; omega) | (simp; done))) | (with_reducible refine New.alloc ?_ _) | (with_reducible refine New.drew ?_) | (with_reducible refine New.drewN ?_ _) | (with_reducible refine New.hat ?_ _) | ((with_reducible apply New.snart); (with_reducible assumption))))) c1
          have hk2 : ∀ o1 o2 o3, (((W3.alloc o1).alloc o2).alloc o3).cell? ⟨w.heap.size, 2, none⟩ = some (.int .i64 y0) := fun o1 o2 o3 => New.keep (by (repeat (first | (with_reducible exact New.refl _) | (with_reducible assumption) | ((with_reducible refine New.setB ?_ ?_ _); focus (first | omega | (simp; omega) | (simp; done))) | (with_reducible refine New.alloc ?_ _) | (with_reducible refine New.drew ?_) | (with_reducible refine New.drewN ?_ _) | (with_reducible refine New.hat ?_ _) | ((with_reducible apply New.snart); (with_reducible assumption))))) c2
          have hk3 : ∀ o1 o2 o3, (((W3.alloc o1).alloc o2).alloc o3).cell? ⟨w.heap.size, 3, none⟩ = some (.int .i64 z0) := fun o1 o2 o3 => New.keep (by (repeat (first | (with_reducible exact New.refl _) | (with_reducible assumption) | ((with_reducible refine New.setB ?_ ?_ _); focus (first | omega | (simp; omega) | (simp; done))) | (with_reducible refine New.alloc ?_ _) | (with_reducible refine New.drew ?_) | (with_reducible refine New.drewN ?_ _) | (with_reducible refine New.hat ?_ _) | ((with_reducible apply New.snart); (with_reducible assumption))))) c3
          have hk4 : ∀ o1 o2 o3, (((W3.alloc o1).alloc o2).alloc o3).cell? ⟨w.heap.size, 4, none⟩ = some (.int .i64 x1) := fun o1 o2 o3 => New.keep (by (repeat (first | (with_reducible exact New.refl _) | (with_reducible assumption) | ((with_reducible refine New.setB ?_ ?_ _); focus (first | omega | (simp; omega) | (simp; done))) | (with_reducible refine New.alloc ?_ _) | (with_reducible refine New.drew ?_) | (with_reducible refine New.drewN ?_ _) | (with_reducible refine New.hat ?_ _) | ((with_reducible apply New.snart); (with_reducible assumption))))) c4
          have hk5 : ∀ o1 o2 o3, (((W3.alloc o1).alloc o2).alloc o3).cell? ⟨w.heap.size, 5, none⟩ = some (.int .i64 y1) := fun o1 o2 o3 => New.keep (by (repeat (first | (with_reducible exact New.refl _) | (with_reducible assumption) | ((with_reducible refine New.setB ?_ ?_ _); focus (first | omega | (simp; omega) | (simp; done))) | (with_reducible refine New.alloc ?_ _) | (with_reducible refine New.drew ?_) | (with_reducible refine New.drewN ?_ _) | (with_reducible refine New.hat ?_ _) | ((with_reducible apply New.snart); (with_reducible assumption))))) c5
          have hk6 : ∀ o1 o2 o3, (((W3.alloc o1).alloc o2).alloc o3).cell? ⟨w.heap.size, 6, none⟩ = some (.int .i64 z1) := fun o1 o2 o3 => New.keep (by (repeat (first | (with_reducible exact New.refl _) | (with_reducible assumption) | ((with_reducible refine New.setB ?_ ?_ _); focus (first | omega | (simp; omega) | (simp; done))) | (with_reducible refine New.alloc ?_ _) | (with_reducible refine New.drew ?_) | (with_reducible refine New.drewN ?_ _) | (with_reducible refine New.hat ?_ _) | ((with_reducible apply New.snart); (with_reducible assumption))))) c6
          have hk7 : ∀ o1 o2 o3, (((W3.alloc o1).alloc o2).alloc o3).cell? ⟨w.heap.size, 7, none⟩ = some (.int .i64 x2) := fun o1 o2 o3 => New.keep (by (repeat (first | (with_reducible exact New.refl _) | (with_reducible assumption) | ((with_reducible refine New.setB ?_ ?_ _); focus (first | omega | (simp; omega) | (simp; done))) | (with_reducible refine New.alloc ?_ _) | (with_reducible refine New.drew ?_) | (with_reducible refine New.drewN ?_ _) | (with_reducible refine New.hat ?_ _) | ((with_reducible apply New.snart); (with_reducible assumption))))) c7
          have hk8 : ∀ o1 o2 o3, (((W3.alloc o1).alloc o2).alloc o3).cell? ⟨w.heap.size, 8, none⟩ = some (.int .i64 y2) := fun o1 o2 o3 => New.keep (by (repeat (first | (with_reducible exact New.refl _) | (with_reducible assumption) | ((with_reducible refine New.setB ?_ ?_ _); focus (first | omega | (simp; omega) | (simp; done))) | (with_reducible refine New.alloc ?_ _) | (with_reducible refine New.drew ?_) | (with_reducible refine New.drewN ?_ _) | (with_reducible refine New.hat ?_ _) | ((with_reducible apply New.snart); (with_reducible assumption))))) c8
          have hk9 : ∀ o1 o2 o3, (((W3.alloc o1).alloc o2).alloc o3).cell? ⟨w.heap.size, 9, none⟩ = some (.int .i64 z2) := fun o1 o2 o3 => New.keep (by (repeat (first | (with_reducible exact New.refl _) | (with_reducible assumption) | ((with_reducible refine New.setB ?_ ?_ _); focus (first | omega | (simp; omega) | (simp; done))) | (with_reducible refine New.alloc ?_ _) | (with_reducible refine New.drew ?_) | (with_reducible refine New.drewN ?_ _) | (with_reducible refine New.hat ?_ _) | ((with_reducible apply New.snart); (with_reducible assumption))))) c9
          go_region
          all_goals
            go_wp2_with fail
            go_meet
            exact ⟨_, _, _, rfl, rfl, rfl, by (repeat (first | (with_reducible exact New.refl _) | (with_reducible assumption) | ((with_reducible refine New.setB ?_ ?_ _); focus (first | omega | (simp; omega) | (simp; done))) | (with_reducible refine New.alloc ?_ _) | (with_reducible refine New.drew ?_) | (with_reducible refine New.drewN ?_ _) | (with_reducible refine New.hat ?_ _) | ((with_reducible apply New.snart); (with_reducible assumption)))), ⟨by go_simp, by go_simp, by go_simp⟩, ⟨by go_simp, by go_simp, by go_simp⟩, ⟨by go_simp, by go_simp, by go_simp⟩⟩
        case rest =>
          obtain ⟨p, q, r, rfl, rfl, rfl, nZ, ⟨p0, p1, p2⟩, ⟨q0, q1, q2⟩, ⟨r0, r1, r2⟩⟩ := hcut
          replace hn := hn.trans nZ
          clear nZ c0 c1 c2 c3 c4 c5 c6 c7 c8 c9 zz
          rename World => W4
          go_wp2_with fail
          go_quiet (fail)
          generalize hW : World.drewN _ _ = W5
          have n5 : New W4 W5 := by subst hW; (repeat (first | (with_reducible exact New.refl _) | (with_reducible assumption) | ((with_reducible refine New.setB ?_ ?_ _); focus (first | omega | (simp; omega) | (simp; done))) | (with_reducible refine New.alloc ?_ _) | (with_reducible refine New.drew ?_) | (with_reducible refine New.drewN ?_ _) | (with_reducible refine New.hat ?_ _) | ((with_reducible apply New.snart); (with_reducible assumption))))
          replace p0 := n5.keep p0
          replace p1 := n5.keep p1
          replace p2 := n5.keep p2
          replace q0 := n5.keep q0
          replace q1 := n5.keep q1
          replace q2 := n5.keep q2
          replace r0 := n5.keep r0
          replace r1 := n5.keep r1
          replace r2 := n5.keep r2
          replace hn := hn.trans n5
          clear hW n5
          go_wp2_with fail
          go_quiet (fail)
          clear p0 p1 p2 q0 q1 q2 r0 r1 r2
          have a1 := mul_bd (a := y1 - y0) (b := z2 - z0) (A := 4096) (B := 32) (by omega) (by omega)
          have a2 := mul_bd (a := z1 - z0) (b := y2 - y0) (A := 32) (B := 4096) (by omega) (by omega)
          have a3 := mul_bd (a := z1 - z0) (b := x2 - x0) (A := 32) (B := 32) (by omega) (by omega)
          have a4 := mul_bd (a := x1 - x0) (b := z2 - z0) (A := 32) (B := 32) (by omega) (by omega)
          have a5 := mul_bd (a := x1 - x0) (b := y2 - y0) (A := 32) (B := 4096) (by omega) (by omega)
          have a6 := mul_bd (a := y1 - y0) (b := x2 - x0) (A := 4096) (B := 32) (by omega) (by omega)
          by_cases hy : nyI x0 y0 z0 x1 y1 z1 x2 y2 z2 = 0
          · have hb : Hid _ := hy0.out hy
            have he : (((z1 - z0) * (x2 - x0) - (x1 - x0) * (z2 - z0)) == 0) = true := by rw [beq_iff_eq]; exact hy
            clear hy0 hy1 hy hbd
            go_wp2_with fail
            refine bodyPost_ret (v := .tuple #[.int .i64 0, .int .i64 0, .int .i64 0, .int .i64 40]) (by simp [results, Tryz.results40, go_sem]) rfl ?_
            rw [hb.out.1, hb.out.2.1, hb.out.2.2.1, hb.out.2.2.2]
            exact ⟨rfl, by (repeat (first | (with_reducible exact New.refl _) | (with_reducible assumption) | ((with_reducible refine New.setB ?_ ?_ _); focus (first | omega | (simp; omega) | (simp; done))) | (with_reducible refine New.alloc ?_ _) | (with_reducible refine New.drew ?_) | (with_reducible refine New.drewN ?_ _) | (with_reducible refine New.hat ?_ _) | ((with_reducible apply New.snart); (with_reducible assumption))))⟩
          · have hb : Hid _ := hy1.out hy
            have he : (((z1 - z0) * (x2 - x0) - (x1 - x0) * (z2 - z0)) == 0) = false := by rw [beq_eq_false_iff_ne]; exact hy
            clear hy0 hy1 hy hbd
            go_wp2_with fail
            refine bodyPost_ret (v := .tuple #[.int .i64 ((y1 - y0) * (z2 - z0) - (z1 - z0) * (y2 - y0)), .int .i64 ((z1 - z0) * (x2 - x0) - (x1 - x0) * (z2 - z0)), .int .i64 ((x1 - x0) * (y2 - y0) - (y1 - y0) * (x2 - x0)), .int .i64 0]) (by simp [results, Tryz.results40, go_sem]) rfl ?_
            rw [hb.out.1, hb.out.2.1, hb.out.2.2.1, hb.out.2.2.2]
            exact ⟨rfl, by (repeat (first | (with_reducible exact New.refl _) | (with_reducible assumption) | ((with_reducible refine New.setB ?_ ?_ _); focus (first | omega | (simp; omega) | (simp; done))) | (with_reducible refine New.alloc ?_ _) | (with_reducible refine New.drew ?_) | (with_reducible refine New.drewN ?_ _) | (with_reducible refine New.hat ?_ _) | ((with_reducible apply New.snart); (with_reducible assumption))))⟩

end Go.Proofs.YtccikeagbillgaaGreat

/- The document's own: Bounds of triangles. -/
namespace Go.Proofs.YtccikeagbillgaaGreat
open Go.RowKit
set_option linter.unusedVariables false

end Go.Proofs.YtccikeagbillgaaGreat

/- The document's Walk, Height. -/
namespace Go.Proofs.YtccikeagbillgaaGreat
open Go.RowKit
set_option linter.unusedVariables false

set_option maxHeartbeats 2000000 in
set_option maxRecDepth 100000 in
theorem r_walk (cl cb ht ri ru wd dp i x0 y0 z0 x1 y1 z1 x2 y2 z2 : Int) (w : World) :
    Calls Tryz.prog 24 #[.agg #[.int .i64 cl, .int .i64 cb, .int .i64 ht, .int .i64 ri, .int .i64 ru, .int .i64 wd, .int .i64 dp], .agg #[.int .i64 i, .int .i64 x0, .int .i64 y0, .int .i64 z0, .int .i64 x1, .int .i64 y1, .int .i64 z1, .int .i64 x2, .int .i64 y2, .int .i64 z2]] w fun e w' => e = .returned (.tuple #[.bool (walkB cl cb ht ri ru wd dp x0 y0 z0 x1 y1 z1 x2 y2 z2), .int .i64 (walkE cl cb ht ri ru wd dp x0 y0 z0 x1 y1 z1 x2 y2 z2)]) ∧ New w w' := by
  obtain ⟨v, hv⟩ : ∃ v, v = walkE cl cb ht ri ru wd dp x0 y0 z0 x1 y1 z1 x2 y2 z2 := ⟨_, rfl⟩
  obtain ⟨b, hb⟩ : ∃ b, b = walkB cl cb ht ri ru wd dp x0 y0 z0 x1 y1 z1 x2 y2 z2 := ⟨_, rfl⟩
  rw [← hv, ← hb]
  unfold walkE at hv
  unfold walkB at hb
  have hcc := fun W => rcheck_any cl cb ht ri ru wd dp W
  have htwo := checkE_two cl cb ht ri ru wd dp
  have hok := checkE_ok (cl := cl) (cb := cb) (ht := ht) (ri := ri) (ru := ru) (wd := wd) (dp := dp)
  generalize checkE cl cb ht ri ru wd dp = ce at *
  rcases htwo with rfl | rfl
  rotate_left
  · have hv1 : Hid (v = 20 ∧ b = false) := by show v = 20 ∧ b = false; rw [hv, hb]; simp
    clear hv hb hok
    go_enter Tryz.func24, Tryz.ntmps24
    go_wp2_with fail
    refine (hcc _).mono ?_
    rintro e W0 ⟨rfl, n1, -⟩
    have hn : New w W0 := New.trans (by (repeat (first | (with_reducible exact New.refl _) | (with_reducible assumption) | ((with_reducible refine New.setB ?_ ?_ _); focus (first | omega | (simp; omega) | (simp; done))) | (with_reducible refine New.alloc ?_ _) | (with_reducible refine New.drew ?_) | (with_reducible refine New.drewN ?_ _) | (with_reducible refine New.hat ?_ _) | ((with_reducible apply New.snart); (with_reducible assumption))))) n1
    clear n1 hcc
    go_wp2_with fail
    refine bodyPost_ret (v := .tuple #[.bool false, .int .i64 20]) (by simp [results, Tryz.results24, go_sem]) rfl ?_
    rw [hv1.out.1, hv1.out.2]
    exact ⟨rfl, hn⟩
  have hno := fun W => r_normal i x0 y0 z0 x1 y1 z1 x2 y2 z2 W
  obtain ⟨hri, hru, -, -⟩ := hok rfl
  clear hok
  cases hk : okB x0 y0 z0 x1 y1 z1 x2 y2 z2
  · obtain ⟨h1, h2, h3, h4⟩ := norm_no hk
    rw [h1, h2, h3, h4] at hno
    have hv1 : Hid (v = 40 ∧ b = false) := by show v = 40 ∧ b = false; rw [hv, hb, h4, hk]; simp
    clear hv hb hri hru h1 h2 h3 h4 hk
    go_enter Tryz.func24, Tryz.ntmps24
    go_wp2_with fail
    generalize hW : World.alloc _ _ = W
    (have c0 : (W).cell? ⟨w.heap.size + 1, 0, none⟩ = some (.int .i64 i) := (by subst hW; go_simp)); (have c1 : (W).cell? ⟨w.heap.size + 1, 1, none⟩ = some (.int .i64 x0) := (by subst hW; go_simp)); (have c2 : (W).cell? ⟨w.heap.size + 1, 2, none⟩ = some (.int .i64 y0) := (by subst hW; go_simp)); (have c3 : (W).cell? ⟨w.heap.size + 1, 3, none⟩ = some (.int .i64 z0) := (by subst hW; go_simp)); (have c4 : (W).cell? ⟨w.heap.size + 1, 4, none⟩ = some (.int .i64 x1) := (by subst hW; go_simp)); (have c5 : (W).cell? ⟨w.heap.size + 1, 5, none⟩ = some (.int .i64 y1) := (by subst hW; go_simp)); (have c6 : (W).cell? ⟨w.heap.size + 1, 6, none⟩ = some (.int .i64 z1) := (by subst hW; go_simp)); (have c7 : (W).cell? ⟨w.heap.size + 1, 7, none⟩ = some (.int .i64 x2) := (by subst hW; go_simp)); (have c8 : (W).cell? ⟨w.heap.size + 1, 8, none⟩ = some (.int .i64 y2) := (by subst hW; go_simp)); (have c9 : (W).cell? ⟨w.heap.size + 1, 9, none⟩ = some (.int .i64 z2) := (by subst hW; go_simp))
    have hn : New w W := by subst hW; (repeat (first | (with_reducible exact New.refl _) | (with_reducible assumption) | ((with_reducible refine New.setB ?_ ?_ _); focus (first | omega | (simp; omega) | (simp; done))) | (with_reducible refine New.alloc ?_ _) | (with_reducible refine New.drew ?_) | (with_reducible refine New.drewN ?_ _) | (with_reducible refine New.hat ?_ _) | ((with_reducible apply New.snart); (with_reducible assumption))))
    clear hW
    refine (hcc _).mono ?_
    rintro e W0 ⟨rfl, n1, -⟩
    ((replace c0 := New.keep n1 c0); (replace c1 := New.keep n1 c1); (replace c2 := New.keep n1 c2); (replace c3 := New.keep n1 c3); (replace c4 := New.keep n1 c4); (replace c5 := New.keep n1 c5); (replace c6 := New.keep n1 c6); (replace c7 := New.keep n1 c7); (replace c8 := New.keep n1 c8); (replace c9 := New.keep n1 c9))
    replace hn : New w W0 := New.trans hn n1
    clear n1 hcc
    go_wp2_with fail
    refine (hno _).mono ?_
    rintro e W1 ⟨rfl, n1⟩
    replace hn : New w W1 := New.trans hn n1
    clear n1 hno
    go_wp2_with fail
    refine bodyPost_ret (v := .tuple #[.bool false, .int .i64 40]) (by simp [results, Tryz.results24, go_sem]) rfl ?_
    rw [hv1.out.1, hv1.out.2]
    exact ⟨rfl, hn⟩
  · obtain ⟨h1, h2, h3, h4⟩ := norm_yes hk
    obtain ⟨bx, by', bz⟩ := nI_bd (ok_st hk).1
    rw [h1, h2, h3, h4] at hno
    rw [hk, Bool.and_true] at hb
    rw [h4] at hv
    clear h1 h2 h3 h4 hk
    generalize nxI x0 y0 z0 x1 y1 z1 x2 y2 z2 = nx at *
    generalize nyI x0 y0 z0 x1 y1 z1 x2 y2 z2 = ny at *
    generalize nzI x0 y0 z0 x1 y1 z1 x2 y2 z2 = nz at *
    have hv1 : Hid (v = 0 ∧ b = decide ((nx * nx + nz * nz) * ru * ru ≤ ny * ny * ri * ri)) := by
      show v = 0 ∧ b = _
      rw [hv, hb]; simp [slopeB]
    have s1 := sq_in bx
    have s2 := sq_in by'
    have s3 := sq_in bz
    have s4 := pos_mul (a := nx * nx + nz * nz) (b := ru) (A := 137438953472) (B := 100) (by omega) (by omega)
    have s5 := pos_mul (a := (nx * nx + nz * nz) * ru) (b := ru) (A := 13743895347200) (B := 100) (by omega) (by omega)
    have s6 := pos_mul (a := ny * ny) (b := ri) (A := 4194304) (B := 100) (by omega) (by omega)
    have s7 := pos_mul (a := ny * ny * ri) (b := ri) (A := 419430400) (B := 100) (by omega) (by omega)
    clear hv hb hri hru bx by' bz
    go_enter Tryz.func24, Tryz.ntmps24
    go_wp2_with fail
    generalize hW : World.alloc _ _ = W
    (have c0 : (W).cell? ⟨w.heap.size + 1, 0, none⟩ = some (.int .i64 i) := (by subst hW; go_simp)); (have c1 : (W).cell? ⟨w.heap.size + 1, 1, none⟩ = some (.int .i64 x0) := (by subst hW; go_simp)); (have c2 : (W).cell? ⟨w.heap.size + 1, 2, none⟩ = some (.int .i64 y0) := (by subst hW; go_simp)); (have c3 : (W).cell? ⟨w.heap.size + 1, 3, none⟩ = some (.int .i64 z0) := (by subst hW; go_simp)); (have c4 : (W).cell? ⟨w.heap.size + 1, 4, none⟩ = some (.int .i64 x1) := (by subst hW; go_simp)); (have c5 : (W).cell? ⟨w.heap.size + 1, 5, none⟩ = some (.int .i64 y1) := (by subst hW; go_simp)); (have c6 : (W).cell? ⟨w.heap.size + 1, 6, none⟩ = some (.int .i64 z1) := (by subst hW; go_simp)); (have c7 : (W).cell? ⟨w.heap.size + 1, 7, none⟩ = some (.int .i64 x2) := (by subst hW; go_simp)); (have c8 : (W).cell? ⟨w.heap.size + 1, 8, none⟩ = some (.int .i64 y2) := (by subst hW; go_simp)); (have c9 : (W).cell? ⟨w.heap.size + 1, 9, none⟩ = some (.int .i64 z2) := (by subst hW; go_simp))
    have b3 : W.cell? ⟨w.heap.size, 3, none⟩ = some (.int .i64 ri) := by subst hW; go_simp
    have b4 : W.cell? ⟨w.heap.size, 4, none⟩ = some (.int .i64 ru) := by subst hW; go_simp
    have hn : New w W := by subst hW; (repeat (first | (with_reducible exact New.refl _) | (with_reducible assumption) | ((with_reducible refine New.setB ?_ ?_ _); focus (first | omega | (simp; omega) | (simp; done))) | (with_reducible refine New.alloc ?_ _) | (with_reducible refine New.drew ?_) | (with_reducible refine New.drewN ?_ _) | (with_reducible refine New.hat ?_ _) | ((with_reducible apply New.snart); (with_reducible assumption))))
    clear hW
    refine (hcc _).mono ?_
    rintro e W0 ⟨rfl, n1, -⟩
    ((replace c0 := New.keep n1 c0); (replace c1 := New.keep n1 c1); (replace c2 := New.keep n1 c2); (replace c3 := New.keep n1 c3); (replace c4 := New.keep n1 c4); (replace c5 := New.keep n1 c5); (replace c6 := New.keep n1 c6); (replace c7 := New.keep n1 c7); (replace c8 := New.keep n1 c8); (replace c9 := New.keep n1 c9))
    replace b3 := New.keep n1 b3
    replace b4 := New.keep n1 b4
    replace hn : New w W0 := New.trans hn n1
    clear n1 hcc
    go_wp2_with fail
    refine (hno _).mono ?_
    rintro e W1 ⟨rfl, n1⟩
    replace b3 := New.keep n1 b3
    replace b4 := New.keep n1 b4
    replace hn : New w W1 := New.trans hn n1
    clear n1 hno c0 c1 c2 c3 c4 c5 c6 c7 c8 c9
    go_wp2_with fail
    refine bodyPost_ret (v := .tuple #[.bool (decide ((nx * nx + nz * nz) * ru * ru ≤ ny * ny * ri * ri)), .int .i64 0]) (by simp [results, Tryz.results24, go_sem]) rfl ?_
    rw [hv1.out.1, hv1.out.2]
    exact ⟨rfl, hn⟩

end Go.Proofs.YtccikeagbillgaaGreat

/- The document's own put and Merge: where their rows lie is told, too. (SpRb's and SpRc's walks.) -/
namespace Go.Proofs.YtccikeagbillgaaGreat
open Go.RowKit
set_option linter.unusedVariables false

set_option maxHeartbeats 8000000 in
set_option maxRecDepth 100000 in
theorem rs_put_own (v : Value) (l : List Sn) (c : Sn) (w : World) (hs : Sl Sn.enc 3 w v l) (hl : l.length ≤ 1000) :
    Calls Tryz.prog 42 #[v, .agg #[.int .i64 c.lo, .int .i64 c.hi, .bool c.wk]] w fun e w' => ∃ v', e = .returned v' ∧ Sl Sn.enc 3 w' v' (putS c l false) ∧ (∀ g, v'.ownBlock = some g → w.heap.size ≤ g) ∧ New w w' := by
  obtain ⟨i0, hi, hz0, hz1, hz2⟩ := info_parts sn_info
  have HI := Lib.hid hi
  have HZ0 := Lib.hid hz0
  have HZ1 := Lib.hid hz1
  have HZ2 := Lib.hid hz2
  have KM := Lib.hid (fun p q W => r_meet p q W)
  have KJ := Lib.hid (fun p q W => r_join p q W)
  obtain ⟨at0, cap, rfl, hcap, hmax, -, hrow⟩ := hs
  have HR := Lib.hid hrow
  unfold maxLen at hmax
  obtain ⟨n, hn⟩ : ∃ n, n = l.length := ⟨_, rfl⟩
  rw [← hn] at hl hcap ⊢
  have HNL := Lib.hid hn
  clear hi hz0 hz1 hz2 hrow hn
  go_enter Tryz.func42, Tryz.ntmps42
  go_wp2_with fail
  refine Code.at (fun W0 hW => ?_)
  have P0 : PutSt w w.heap.size W0.heap.size W0 (.slice none 0 0) [] c := by
    subst hW
    exact ⟨by (repeat (first | (with_reducible exact New.refl _) | (with_reducible assumption) | ((with_reducible refine New.setB ?_ ?_ _); focus (first | omega | (simp; omega) | (simp; done))) | (with_reducible refine New.alloc ?_ _) | (with_reducible refine New.drew ?_) | (with_reducible refine New.drewN ?_ _) | (with_reducible refine New.hat ?_ _) | ((with_reducible apply New.snart); (with_reducible assumption)))), by simp, World.ownsRow_nil _ _ _ _, by go_simp, by go_simp, by go_simp, fun j hj => by go_simp⟩
  have HP0 := Lib.hid P0
  have HS : Hid ([] ++ putS c (l.drop 0) false = putS c l false) := Lib.hid (by rw [List.drop_zero]; rfl)
  obtain ⟨B, hB⟩ : ∃ B, B = w.heap.size := ⟨_, rfl⟩
  obtain ⟨base, hbase⟩ : ∃ base, base = W0.heap.size := ⟨_, rfl⟩
  rw [← hB, ← hbase] at HP0
  rw [← hB]
  have hz0 : w.heap.size ≤ base := by rw [hbase]; subst hW; simp; try omega
  have HBS := Lib.hid hz0
  clear hW P0 hB hbase hz0
  go_loopg [5, 6, 7] n (fun gk s5 s6 s7 wr => ∃ (i : Nat) (o : List Sn) (u : Value) (s : Sn) (dn : Bool), u = s5 ∧ s6 = .bool dn ∧ s7 = .int .i64 i ∧ i ≤ n ∧ n - i ≤ gk ∧ o.length ≤ 2 * i ∧ Hid (o ++ putS s (l.drop i) dn = putS c l false) ∧ Hid (PutSt w B base wr u o s))
  case atStart => exact ⟨0, [], _, c, false, rfl, rfl, rfl, by omega, by omega, by simp, HS, HP0⟩
  case round =>
    clear HP0 HS
    obtain ⟨i, o, u, s, dn, rfl, rfl, rfl, hi, hgk, ho, HE, HP⟩ := hrel
    by_cases hlt : i < n
    · have hil : i < l.length := by rw [← HNL.out]; exact hlt
      obtain ⟨g, off, rfl, hA⟩ := HR.out (by omega)
      obtain ⟨r0, r1, r2⟩ := Sn.cells (hA.keep HP.out.new) i hil
      have HA := Lib.hid hA
      have HDR : Hid (l.drop i = l[i] :: l.drop (i + 1)) := Lib.hid (List.drop_eq_getElem_cons hil)
      obtain ⟨E, hE⟩ : ∃ E, E = l[i] := ⟨_, rfl⟩
      rw [← hE] at r0 r1 r2 HDR
      have HEE := Lib.hid hE
      clear hE hA
      have k0 := HP.out.c0
      have k1 := HP.out.c1
      have k2 := HP.out.c2
      cases hm : meets E s
      · have KC : Hid (∀ W, Calls Tryz.prog 67 #[.agg #[.int .i64 E.lo, .int .i64 E.hi, .bool E.wk], .agg #[.int .i64 s.lo, .int .i64 s.hi, .bool s.wk]] W fun e w' => e = .returned (.bool false) ∧ New W w') := Lib.hid (fun W => by rw [← hm]; exact KM.out E s W)
        have HM := Lib.hid hm
        clear hm
        go_upto_region 6 with fail
        (refine wp_region_hat (by kernel_rfl) (by kernel_rfl) ?_; intro hatc hatf; (repeat (go_big_quiet_step ((go_at_call 67; exact Calls.hat (KC.out _))))); refine wpQuiet_nil ?_; rintro _ ⟨X, rfl⟩)
        clear hatc hatf
        (replace r0 := New.keep X.h r0; replace r1 := New.keep X.h r1; replace r2 := New.keep X.h r2; replace k0 := New.keep X.h k0; replace k1 := New.keep X.h k1; replace k2 := New.keep X.h k2)
        have HP := Lib.hid (HP.out.keep X.h)
        generalize X.w = W6 at *
        clear X
        cases dn
        · by_cases hg : s.hi < E.lo
          · have hgd : decide (s.hi < E.lo) = true := decide_eq_true hg
            have HE2 : Hid (((o ++ [s]) ++ [E]) ++ putS s (l.drop (i + 1)) true = putS c l false) := Lib.hid (by
              rw [← HE.out, HDR.out, putS, HM.out]; simp [hg])
            clear HE hg
            go_upto_region 8 with fail
            (refine wp_region_hat (by kernel_rfl) (by kernel_rfl) ?_; intro hatc hatf; (repeat (go_big_quiet_step ((fail)))); refine wpQuiet_nil ?_; rintro _ ⟨X, rfl⟩)
            clear hatc hatf
            (replace r0 := New.keep X.h r0; replace r1 := New.keep X.h r1; replace r2 := New.keep X.h r2; replace k0 := New.keep X.h k0; replace k1 := New.keep X.h k1; replace k2 := New.keep X.h k2)
            have HP := Lib.hid (HP.out.keep X.h)
            generalize X.w = W6 at *
            clear X
            have hol : (o).length ≤ 2100 := by (try simp only [List.length_append, List.length_cons, List.length_nil]); omega
            have hzw : base ≤ _ := HP.out.lt.2.2
            go_wp2_with (at_builtin; refine wpList_append_own _ rfl _ _ 27 rfl base 48 i0 (.agg #[.int .i64 0, .int .i64 0, .bool false]) 3 24 Tryz.underlying27 HI.out HZ0.out HZ1.out HZ2.out rfl (by decide) _ (o).length ((o).flatMap Sn.enc) rfl (World.ownsRow.alloc HP.out.own _) ⟨_, 0, none⟩ 1 1 s.enc rfl rfl (sn_new _ _ _) (Sn.enc_one s) (by unfold maxLen; omega) (by omega) (by simp; omega) ?_)
            intro v7 W7 ho7 hg7 _
            have HP := Lib.hid ((HP.out.keep ((New.refl _).alloc _)).more ho7 hg7)
            have n7 : New w W7 := HP.out.new
            (obtain ⟨r0, r1, r2⟩ := Sn.cells (HA.out.keep n7) i hil)
            rw [← HEE.out] at r0 r1 r2
            clear hol hzw ho7 hg7 k0 k1 k2
            have k0 := HP.out.c0
            have k1 := HP.out.c1
            have k2 := HP.out.c2
            obtain ⟨o1, hO1⟩ : ∃ o1, o1 = o ++ [s] := ⟨_, rfl⟩
            rw [← hO1] at HP
            have hl1 : o1.length ≤ 2 * i + 1 := by rw [hO1]; simp; omega
            have HE3 : Hid ((o1 ++ [E]) ++ putS s (l.drop (i + 1)) true = putS c l false) := Lib.hid (by rw [hO1]; exact HE2.out)
            clear hO1 HE2
            have hol : (o1).length ≤ 2100 := by (try simp only [List.length_append, List.length_cons, List.length_nil]); omega
            have hzw : base ≤ _ := HP.out.lt.2.2
            go_wp2_with (at_builtin; refine wpList_append_own _ rfl _ _ 27 rfl base 48 i0 (.agg #[.int .i64 0, .int .i64 0, .bool false]) 3 24 Tryz.underlying27 HI.out HZ0.out HZ1.out HZ2.out rfl (by decide) _ (o1).length ((o1).flatMap Sn.enc) rfl (World.ownsRow.alloc HP.out.own _) ⟨_, 0, none⟩ 1 1 E.enc rfl rfl (sn_new _ _ _) (Sn.enc_one E) (by unfold maxLen; omega) (by omega) (by simp; omega) ?_)
            intro v7 W7 ho7 hg7 _
            have HP := Lib.hid ((HP.out.keep ((New.refl _).alloc _)).more ho7 hg7)
            clear hol hzw ho7 hg7 k0 k1 k2
            go_wp2_with fail
            go_roundg (n - (i + 1))
            case measure => omega
            case rel => exact ⟨i + 1, o1 ++ [E], _, s, true, rfl, rfl, by go_num, by omega, by omega, by simp only [List.length_append, List.length_cons, List.length_nil]; omega, HE3, HP⟩
          · have hgd : decide (s.hi < E.lo) = false := decide_eq_false hg
            have HE2 : Hid ((o ++ [E]) ++ putS s (l.drop (i + 1)) false = putS c l false) := Lib.hid (by
              rw [← HE.out, HDR.out, putS, HM.out]; simp [hg])
            clear HE hg
            go_upto_region 8 with fail
            (refine wp_region_hat (by kernel_rfl) (by kernel_rfl) ?_; intro hatc hatf; (repeat (go_big_quiet_step ((fail)))); refine wpQuiet_nil ?_; rintro _ ⟨X, rfl⟩)
            clear hatc hatf
            (replace r0 := New.keep X.h r0; replace r1 := New.keep X.h r1; replace r2 := New.keep X.h r2; replace k0 := New.keep X.h k0; replace k1 := New.keep X.h k1; replace k2 := New.keep X.h k2)
            have HP := Lib.hid (HP.out.keep X.h)
            generalize X.w = W6 at *
            clear X
            have hol : (o).length ≤ 2100 := by (try simp only [List.length_append, List.length_cons, List.length_nil]); omega
            have hzw : base ≤ _ := HP.out.lt.2.2
            go_wp2_with (at_builtin; refine wpList_append_own _ rfl _ _ 27 rfl base 48 i0 (.agg #[.int .i64 0, .int .i64 0, .bool false]) 3 24 Tryz.underlying27 HI.out HZ0.out HZ1.out HZ2.out rfl (by decide) _ (o).length ((o).flatMap Sn.enc) rfl (World.ownsRow.alloc HP.out.own _) ⟨_, 0, none⟩ 1 1 E.enc rfl rfl (sn_new _ _ _) (Sn.enc_one E) (by unfold maxLen; omega) (by omega) (by simp; omega) ?_)
            intro v7 W7 ho7 hg7 _
            have HP := Lib.hid ((HP.out.keep ((New.refl _).alloc _)).more ho7 hg7)
            clear hol hzw ho7 hg7 k0 k1 k2
            go_wp2_with fail
            go_roundg (n - (i + 1))
            case measure => omega
            case rel => exact ⟨i + 1, o ++ [E], _, s, false, rfl, rfl, by go_num, by omega, by omega, by simp only [List.length_append, List.length_cons, List.length_nil]; omega, HE2, HP⟩
        · have HE2 : Hid ((o ++ [E]) ++ putS s (l.drop (i + 1)) true = putS c l false) := Lib.hid (by
            rw [← HE.out, HDR.out, putS, HM.out]; simp)
          clear HE
          go_upto_region 8 with fail
          (refine wp_region_hat (by kernel_rfl) (by kernel_rfl) ?_; intro hatc hatf; (repeat (go_big_quiet_step ((fail)))); refine wpQuiet_nil ?_; rintro _ ⟨X, rfl⟩)
          clear hatc hatf
          (replace r0 := New.keep X.h r0; replace r1 := New.keep X.h r1; replace r2 := New.keep X.h r2; replace k0 := New.keep X.h k0; replace k1 := New.keep X.h k1; replace k2 := New.keep X.h k2)
          have HP := Lib.hid (HP.out.keep X.h)
          generalize X.w = W6 at *
          clear X
          have hol : (o).length ≤ 2100 := by (try simp only [List.length_append, List.length_cons, List.length_nil]); omega
          have hzw : base ≤ _ := HP.out.lt.2.2
          go_wp2_with (at_builtin; refine wpList_append_own _ rfl _ _ 27 rfl base 48 i0 (.agg #[.int .i64 0, .int .i64 0, .bool false]) 3 24 Tryz.underlying27 HI.out HZ0.out HZ1.out HZ2.out rfl (by decide) _ (o).length ((o).flatMap Sn.enc) rfl (World.ownsRow.alloc HP.out.own _) ⟨_, 0, none⟩ 1 1 E.enc rfl rfl (sn_new _ _ _) (Sn.enc_one E) (by unfold maxLen; omega) (by omega) (by simp; omega) ?_)
          intro v7 W7 ho7 hg7 _
          have HP := Lib.hid ((HP.out.keep ((New.refl _).alloc _)).more ho7 hg7)
          clear hol hzw ho7 hg7 k0 k1 k2
          go_wp2_with fail
          go_roundg (n - (i + 1))
          case measure => omega
          case rel => exact ⟨i + 1, o ++ [E], _, s, true, rfl, rfl, by go_num, by omega, by omega, by simp only [List.length_append, List.length_cons, List.length_nil]; omega, HE2, HP⟩
      · have KC : Hid (∀ W, Calls Tryz.prog 67 #[.agg #[.int .i64 E.lo, .int .i64 E.hi, .bool E.wk], .agg #[.int .i64 s.lo, .int .i64 s.hi, .bool s.wk]] W fun e w' => e = .returned (.bool true) ∧ New W w') := Lib.hid (fun W => by rw [← hm]; exact KM.out E s W)
        obtain ⟨U, hU⟩ : ∃ U, U = un E s := ⟨_, rfl⟩
        have KC2 : Hid (∀ W, Calls Tryz.prog 68 #[.agg #[.int .i64 E.lo, .int .i64 E.hi, .bool E.wk], .agg #[.int .i64 s.lo, .int .i64 s.hi, .bool s.wk]] W fun e w' => e = .returned (.agg #[.int .i64 U.lo, .int .i64 U.hi, .bool U.wk]) ∧ New W w') := Lib.hid (fun W => by rw [hU]; exact KJ.out E s W)
        have HE2 : Hid (o ++ putS U (l.drop (i + 1)) dn = putS c l false) := Lib.hid (by
          rw [← HE.out, HDR.out, putS, if_pos hm, hU])
        clear HE hm hU
        go_upto_region 6 with fail
        (refine wp_region_hat (by kernel_rfl) (by kernel_rfl) ?_; intro hatc hatf; (repeat (go_big_quiet_step ((go_at_call 67; exact Calls.hat (KC.out _))))); refine wpQuiet_nil ?_; rintro _ ⟨X, rfl⟩)
        clear hatc hatf
        (replace r0 := New.keep X.h r0; replace r1 := New.keep X.h r1; replace r2 := New.keep X.h r2; replace k0 := New.keep X.h k0; replace k1 := New.keep X.h k1; replace k2 := New.keep X.h k2)
        have HP := Lib.hid (HP.out.keep X.h)
        generalize X.w = W6 at *
        clear X
        go_upto_region 7 with fail
        (refine wp_region_steady 6 (by kernel_rfl) (by kernel_rfl) ?_; (intro hatc hatf; simp only [List.take_succ_cons, List.take_zero, List.drop_succ_cons, List.drop_zero]; (repeat (first | (refine mildWalk_made (by decide) ?_; simp only [Act.put, List.setIfInBounds_toArray, List.set_cons_zero, List.set_cons_succ]) | (refine mildWalk_step (by decide) (fun K hK => ?_); go_simp; first | (refine hK _ ?_; clear hK K) | (apply Exists.intro; refine ⟨fun _ => ?_, hK _ ?_⟩; (go_at_call 68; exact KC2.out _); clear hK K)))); refine mildWalk_nil ?_; (try simp only [List.setIfInBounds_toArray, List.set_cons_zero, List.set_cons_succ])))
        intro x
        clear hatc hatf
        have HP := Lib.hid (HP.out.keep x.h)
        generalize x.w = W3 at *
        clear r0 r1 r2 k0 k1 k2
        have HT := Lib.hid HP.out.there
        have HP := Lib.hid (HP.out.join U)
        go_wp2_with (refine wpList_store_mid rfl 48 _ _ rfl B 0 #[.int .i64 U.lo, .int .i64 U.hi, .bool U.wk] rfl rfl HT.out (by kernel_rfl) (all_oneCell_toArray (Sn.enc_one U)) ?_)
        clear HT
        go_wp2_with fail
        go_roundg (n - (i + 1))
        case measure => omega
        case rel => exact ⟨i + 1, o, _, U, dn, rfl, rfl, by go_num, by omega, by omega, by omega, HE2, HP⟩
    · have e : i = n := by omega
      subst e
      have hdr : l.drop i = [] := List.drop_eq_nil_of_le (by have := HNL.out; omega)
      have k0 := HP.out.c0
      have k1 := HP.out.c1
      have k2 := HP.out.c2
      cases dn
      · have HE2 : Hid (o ++ [s] = putS c l false) := Lib.hid (by rw [← HE.out, hdr]; rfl)
        clear HE hdr
        have hol : (o).length ≤ 2100 := by (try simp only [List.length_append, List.length_cons, List.length_nil]); omega
        have hzw : base ≤ _ := HP.out.lt.2.2
        go_wp2_with (at_builtin; refine wpList_append_own _ rfl _ _ 27 rfl base 48 i0 (.agg #[.int .i64 0, .int .i64 0, .bool false]) 3 24 Tryz.underlying27 HI.out HZ0.out HZ1.out HZ2.out rfl (by decide) _ (o).length ((o).flatMap Sn.enc) rfl (World.ownsRow.alloc HP.out.own _) ⟨_, 0, none⟩ 1 1 s.enc rfl rfl (sn_new _ _ _) (Sn.enc_one s) (by unfold maxLen; omega) (by omega) (by simp; omega) ?_)
        intro v7 W7 ho7 hg7 _
        have HP := Lib.hid ((HP.out.keep ((New.refl _).alloc _)).more ho7 hg7)
        clear hol hzw ho7 hg7 k0 k1 k2
        go_wp2_with fail
        go_ret
        exact ⟨_, rfl, by rw [← HE2.out]; exact own_sl Sn.enc_len HP.out.own, fun g h => Nat.le_trans HBS.out (own_block HP.out.own g h), HP.out.new⟩
      · have HE2 : Hid (o = putS c l false) := Lib.hid (by rw [← HE.out, hdr]; simp [putS])
        clear HE hdr
        go_wp2_with fail
        go_ret
        exact ⟨_, rfl, by rw [← HE2.out]; exact own_sl Sn.enc_len HP.out.own, fun g h => Nat.le_trans HBS.out (own_block HP.out.own g h), HP.out.new⟩


set_option maxHeartbeats 4000000 in
set_option maxRecDepth 100000 in
theorem r_merge_own (at0 : Option Addr) (l : List Sn) (c : Nat) (hl : l.length ≤ 1000) (w : World) (h : Sl Sn.enc 3 w (.slice at0 l.length c) l) :
    Calls Tryz.prog 25 #[.slice at0 l.length c] w fun e w' => New w w' ∧ ((fstB badS l = true ∧ e = .returned (.tuple #[.slice none 0 0, .int .i64 2])) ∨ (fstB badS l = false ∧ ∃ (R : List Sn) (a : Option Addr) (c : Nat), IsM l R ∧ R.length ≤ l.length ∧ e = .returned (.tuple #[.slice a R.length c, .int .i64 0]) ∧ Sl Sn.enc 3 w' (.slice a R.length c) R ∧ (∀ g, (Value.slice a R.length c).ownBlock = some g → w.heap.size ≤ g))) := by
  have KM := Lib.hid (fun p W => r_may p W)
  have KP := Lib.hid (fun v K p W hs hK => rs_put_own v K p W hs hK)
  have HR := Lib.hid h.row'.2.2.2.2
  obtain ⟨n, hn⟩ : ∃ n, n = l.length := ⟨_, rfl⟩
  rw [← hn] at hl ⊢
  have HN := Lib.hid hn
  clear h hn
  go_enter Tryz.func25, Tryz.ntmps25
  go_wp2_with fail
  go_loopg [4, 5] n (fun gk s4 s5 wr => ∃ (i : Nat) (K : List Sn) (u : Value), u = s4 ∧ s5 = .int .i64 i ∧ i ≤ n ∧ n - i ≤ gk ∧ K.length ≤ i ∧ Hid (IsM (l.take i) K) ∧ Hid (∀ j (h : j < l.length), j < i → badS l[j] = false) ∧ Hid (Sl Sn.enc 3 wr u K) ∧ Hid (∀ g, u.ownBlock = some g → w.heap.size ≤ g) ∧ Hid (New w wr))
  case atStart => exact ⟨0, [], _, rfl, rfl, by omega, by omega, by simp, Lib.hid (by simpa using IsM.nil), Lib.hid (fun j _ h => by omega), Lib.hid Sl.nil, Lib.hid (fun g h => by simp [Value.ownBlock] at h), Lib.hid (New.refl _)⟩
  case round =>
    obtain ⟨i, K, u, rfl, rfl, hi, hgk, hKl, HI, HB, HS, HFR, HW⟩ := hrel
    by_cases hlt : i < n
    · have hil : i < l.length := by rw [← HN.out]; exact hlt
      obtain ⟨g, off, rfl, hA⟩ := HR.out (by omega)
      obtain ⟨r0, r1, r2⟩ := Sn.cells (hA.keep HW.out) i hil
      have HA := Lib.hid hA
      obtain ⟨E, hE⟩ : ∃ E, E = l[i] := ⟨_, rfl⟩
      rw [← hE] at r0 r1 r2
      have HEE := Lib.hid hE
      clear hE hA
      cases hb : badS E
      · have KC : Hid (∀ W, Calls Tryz.prog 41 #[.agg #[.int .i64 E.lo, .int .i64 E.hi, .bool E.wk]] W fun e w' => e = .returned (.bool true) ∧ New W w') := Lib.hid (fun W => by have := KM.out E W; rw [hb] at this; exact this)
        have HBE := Lib.hid hb
        clear hb
        go_wp2_with fail
        refine (KC.out _).mono ?_
        rintro e w1 ⟨rfl, n1⟩
        (replace r0 := n1.keep r0; replace r1 := n1.keep r1; replace r2 := n1.keep r2)
        have HW1 := Lib.hid (HW.out.trans n1)
        have HS1 := Lib.hid (HS.out.keep n1)
        clear n1
        go_wp2_with fail
        refine (KP.out _ K E _ HS1.out (by omega)).mono ?_
        rintro e w2 ⟨v', rfl, hs2, hf2, n2⟩
        have HFR2 : Hid (∀ g, v'.ownBlock = some g → w.heap.size ≤ g) := Lib.hid (fun g h => Nat.le_trans HW1.out.size (hf2 g h))
        clear hf2
        have HS2 := Lib.hid hs2
        have HW2 := Lib.hid (HW1.out.trans n2)
        clear hs2 n2 r0 r1 r2
        go_wp2_with fail
        go_roundg (n - (i + 1))
        case measure => omega
        case rel =>
          have hall : ∀ j (h : j < l.length), j < i + 1 → badS l[j] = false := fun j h hj => by
            by_cases e : j < i
            · exact HB.out j h e
            · have e2 : j = i := by omega
              subst e2
              rw [← HEE.out]; exact HBE.out
          refine ⟨i + 1, putS E K false, _, rfl, by go_num, by omega, by omega, by have := putS_len E K false; omega, Lib.hid ?_, Lib.hid hall, HS2, HFR2, HW2⟩
          rw [List.take_succ_eq_append_getElem hil, ← HEE.out]
          refine IsM.put (fun p hp => ?_) HI.out ((badS_not E).1 HBE.out).2.1
          obtain ⟨j, hj, rfl⟩ := List.getElem_of_mem hp
          have hj' : j < i := by simp at hj; omega
          rw [List.getElem_take]
          exact ((badS_not _).1 (HB.out j (by omega) hj')).2.1
      · have KC : Hid (∀ W, Calls Tryz.prog 41 #[.agg #[.int .i64 E.lo, .int .i64 E.hi, .bool E.wk]] W fun e w' => e = .returned (.bool false) ∧ New W w') := Lib.hid (fun W => by have := KM.out E W; rw [hb] at this; exact this)
        have HBE : Hid (fstB badS l = true) := Lib.hid (List.any_eq_true.2 ⟨l[i], List.getElem_mem hil, by rw [← HEE.out]; exact hb⟩)
        clear hb
        go_wp2_with fail
        refine (KC.out _).mono ?_
        rintro e w1 ⟨rfl, n1⟩
        have HW1 := Lib.hid (HW.out.trans n1)
        clear n1 r0 r1 r2
        go_wp2_with fail
        refine bodyPost_ret (v := .tuple #[.slice none 0 0, .int .i64 2]) (by simp [results, Tryz.results25, go_sem, *]) rfl ?_
        exact ⟨HW1.out, .inl ⟨HBE.out, rfl⟩⟩
    · have e : i = n := by omega
      subst e
      have HIN : Hid (IsM l K) := Lib.hid (by have := HI.out; rw [HN.out, List.take_length] at this; exact this)
      have HBE : Hid (fstB badS l = false) := Lib.hid (by
        unfold fstB
        rw [List.any_eq_false]
        intro p hp
        obtain ⟨j, hj, rfl⟩ := List.getElem_of_mem hp
        rw [HB.out j hj (by have := HN.out; omega)]; simp)
      obtain ⟨a, c', hu, -⟩ := HS.out
      subst hu
      go_wp2_with fail
      refine bodyPost_ret (v := .tuple #[.slice a K.length c', .int .i64 0]) (by simp [results, Tryz.results25, go_sem, *]) rfl ?_
      exact ⟨HW.out, .inr ⟨HBE.out, K, a, c', HIN.out, by have := HN.out; omega, rfl, HS.out, HFR.out⟩⟩

end Go.Proofs.YtccikeagbillgaaGreat

/- The document's own Column. -/
namespace Go.Proofs.YtccikeagbillgaaGreat
open Go.RowKit Go.Sort
set_option linter.unusedVariables false

theorem col_out {C : CfgR} {l : List TriR} {x z : Int} (h : rchk C l = 0) (hw : inW C x z = false) : cE C l x z = 0 ∧ cR C l x z = [] := by
  have e : colQ C l x z = [] := by unfold colQ colL; rw [hw]; rfl
  have f : fullB C l x z = false := by unfold fullB; rw [e]; rfl
  obtain ⟨h1, h2⟩ := c_fine h f
  exact ⟨h1, h2.trans e⟩

set_option maxHeartbeats 2000000 in
set_option maxRecDepth 100000 in
theorem q_column (C : CfgR) (at0 : Option Addr) (l : List TriR) (cap : Nat) (hl : l.length ≤ maxLen) (x z : Int) (w : World) (H : RowIn TriR.enc 10 w at0 l) :
    Calls Tryz.prog 9 #[.agg #[.int .i64 C.cl, .int .i64 C.cb, .int .i64 C.ht, .int .i64 C.ri, .int .i64 C.ru, .int .i64 C.wd, .int .i64 C.dp], .slice at0 l.length cap, .int .i64 x, .int .i64 z] w fun e w' =>
      ∃ v, e = .returned (.tuple #[v, .int .i64 (cE C l x z)]) ∧ Sl Sn.enc 3 w' v (cR C l x z) ∧ (∀ g, v.ownBlock = some g → w.heap.size ≤ g) ∧ New w w' := by
  have KE := Lib.hid (fun W => rcheck_any C.cl C.cb C.ht C.ri C.ru C.wd C.dp W)
  have eE : checkE C.cl C.cb C.ht C.ri C.ru C.wd C.dp = C.err := rfl
  rw [eE] at KE
  clear eE
  by_cases hE : C.err = 0
  rotate_left
  · have e20 : C.err = 20 := (err_two C).resolve_left hE
    have ec : rchk C l = 20 := by unfold rchk; rw [if_pos hE, e20]
    obtain ⟨e1, e2⟩ := rchk_no (x := x) (z := z) (by rw [ec]; decide : rchk C l ≠ 0)
    rw [e1, e2, ec]
    rw [e20] at KE
    clear e1 e2 ec e20 hE
    go_enter Tryz.func9, Tryz.ntmps9
    go_wp2_with fail
    generalize hW : World.alloc _ _ = W1
    have n1 : New w W1 := by subst hW; (repeat (first | (with_reducible exact New.refl _) | (with_reducible assumption) | ((with_reducible refine New.setB ?_ ?_ _); focus (first | omega | (simp; omega) | (simp; done))) | (with_reducible refine New.alloc ?_ _) | (with_reducible refine New.drew ?_) | (with_reducible refine New.drewN ?_ _) | (with_reducible refine New.hat ?_ _) | ((with_reducible apply New.snart); (with_reducible assumption))))
    have hB : W1.heap[w.heap.size]? = some (.cells (cfgA C) 23 (0, 0)) := by subst hW; exact World.alloc_heap_new w _
    clear hW
    refine (KE.out _).mono ?_
    rintro e w2 ⟨rfl, n2⟩
    obtain ⟨c0, c1, c2, c3, c4, c5, c6⟩ := cfg_cs (New.blk n2.1 hB)
    go_wp2_with fail
    have hn := n1.trans n2.1
    refine bodyPost_ret (v := .tuple #[.slice none 0 0, .int .i64 20]) (by simp [results, Tryz.results9, go_sem, *]) rfl ?_
    exact ⟨_, rfl, Sl.nil, fun g h => (by simp [Value.ownBlock] at h), hn⟩
  · rw [hE] at KE
    have hC := CfgR.fine_of hE
    have KM := Lib.hid (fun W (n : New w W) => m_may C hC at0 l cap hl W (H.keep n))
    have HH := Lib.hid (fun W (n : New w W) => H.keep n)
    cases hm : mayL C l
    · have ec : rchk C l = 2 := by unfold rchk; rw [if_neg (by simpa using hE), hm]; rfl
      obtain ⟨e1, e2⟩ := rchk_no (x := x) (z := z) (by rw [ec]; decide : rchk C l ≠ 0)
      rw [e1, e2, ec]
      rw [hm] at KM
      clear e1 e2 ec hm hE
      go_enter Tryz.func9, Tryz.ntmps9
      go_wp2_with fail
      generalize hW : World.alloc _ _ = W1
      have n1 : New w W1 := by subst hW; (repeat (first | (with_reducible exact New.refl _) | (with_reducible assumption) | ((with_reducible refine New.setB ?_ ?_ _); focus (first | omega | (simp; omega) | (simp; done))) | (with_reducible refine New.alloc ?_ _) | (with_reducible refine New.drew ?_) | (with_reducible refine New.drewN ?_ _) | (with_reducible refine New.hat ?_ _) | ((with_reducible apply New.snart); (with_reducible assumption))))
      have hB : W1.heap[w.heap.size]? = some (.cells (cfgA C) 23 (0, 0)) := by subst hW; exact World.alloc_heap_new w _
      clear hW
      refine (KE.out _).mono ?_
      rintro e w2 ⟨rfl, n2⟩
      obtain ⟨c0, c1, c2, c3, c4, c5, c6⟩ := cfg_cs (New.blk n2.1 hB)
      go_wp2_with fail
      refine (KM.out _ (n1.trans n2.1)).mono ?_
      rintro e w3 ⟨rfl, n3⟩
      clear c0 c1 c2 c3 c4 c5 c6
      have N3 := Lib.hid (n1.trans (New.trans n2.1 n3))
      have HB := Lib.hid (New.blk n3 (New.blk n2.1 hB))
      clear n1 n2 n3 hB
      go_wp2_with fail
      refine bodyPost_ret (v := .tuple #[.slice none 0 0, .int .i64 2]) (by simp [results, Tryz.results9, go_sem, *]) rfl ?_
      exact ⟨_, rfl, Sl.nil, fun g h => (by simp [Value.ownBlock] at h), N3.out⟩
    · have ec : rchk C l = 0 := by unfold rchk; rw [if_neg (by simpa using hE), hm]; rfl
      obtain ⟨k1, k2, k3⟩ := rchk_zero ec
      rw [hm] at KM
      cases hw : inW C x z
      · obtain ⟨e1, e2⟩ := col_out ec hw
        rw [e1, e2]
        have hne : x < 0 ∨ C.wd ≤ x ∨ z < 0 ∨ C.dp ≤ z := by
          have : ¬ (inW C x z = true) := by rw [hw]; simp
          rw [inW_iff] at this
          omega
        clear e1 e2 ec hm hE hw k1 k2 k3
        go_enter Tryz.func9, Tryz.ntmps9
        go_wp2_with fail
        generalize hW : World.alloc _ _ = W1
        have n1 : New w W1 := by subst hW; (repeat (first | (with_reducible exact New.refl _) | (with_reducible assumption) | ((with_reducible refine New.setB ?_ ?_ _); focus (first | omega | (simp; omega) | (simp; done))) | (with_reducible refine New.alloc ?_ _) | (with_reducible refine New.drew ?_) | (with_reducible refine New.drewN ?_ _) | (with_reducible refine New.hat ?_ _) | ((with_reducible apply New.snart); (with_reducible assumption))))
        have hB : W1.heap[w.heap.size]? = some (.cells (cfgA C) 23 (0, 0)) := by subst hW; exact World.alloc_heap_new w _
        clear hW
        refine (KE.out _).mono ?_
        rintro e w2 ⟨rfl, n2⟩
        obtain ⟨c0, c1, c2, c3, c4, c5, c6⟩ := cfg_cs (New.blk n2.1 hB)
        go_wp2_with fail
        refine (KM.out _ (n1.trans n2.1)).mono ?_
        rintro e w3 ⟨rfl, n3⟩
        clear c0 c1 c2 c3 c4 c5 c6
        have N3 := Lib.hid (n1.trans (New.trans n2.1 n3))
        have HB := Lib.hid (New.blk n3 (New.blk n2.1 hB))
        clear n1 n2 n3 hB
        obtain ⟨c0, c1, c2, c3, c4, c5, c6⟩ := cfg_cs HB.out
        by_cases t1 : x < 0
        · go_wp2_with fail
          refine bodyPost_ret (v := .tuple #[.slice none 0 0, .int .i64 0]) (by simp [results, Tryz.results9, go_sem, *]) rfl ?_
          exact ⟨_, rfl, Sl.nil, fun g h => (by simp [Value.ownBlock] at h), N3.out⟩
        by_cases t2 : C.wd ≤ x
        · go_wp2_with fail
          refine bodyPost_ret (v := .tuple #[.slice none 0 0, .int .i64 0]) (by simp [results, Tryz.results9, go_sem, *]) rfl ?_
          exact ⟨_, rfl, Sl.nil, fun g h => (by simp [Value.ownBlock] at h), N3.out⟩
        by_cases t3 : z < 0
        · go_wp2_with fail
          refine bodyPost_ret (v := .tuple #[.slice none 0 0, .int .i64 0]) (by simp [results, Tryz.results9, go_sem, *]) rfl ?_
          exact ⟨_, rfl, Sl.nil, fun g h => (by simp [Value.ownBlock] at h), N3.out⟩
        have t4 : C.dp ≤ z := by omega
        go_wp2_with fail
        refine bodyPost_ret (v := .tuple #[.slice none 0 0, .int .i64 0]) (by simp [results, Tryz.results9, go_sem, *]) rfl ?_
        exact ⟨_, rfl, Sl.nil, fun g h => (by simp [Value.ownBlock] at h), N3.out⟩
      · have hw' := inW_iff.1 hw
        have t1 : ¬ (x < 0) := by omega
        have t2 : ¬ (C.wd ≤ x) := by omega
        have t3 : ¬ (z < 0) := by omega
        have t4 : ¬ (C.dp ≤ z) := by omega
        have hcol : colL C l x z = l.filterMap (pcO C x z) := by unfold colL; rw [if_pos hw]
        have hfit : ∀ p ∈ l.filterMap (pcO C x z), -2048 ≤ p.lo ∧ p.lo ≤ p.hi ∧ p.hi ≤ 2048 := by rw [← hcol]; exact fun p hp => col_fit hp
        have hcl : (l.filterMap (pcO C x z)).length ≤ 200 := Nat.le_trans (List.length_filterMap_le _ _) k2
        have hq : colQ C l x z = mrg (l.filterMap (pcO C x z)) := by unfold colQ; rw [hcol]
        have HF := Lib.hid (And.intro ec (And.intro hq hfit))
        have KO := Lib.hid (fun T W => r_over T x z W)
        have KW := Lib.hid (fun (T : TriR) W => r_walk C.cl C.cb C.ht C.ri C.ru C.wd C.dp 1 T.x0 T.y0 T.z0 T.x1 T.y1 T.z1 T.x2 T.y2 T.z2 W)
        obtain ⟨i0, hi0, hz0, hz1, hz2⟩ := info_parts span_info
        obtain ⟨EE, hEE⟩ : ∃ E, E = cE C l x z := ⟨_, rfl⟩
        obtain ⟨RR, hRR⟩ : ∃ E, E = cR C l x z := ⟨_, rfl⟩
        rw [← hEE, ← hRR]
        have HEE := Lib.hid (And.intro hEE hRR)
        clear hw hw' hcol hfit hq ec hm hE k1 k3 hEE hRR
        go_enter Tryz.func9, Tryz.ntmps9
        go_wp2_with fail
        generalize hW : World.alloc _ _ = W1
        have n1 : New w W1 := by subst hW; (repeat (first | (with_reducible exact New.refl _) | (with_reducible assumption) | ((with_reducible refine New.setB ?_ ?_ _); focus (first | omega | (simp; omega) | (simp; done))) | (with_reducible refine New.alloc ?_ _) | (with_reducible refine New.drew ?_) | (with_reducible refine New.drewN ?_ _) | (with_reducible refine New.hat ?_ _) | ((with_reducible apply New.snart); (with_reducible assumption))))
        have hB : W1.heap[w.heap.size]? = some (.cells (cfgA C) 23 (0, 0)) := by subst hW; exact World.alloc_heap_new w _
        clear hW
        refine (KE.out _).mono ?_
        rintro e w2 ⟨rfl, n2⟩
        obtain ⟨c0, c1, c2, c3, c4, c5, c6⟩ := cfg_cs (New.blk n2.1 hB)
        go_wp2_with fail
        refine (KM.out _ (n1.trans n2.1)).mono ?_
        rintro e w3 ⟨rfl, n3⟩
        clear c0 c1 c2 c3 c4 c5 c6
        have N3 := Lib.hid (n1.trans (New.trans n2.1 n3))
        have HB := Lib.hid (New.blk n3 (New.blk n2.1 hB))
        clear n1 n2 n3 hB
        obtain ⟨c0, c1, c2, c3, c4, c5, c6⟩ := cfg_cs HB.out
        go_wp2_with fail
        clear c0 c1 c2 c3 c4 c5 c6 t1 t2 t3 t4
        go_loopg [10, 11] l.length (fun k row s wr => ∃ i : Nat, s = .int .i64 i ∧ i + k = l.length ∧ Hid (wr.ownsRow w3.heap.size 48 3 row ((l.take i).filterMap (pcO C x z)).length (((l.take i).filterMap (pcO C x z)).flatMap Sn.enc)) ∧ Hid (New w3 wr))
        case atStart => exact ⟨0, by simp, by omega, Lib.hid (World.ownsRow_nil _ _ _ _), Lib.hid (New.refl _)⟩
        case round =>
          obtain ⟨i, rfl, hik, HO, HN⟩ := hrel
          by_cases hlt : i < l.length
          · obtain ⟨b0, off, rfl, hA⟩ := HH.out w (New.refl _) (by omega)
            have HA := Lib.hid hA
            obtain ⟨d0, d1, d2, d3, d4, d5, d6, d7, d8, d9⟩ := TriR.cells (hA.keep (N3.out.trans HN.out)) i hlt
            have KO1 := fun W => KO.out l[i] W
            clear hA
            have htk : l.take (i + 1) = l.take i ++ [l[i]] := by rw [List.take_add_one, List.getElem?_eq_getElem hlt]; rfl
            have hnext : (l.take (i + 1)).filterMap (pcO C x z) = (l.take i).filterMap (pcO C x z) ++ (pcO C x z l[i]).toList := by
              rw [htk, List.filterMap_append]
              congr 1
            have hle : ((l.take i).filterMap (pcO C x z)).length ≤ 200 := Nat.le_trans (List.length_filterMap_le _ _) (by rw [List.length_take]; omega)
            have KW1 := fun W => KW.out l[i] W
            clear htk
            generalize l[i] = T at *
            have ewk : walkB C.cl C.cb C.ht C.ri C.ru C.wd C.dp T.x0 T.y0 T.z0 T.x1 T.y1 T.z1 T.x2 T.y2 T.z2 = walkT C T := rfl
            rw [ewk] at KW1
            clear ewk
            cases ho : ovB T x z
            · have hp : pcO C x z T = none := by unfold pcO; rw [ho]; rfl
              rw [hp] at hnext
              simp only [Option.toList_none, List.append_nil] at hnext
              rw [ho] at KO1
              have HX := Lib.hid hnext
              replace KO1 := Lib.hid KO1
              clear hnext hp ho KW1
              go_wp2_with fail
              refine (KO1.out _).mono ?_
              rintro e w5 ⟨rfl, n5⟩
              have N5 := Lib.hid n5
              clear n5 d0 d1 d2 d3 d4 d5 d6 d7 d8 d9
              go_wp2_with fail
              go_roundg (gk - 1)
              case measure => omega
              case rel => exact ⟨i + 1, by go_num, by omega, Lib.hid (by rw [HX.out]; exact own_new HO.out N5.out), Lib.hid (HN.out.trans N5.out)⟩
            · have hp : pcO C x z T = some ⟨ovLo T x z, ovHi T x z, walkT C T⟩ := by unfold pcO; rw [ho]; rfl
              rw [hp] at hnext
              simp only [Option.toList_some] at hnext
              have hlen : ((l.take i).filterMap (pcO C x z) ++ [(⟨ovLo T x z, ovHi T x z, walkT C T⟩ : Sn)]).length = ((l.take i).filterMap (pcO C x z)).length + 1 := by rw [List.length_append]; rfl
              have hfl : ((l.take i).filterMap (pcO C x z) ++ [(⟨ovLo T x z, ovHi T x z, walkT C T⟩ : Sn)]).flatMap Sn.enc = ((l.take i).filterMap (pcO C x z)).flatMap Sn.enc ++ (⟨ovLo T x z, ovHi T x z, walkT C T⟩ : Sn).enc := by rw [List.flatMap_append]; simp
              rw [ho] at KO1
              have HX := Lib.hid (And.intro hnext (And.intro hlen hfl))
              replace KO1 := Lib.hid KO1
              replace KW1 := Lib.hid KW1
              clear hnext hp ho hlen hfl
              go_wp2_with fail
              refine (KO1.out _).mono ?_
              rintro e w5 ⟨rfl, n5⟩
              replace d0 := n5.keep d0
              replace d1 := n5.keep d1
              replace d2 := n5.keep d2
              replace d3 := n5.keep d3
              replace d4 := n5.keep d4
              replace d5 := n5.keep d5
              replace d6 := n5.keep d6
              replace d7 := n5.keep d7
              replace d8 := n5.keep d8
              replace d9 := n5.keep d9
              obtain ⟨c0, c1, c2, c3, c4, c5, c6⟩ := cfg_cs ((HN.out.trans n5).blk HB.out)
              have lz := World.block_lt_of_cell? _ _ c0
              go_wp2_with fail
              generalize hW : World.alloc _ _ = W6
              have n6 : New w5 W6 := by subst hW; (repeat (first | (with_reducible exact New.refl _) | (with_reducible assumption) | ((with_reducible refine New.setB ?_ ?_ _); focus (first | omega | (simp; omega) | (simp; done))) | (with_reducible refine New.alloc ?_ _) | (with_reducible refine New.drew ?_) | (with_reducible refine New.drewN ?_ _) | (with_reducible refine New.hat ?_ _) | ((with_reducible apply New.snart); (with_reducible assumption))))
              clear hW d0 d1 d2 d3 d4 d5 d6 d7 d8 d9 c0 c1 c2 c3 c4 c5 c6
              refine (KW1.out _).mono ?_
              rintro e w7 ⟨rfl, n7⟩
              have N7 := Lib.hid (n5.trans (n6.trans n7))
              have HO7 := Lib.hid ((own_new HO.out (n5.trans (n6.trans n7))).alloc (.cells #[.int .i64 (ovLo T x z), .int .i64 (ovHi T x z), .bool (walkT C T)] 48))
              have hb7 : w3.heap.size ≤ w7.heap.size := by
                have := HN.out.size
                have := N7.out.size
                omega
              clear n5 n6 n7
              go_wp2_with (at_builtin; refine wpList_append_own _ rfl _ _ 27 rfl w3.heap.size 48 i0 (.agg #[.int .i64 0, .int .i64 0, .bool false]) 3 24 Tryz.underlying27 hi0 hz0 hz1 hz2 rfl (by decide) _ _ _ rfl HO7.out ⟨w7.heap.size, 0, none⟩ 1 1 (⟨ovLo T x z, ovHi T x z, walkT C T⟩ : Sn).enc rfl rfl (ra_sn_new w7 ⟨ovLo T x z, ovHi T x z, walkT C T⟩ 48) (Sn.enc_one _) (by unfold maxLen; omega) (by omega) (by simp; omega) ?_; intro v' w8 hown' hgrow _)
              go_roundg (gk - 1)
              case measure => omega
              case rel =>
                refine ⟨i + 1, by go_num, by omega, Lib.hid ?_, Lib.hid ?_⟩
                · rw [HX.out.1, HX.out.2.1, HX.out.2.2]
                  exact hown'
                · exact newGrown (HN.out.trans (N7.out.trans ((New.refl w7).alloc _))) hgrow (fun k hk => (HO.out.lt k hk).1)
          · obtain rfl : i = l.length := by omega
            have hOO := HO.out
            rw [List.take_length] at hOO
            obtain ⟨oa, oc, on, hon, rfl⟩ := own_shape2 hOO
            have HOS := own_sl Sn.enc_len hOO
            rw [hon] at HOS ⊢
            have KM2 := Lib.hid (r_merge_own oa (l.filterMap (pcO C x z)) oc (by omega) wr HOS)
            clear hOO HOS hon
            go_wp2_with fail
            refine KM2.out.mono ?_
            rintro e w5 ⟨n5, ⟨h1, -⟩ | ⟨-, R, a, c', hM, hR, rfl, hs, hfr⟩⟩
            · have hbad : fstB badS (l.filterMap (pcO C x z)) = false := FitS.bad HF.out.2.2
              rw [hbad] at h1
              cases h1
            have eR : R = colQ C l x z := by rw [HF.out.2.1]; exact mrg_eq (fun p hp => (HF.out.2.2 p hp).2.1) hM
            have N5 := Lib.hid (N3.out.trans (HN.out.trans n5))
            have hR2 : R.length ≤ 200 := by omega
            have HS5 := Lib.hid (And.intro hs (fun g h => Nat.le_trans (N3.out.trans HN.out).size (hfr g h) : ∀ g, (Value.slice a R.length c').ownBlock = some g → w.heap.size ≤ g))
            clear hfr
            by_cases h8 : 8 < R.length
            · have HE : Hid (EE = 51 ∧ RR = []) := Lib.hid (by rw [HEE.out.1, HEE.out.2]; exact c_full HF.out.1 (by unfold fullB; rw [← eR, decide_eq_true h8]))
              have hd : ((R.length : Int) > 8) := by omega
              clear eR hM n5 hs
              obtain ⟨e1, e2⟩ := HE.out
              clear HE HEE
              subst e1 e2
              go_wp2_with fail
              refine bodyPost_ret (v := .tuple #[.slice none 0 0, .int .i64 51]) (by simp [results, Tryz.results9, go_sem, *]) rfl ?_
              exact ⟨_, rfl, Sl.nil, fun g h => (by simp [Value.ownBlock] at h), N5.out⟩
            · have HE : Hid (EE = 0 ∧ RR = R) := Lib.hid (by
                rw [HEE.out.1, HEE.out.2]
                obtain ⟨q1, q2⟩ := c_fine (x := x) (z := z) HF.out.1 (by unfold fullB; rw [← eR, decide_eq_false h8])
                exact ⟨q1, q2.trans eR.symm⟩)
              have hd : ¬ ((R.length : Int) > 8) := by omega
              clear eR hM n5 hs
              obtain ⟨e1, e2⟩ := HE.out
              clear HE HEE
              subst e1 e2
              go_wp2_with fail
              refine bodyPost_ret (v := .tuple #[.slice a RR.length c', .int .i64 0]) (by simp [results, Tryz.results9, go_sem, *]) rfl ?_
              exact ⟨_, rfl, HS5.out.1, HS5.out.2, N5.out⟩

end Go.Proofs.YtccikeagbillgaaGreat

/- The document's own Box. -/
namespace Go.Proofs.YtccikeagbillgaaGreat
open Go.RowKit Go.Sort
set_option linter.unusedVariables false

theorem at_ji (C : CfgR) (l : List TriR) (x z : Int) (wn j i : Nat) (hi : i < wn) : plX x wn (j * wn + i) = x + i ∧ plZ z wn (j * wn + i) = z + j := by
  unfold plX plZ
  have h1 : (j * wn + i) % wn = i := by rw [Nat.add_comm, Nat.add_mul_mod_self_right, Nat.mod_eq_of_lt hi]
  have h2 : (j * wn + i) / wn = j := by rw [Nat.add_comm, Nat.add_mul_div_right _ _ (by omega), Nat.div_eq_of_lt hi, Nat.zero_add]
  rw [← Int.natCast_emod, ← Int.natCast_ediv, h1, h2]
  exact ⟨rfl, rfl⟩
theorem cE_zero {C : CfgR} {l : List TriR} {x z : Int} (h : rchk C l = 0) : cE C l x z = if fullB C l x z then 51 else 0 := by
  unfold cE
  rw [if_neg (by simpa using h)]

set_option maxHeartbeats 4000000 in
set_option maxRecDepth 100000 in
theorem q_box (C : CfgR) (at0 : Option Addr) (l : List TriR) (cap : Nat) (hl : l.length ≤ maxLen) (x z wi d : Int) (w : World) (H : RowIn TriR.enc 10 w at0 l) :
    Calls Tryz.prog 11 #[.agg #[.int .i64 C.cl, .int .i64 C.cb, .int .i64 C.ht, .int .i64 C.ri, .int .i64 C.ru, .int .i64 C.wd, .int .i64 C.dp], .slice at0 l.length cap, .int .i64 x, .int .i64 z, .int .i64 wi, .int .i64 d] w fun e w' =>
      ∃ v, e = .returned (.tuple #[v, .int .i64 (bE C l x z wi d)]) ∧ RowsV w' v (bR C l x z wi d) ∧ New w w' := by
  have KE := Lib.hid (fun W => rcheck_any C.cl C.cb C.ht C.ri C.ru C.wd C.dp W)
  have eE : checkE C.cl C.cb C.ht C.ri C.ru C.wd C.dp = C.err := rfl
  rw [eE] at KE
  clear eE
  by_cases hE : C.err = 0
  rotate_left
  · have e20 : C.err = 20 := (err_two C).resolve_left hE
    have ec : rchk C l = 20 := by unfold rchk; rw [if_pos hE, e20]
    obtain ⟨e1, e2⟩ := b_no (x := x) (z := z) (w := wi) (d := d) (by rw [ec]; decide : rchk C l ≠ 0)
    rw [e1, e2, ec]
    rw [e20] at KE
    clear e1 e2 ec e20 hE
    go_enter Tryz.func11, Tryz.ntmps11
    go_wp2_with fail
    generalize hW : World.alloc _ _ = W1
    have n1 : New w W1 := by subst hW; (repeat (first | (with_reducible exact New.refl _) | (with_reducible assumption) | ((with_reducible refine New.setB ?_ ?_ _); focus (first | omega | (simp; omega) | (simp; done))) | (with_reducible refine New.alloc ?_ _) | (with_reducible refine New.drew ?_) | (with_reducible refine New.drewN ?_ _) | (with_reducible refine New.hat ?_ _) | ((with_reducible apply New.snart); (with_reducible assumption))))
    have hB : W1.heap[w.heap.size]? = some (.cells (cfgA C) 23 (0, 0)) := by subst hW; exact World.alloc_heap_new w _
    clear hW
    refine (KE.out _).mono ?_
    rintro e w2 ⟨rfl, n2⟩
    obtain ⟨c0, c1, c2, c3, c4, c5, c6⟩ := cfg_cs (New.blk n2.1 hB)
    go_wp2_with fail
    have hn := n1.trans n2.1
    refine bodyPost_ret (v := .tuple #[.slice none 0 0, .int .i64 20]) (by simp [results, Tryz.results11, go_sem, *]) rfl ?_
    exact ⟨_, rfl, RowsV.nil, hn⟩
  · rw [hE] at KE
    have hC := CfgR.fine_of hE
    have KM := Lib.hid (fun W (n : New w W) => m_may C hC at0 l cap hl W (H.keep n))
    have KB := Lib.hid (fun W => r_box x z wi d W)
    cases hm : mayL C l
    · have ec : rchk C l = 2 := by unfold rchk; rw [if_neg (by simpa using hE), hm]; rfl
      obtain ⟨e1, e2⟩ := b_no (x := x) (z := z) (w := wi) (d := d) (by rw [ec]; decide : rchk C l ≠ 0)
      rw [e1, e2, ec]
      rw [hm] at KM
      clear e1 e2 ec hm hE
      go_enter Tryz.func11, Tryz.ntmps11
      go_wp2_with fail
      generalize hW : World.alloc _ _ = W1
      have n1 : New w W1 := by subst hW; (repeat (first | (with_reducible exact New.refl _) | (with_reducible assumption) | ((with_reducible refine New.setB ?_ ?_ _); focus (first | omega | (simp; omega) | (simp; done))) | (with_reducible refine New.alloc ?_ _) | (with_reducible refine New.drew ?_) | (with_reducible refine New.drewN ?_ _) | (with_reducible refine New.hat ?_ _) | ((with_reducible apply New.snart); (with_reducible assumption))))
      have hB : W1.heap[w.heap.size]? = some (.cells (cfgA C) 23 (0, 0)) := by subst hW; exact World.alloc_heap_new w _
      clear hW
      refine (KE.out _).mono ?_
      rintro e w2 ⟨rfl, n2⟩
      obtain ⟨c0, c1, c2, c3, c4, c5, c6⟩ := cfg_cs (New.blk n2.1 hB)
      go_wp2_with fail
      refine (KM.out _ (n1.trans n2.1)).mono ?_
      rintro e w3 ⟨rfl, n3⟩
      clear c0 c1 c2 c3 c4 c5 c6
      have N3 := Lib.hid (n1.trans (New.trans n2.1 n3))
      have HB := Lib.hid (New.blk n3 (New.blk n2.1 hB))
      clear n1 n2 n3 hB
      go_wp2_with fail
      refine bodyPost_ret (v := .tuple #[.slice none 0 0, .int .i64 2]) (by simp [results, Tryz.results11, go_sem, *]) rfl ?_
      exact ⟨_, rfl, RowsV.nil, N3.out⟩
    · have ec : rchk C l = 0 := by unfold rchk; rw [if_neg (by simpa using hE), hm]; rfl
      rw [hm] at KM
      cases hb : boxB x z wi d
      · obtain ⟨e1, e2⟩ := b_not ec hb
        rw [e1, e2]
        rw [hb] at KB
        clear e1 e2 ec hm hE hb
        go_enter Tryz.func11, Tryz.ntmps11
        go_wp2_with fail
        generalize hW : World.alloc _ _ = W1
        have n1 : New w W1 := by subst hW; (repeat (first | (with_reducible exact New.refl _) | (with_reducible assumption) | ((with_reducible refine New.setB ?_ ?_ _); focus (first | omega | (simp; omega) | (simp; done))) | (with_reducible refine New.alloc ?_ _) | (with_reducible refine New.drew ?_) | (with_reducible refine New.drewN ?_ _) | (with_reducible refine New.hat ?_ _) | ((with_reducible apply New.snart); (with_reducible assumption))))
        have hB : W1.heap[w.heap.size]? = some (.cells (cfgA C) 23 (0, 0)) := by subst hW; exact World.alloc_heap_new w _
        clear hW
        refine (KE.out _).mono ?_
        rintro e w2 ⟨rfl, n2⟩
        obtain ⟨c0, c1, c2, c3, c4, c5, c6⟩ := cfg_cs (New.blk n2.1 hB)
        go_wp2_with fail
        refine (KM.out _ (n1.trans n2.1)).mono ?_
        rintro e w3 ⟨rfl, n3⟩
        clear c0 c1 c2 c3 c4 c5 c6
        have N3 := Lib.hid (n1.trans (New.trans n2.1 n3))
        have HB := Lib.hid (New.blk n3 (New.blk n2.1 hB))
        clear n1 n2 n3 hB
        go_wp2_with fail
        refine (KB.out _).mono ?_
        rintro e w4 ⟨rfl, n4⟩
        have N4 := Lib.hid (N3.out.trans n4)
        have HB4 := Lib.hid (n4.blk HB.out)
        clear n4
        go_wp2_with fail
        refine bodyPost_ret (v := .tuple #[.slice none 0 0, .int .i64 2]) (by simp [results, Tryz.results11, go_sem, *]) rfl ?_
        exact ⟨_, rfl, RowsV.nil, N4.out⟩
      · rw [hb] at KB
        have hbb := boxB_iff.1 hb
        obtain ⟨i0, hi0, hz0, hz1, hz2⟩ := info_parts rows_info
        have KC := Lib.hid (fun x z W (n : New w W) => q_column C at0 l cap hl x z W (H.keep n))
        obtain ⟨EE, hEE⟩ : ∃ E, E = bE C l x z wi d := ⟨_, rfl⟩
        obtain ⟨RR, hRR⟩ : ∃ E, E = bR C l x z wi d := ⟨_, rfl⟩
        rw [← hEE, ← hRR]
        obtain ⟨wn, hw⟩ : ∃ wn : Nat, wi = wn := ⟨wi.toNat, by omega⟩
        obtain ⟨dn, hd⟩ : ∃ dn : Nat, d = dn := ⟨d.toNat, by omega⟩
        subst hw hd
        have hbn : ((wn : Int) * (dn : Int)).toNat = dn * wn := by rw [← Int.natCast_mul, Int.toNat_natCast, Nat.mul_comm]
        have HF : Hid (anyF C l x z wn (dn * wn) = true → EE = 51 ∧ RR = []) := Lib.hid (fun hf => by rw [hEE, hRR]; exact b_full ec hb (by rw [hbn]; exact hf))
        have HG : Hid (anyF C l x z wn (dn * wn) = false → EE = 0 ∧ RR = rowsL C l x z wn (dn * wn)) := Lib.hid (fun hf => by rw [hEE, hRR, ← hbn]; exact b_fine ec hb (by rw [hbn]; exact hf))
        have HEC := Lib.hid ec
        have hpn : dn * wn ≤ 64 * 64 := Nat.mul_le_mul (by omega) (by omega)
        clear hm hE hb ec hEE hRR hbn
        go_enter Tryz.func11, Tryz.ntmps11
        go_wp2_with fail
        generalize hW : World.alloc _ _ = W1
        have n1 : New w W1 := by subst hW; (repeat (first | (with_reducible exact New.refl _) | (with_reducible assumption) | ((with_reducible refine New.setB ?_ ?_ _); focus (first | omega | (simp; omega) | (simp; done))) | (with_reducible refine New.alloc ?_ _) | (with_reducible refine New.drew ?_) | (with_reducible refine New.drewN ?_ _) | (with_reducible refine New.hat ?_ _) | ((with_reducible apply New.snart); (with_reducible assumption))))
        have hB : W1.heap[w.heap.size]? = some (.cells (cfgA C) 23 (0, 0)) := by subst hW; exact World.alloc_heap_new w _
        clear hW
        refine (KE.out _).mono ?_
        rintro e w2 ⟨rfl, n2⟩
        obtain ⟨c0, c1, c2, c3, c4, c5, c6⟩ := cfg_cs (New.blk n2.1 hB)
        go_wp2_with fail
        refine (KM.out _ (n1.trans n2.1)).mono ?_
        rintro e w3 ⟨rfl, n3⟩
        clear c0 c1 c2 c3 c4 c5 c6
        have N3 := Lib.hid (n1.trans (New.trans n2.1 n3))
        have HB := Lib.hid (New.blk n3 (New.blk n2.1 hB))
        clear n1 n2 n3 hB
        go_wp2_with fail
        refine (KB.out _).mono ?_
        rintro e w4 ⟨rfl, n4⟩
        have N4 := Lib.hid (N3.out.trans n4)
        have HB4 := Lib.hid (n4.blk HB.out)
        clear n4
        go_wp2_with fail
        go_loopg [14, 15] dn (fun k o s wr => ∃ (j : Nat) (us : List Value), s = .int .i64 j ∧ j + k = dn ∧ Hid (RowsO 27 w4.heap.size wr o us (rowsL C l x z wn (j * wn))) ∧ Hid (New w4 wr) ∧ Hid (anyF C l x z wn (j * wn) = false))
        case atStart => exact ⟨0, [], by simp, by omega, Lib.hid (by rw [Nat.zero_mul]; exact RowsO.nil), Lib.hid (New.refl _), Lib.hid (by rw [Nat.zero_mul]; rfl)⟩
        case round =>
          obtain ⟨j, us, rfl, hjk, HR, HN, HE⟩ := hrel
          by_cases hj : j < dn
          · go_wp2_with fail
            go_loopg [14, 16] wn (fun k o s wr2 => ∃ (i : Nat) (us : List Value), s = .int .i64 i ∧ i + k = wn ∧ Hid (RowsO 27 w4.heap.size wr2 o us (rowsL C l x z wn (j * wn + i))) ∧ Hid (New w4 wr2) ∧ Hid (anyF C l x z wn (j * wn + i) = false))
            case atStart => exact ⟨0, us, by simp, by omega, HR, HN, HE⟩
            case round =>
              clear HR HN HE us
              obtain ⟨i, us, rfl, hik, HR, HN, HE⟩ := hrel
              obtain ⟨c0, c1, c2, c3, c4, c5, c6⟩ := cfg_cs (HN.out.blk HB4.out)
              by_cases hiw : i < wn
              · have hm : j * wn + i < dn * wn := by
                  have h5 : (j + 1) * wn ≤ dn * wn := Nat.mul_le_mul_right _ (by omega)
                  rw [Nat.add_mul, Nat.one_mul] at h5
                  omega
                obtain ⟨p1, p2⟩ := at_ji C l x z wn j i hiw
                have w1 : IntKind.i64.wrap (x + (i : Int)) = x + (i : Int) := IntWalk.i64_in _ (by omega)
                have w2' : IntKind.i64.wrap (z + (j : Int)) = z + (j : Int) := IntWalk.i64_in _ (by omega)
                have KC1 := fun W (n : New w W) => KC.out (x + i) (z + j) W n
                rw [cE_zero HEC.out] at KC1
                have hF : atF C l x z wn (j * wn + i) = fullB C l (x + i) (z + j) := by unfold atF; rw [p1, p2]
                have hQ : atQ C l x z wn (j * wn + i) = colQ C l (x + i) (z + j) := by unfold atQ; rw [p1, p2]
                have hsz1 := HN.out.size
                have HM := Lib.hid hm
                clear hm p1 p2
                cases hf : fullB C l (x + i) (z + j)
                · have hR : cR C l (x + i) (z + j) = colQ C l (x + i) (z + j) := (c_fine HEC.out hf).2
                  rw [hf, hR] at KC1
                  simp only [Bool.false_eq_true, if_false] at KC1
                  replace KC1 := Lib.hid KC1
                  have HE' : Hid (anyF C l x z wn (j * wn + (i + 1)) = false) := Lib.hid (by rw [← Nat.add_assoc, anyF_succ, HE.out, hF, hf]; rfl)
                  have HQ := Lib.hid hQ
                  clear hf hF hQ hR
                  go_wp2_with fail
                  refine (KC1.out _ (N4.out.trans HN.out)).mono ?_
                  rintro e w5 ⟨v, rfl, hs, hfr, n5⟩
                  have HS := Lib.hid hs
                  obtain ⟨va, vc, rfl, -⟩ := hs
                  have HFR := Lib.hid (And.intro hfr n5)
                  have hsz3 := n5.size
                  clear hfr n5 c0 c1 c2 c3 c4 c5 c6
                  generalize colQ C l (x + i) (z + j) = qq at *
                  have HRn := Lib.hid (HR.out.new (HFR.out.2.trans ((New.refl w5).alloc (.cells #[.slice va qq.length vc] 27))))
                  have hul : us.length = j * wn + i := by rw [HR.out.len, rowsL_len]
                  have hM := HM.out
                  go_wp2_with (at_builtin; refine wpList_append_own_at _ rfl _ _ 31 rfl w4.heap.size 27 i0 (.slice none 0 0) 1 24 Tryz.underlying31 hi0 hz0 hz1 hz2 rfl (by decide) _ _ _ rfl HRn.out.own ⟨w5.heap.size, 0, none⟩ 1 1 [.slice va qq.length vc] rfl rfl (cell_one_new _ _ _) (by intro u hu; rw [List.mem_singleton] at hu; subst hu; rfl) (by unfold maxLen; omega) (by omega) (by simp; omega) ?_; intro v' w6 hown' hgrow _ hat)
                  go_roundg (gk - 1)
                  case measure => omega
                  case rel =>
                    refine ⟨i + 1, us ++ [.slice va qq.length vc], by go_num, by omega, Lib.hid ?_, Lib.hid ?_, HE'⟩
                    · rw [← Nat.add_assoc, rowsL_succ, HQ.out]
                      refine HRn.out.push (HS.out.keep ((New.refl w5).alloc _)) (fun _ g hg hv => ?_) hown' hgrow hat
                      have q1 := HFR.out.1 g hg
                      have q2 := (HR.out.own.lt g hv).2
                      omega
                    · exact newGrown (HN.out.trans (HFR.out.2.trans ((New.refl w5).alloc _))) hgrow (fun k hk => (HR.out.own.lt k hk).1)
                · rw [hf] at KC1
                  simp only [if_true] at KC1
                  replace KC1 := Lib.hid KC1
                  have HA := Lib.hid (HF.out (anyF_of HM.out (by rw [hF, hf])))
                  clear hf hF hQ
                  go_wp2_with fail
                  refine (KC1.out _ (N4.out.trans HN.out)).mono ?_
                  rintro e w5 ⟨v, rfl, hs, hfr, n5⟩
                  obtain ⟨va, vc, rfl, -⟩ := hs
                  have N5 := Lib.hid (N4.out.trans (HN.out.trans n5))
                  clear hfr n5 c0 c1 c2 c3 c4 c5 c6
                  obtain ⟨e1, e2⟩ := HA.out
                  clear HA HF HG
                  subst e1 e2
                  go_wp2_with fail
                  refine bodyPost_ret (v := .tuple #[.slice none 0 0, .int .i64 51]) (by simp [results, Tryz.results11, go_sem, *]) rfl ?_
                  exact ⟨_, rfl, RowsV.nil, N5.out⟩
              · obtain rfl : i = wn := by omega
                clear c0 c1 c2 c3 c4 c5 c6
                go_wp2_with fail
                go_roundg (dn - j - 1)
                case measure => omega
                case rel =>
                  have e : (j + 1) * i = j * i + i := by rw [Nat.add_mul, Nat.one_mul]
                  refine ⟨j + 1, us, by go_num, by omega, ?_, HN, ?_⟩
                  · rw [e]; exact HR
                  · rw [e]; exact HE
          · obtain rfl : j = dn := by omega
            obtain ⟨e1, e2⟩ := HG.out HE.out
            have HRR := Lib.hid HR.out.rows
            have hsh := HRR.out
            obtain ⟨us', -, ⟨va, vc, rfl, -⟩, -⟩ := hsh
            clear HF HG
            subst e1 e2
            go_wp2_with fail
            refine bodyPost_ret (v := .tuple #[.slice va us'.length vc, .int .i64 0]) (by simp [results, Tryz.results11, go_sem, *]) rfl ?_
            exact ⟨_, rfl, HRR.out, N4.out.trans HN.out⟩

end Go.Proofs.YtccikeagbillgaaGreat

/- Triangles' corners compared. -/
namespace Go.Proofs.YtccikeagbillgaaGreat
open Go.RowKit
set_option linter.unusedVariables false

set_option maxHeartbeats 4000000 in
theorem t_corners (w : World) (a1 a2 a3 a4 a5 a6 a7 a8 a9 b1 b2 b3 b4 b5 b6 b7 b8 b9 : Int) : (Op.equalIn 9999 41 (.agg #[.int .i64 a1, .int .i64 a2, .int .i64 a3, .int .i64 a4, .int .i64 a5, .int .i64 a6, .int .i64 a7, .int .i64 a8, .int .i64 a9]) (.agg #[.int .i64 b1, .int .i64 b2, .int .i64 b3, .int .i64 b4, .int .i64 b5, .int .i64 b6, .int .i64 b7, .int .i64 b8, .int .i64 b9])).run Tryz.prog w
    = .ok (a1 == b1 && a2 == b2 && a3 == b3 && a4 == b4 && a5 == b5 && a6 == b6 && a7 == b7 && a8 == b8 && a9 == b9) w := by
  obtain ⟨i, hi, -⟩ := info_parts (show (Tryz.prog.info? 40).map (fun i => (i.zero, i.size, i.bytes)) = some (some (.agg #[.int .i64 0, .int .i64 0, .int .i64 0]), 3, 24) from by kernel_rfl)
  rw [show (9999 : Nat) = 9998 + 1 from rfl, run_equalIn_array w 9998 _ _ Tryz.underlying41 hi, show List.range 3 = [0, 1, 2] from rfl, show Tryz.prog.cellsOf 40 = 3 from by kernel_rfl]
  clear hi
  simp only [Op.eqItems]
  cases h1 : (a1 == b1)
  · go_simp
  · cases h2 : (a2 == b2)
    · go_simp
    · cases h3 : (a3 == b3)
      · go_simp
      · cases h4 : (a4 == b4)
        · go_simp
        · cases h5 : (a5 == b5)
          · go_simp
          · cases h6 : (a6 == b6)
            · go_simp
            · cases h7 : (a7 == b7)
              · go_simp
              · cases h8 : (a8 == b8)
                · go_simp
                · cases h9 : (a9 == b9)
                  · go_simp
                  · go_simp

end Go.Proofs.YtccikeagbillgaaGreat

/- The document's own Same and SameTris of rows that are the same. -/
namespace Go.Proofs.YtccikeagbillgaaGreat
open Go.RowKit Go.Sort
set_option linter.unusedVariables false

set_option maxHeartbeats 4000000 in
theorem ra_tneq (w : World) (a b : TriR) : (binOp .neq 43 (.agg #[.int .i64 a.i, .int .i64 a.x0, .int .i64 a.y0, .int .i64 a.z0, .int .i64 a.x1, .int .i64 a.y1, .int .i64 a.z1, .int .i64 a.x2, .int .i64 a.y2, .int .i64 a.z2]) (.agg #[.int .i64 b.i, .int .i64 b.x0, .int .i64 b.y0, .int .i64 b.z0, .int .i64 b.x1, .int .i64 b.y1, .int .i64 b.z1, .int .i64 b.x2, .int .i64 b.y2, .int .i64 b.z2])).run Tryz.prog w = .ok (.bool (!a.eqB b)) w := by
  obtain ⟨a0, a1, a2, a3, a4, a5, a6, a7, a8, a9⟩ := a
  obtain ⟨b0, b1, b2, b3, b4, b5, b6, b7, b8, b9⟩ := b
  have hV := t_corners w a1 a2 a3 a4 a5 a6 a7 a8 a9 b1 b2 b3 b4 b5 b6 b7 b8 b9
  unfold TriR.eqB
  simp only [Bool.and_assoc] at hV ⊢
  generalize (a1 == b1 && (a2 == b2 && (a3 == b3 && (a4 == b4 && (a5 == b5 && (a6 == b6 && (a7 == b7 && (a8 == b8 && a9 == b9)))))))) = v at *
  cases h0 : (a0 == b0)
  · go_simp
  · cases v
    · go_simp
    · go_simp

theorem rows_at {w : World} {v : Value} {L : List (List Sn)} (h : RowsV w v L) : ∃ a c, v = .slice a L.length c ∧ L.length ≤ c ∧ c ≤ maxLen ∧ (0 < L.length → ∃ b off, a = some ⟨b, off, none⟩ ∧ ∀ j (hj : j < L.length), ∃ u, w.cell? ⟨b, off + j, none⟩ = some u ∧ Sl Sn.enc 3 w u L[j]) := by
  obtain ⟨us, h1, ⟨a, c, rfl, h2, h3, h4, h5⟩, h6⟩ := h
  rw [h1] at h2 ⊢
  refine ⟨a, c, rfl, h2, h3, fun h0 => ?_⟩
  obtain ⟨b, off, rfl, hr⟩ := h5 (by rw [h1]; exact h0)
  refine ⟨b, off, rfl, fun j hj => ?_⟩
  obtain ⟨u, hu, hs⟩ := h6 j hj
  have hj' : j < us.length := by omega
  have := hr j hj' 0 (by simp [oneC])
  have e : us[j] = u := by rw [List.getElem?_eq_getElem hj'] at hu; exact Option.some.inj hu
  refine ⟨u, ?_, hs⟩
  simpa [oneC, e] using this

set_option maxHeartbeats 2000000 in
set_option maxRecDepth 100000 in
theorem ra_q_same (L : List (List Sn)) (hL : L.length ≤ 4096) (hR : ∀ l ∈ L, l.length ≤ 1000) (v v' : Value) (w : World) (h : RowsV w v L) (h' : RowsV w v' L) :
    Calls Tryz.prog 13 #[v, v'] w fun e w' => e = .returned (.bool true) ∧ New w w' := by
  obtain ⟨a, c, rfl, -, -, g⟩ := rows_at h
  obtain ⟨a', c', rfl, -, -, g'⟩ := rows_at h'
  have HG := Lib.hid (And.intro g g')
  clear g g' h h'
  go_enter Tryz.func13, Tryz.ntmps13
  go_wp2_with fail
  go_loopg [5] L.length (fun k s wr => ∃ i : Nat, s = .int .i64 i ∧ i + k = L.length ∧ Hid (New w wr))
  case atStart => exact ⟨0, by simp, by omega, Lib.hid (by (repeat (first | (with_reducible exact New.refl _) | (with_reducible assumption) | ((with_reducible refine New.setB ?_ ?_ _); focus (first | omega | (simp; omega) | (simp; done))) | (with_reducible refine New.alloc ?_ _) | (with_reducible refine New.drew ?_) | (with_reducible refine New.drewN ?_ _) | (with_reducible refine New.hat ?_ _) | ((with_reducible apply New.snart); (with_reducible assumption)))))⟩
  case round =>
    obtain ⟨i, rfl, hik, HN⟩ := hrel
    by_cases hlt : i < L.length
    · obtain ⟨b, off, rfl, hA⟩ := HG.out.1 (by omega)
      obtain ⟨b', off', rfl, hA'⟩ := HG.out.2 (by omega)
      obtain ⟨u, hu, hs⟩ := hA i hlt
      obtain ⟨u', hu', hs'⟩ := hA' i hlt
      have hl := hR _ (List.getElem_mem hlt)
      generalize L[i] = l at *
      have HS := Lib.hid (And.intro (hs.keep HN.out) (hs'.keep HN.out))
      obtain ⟨ua, uc, rfl, -⟩ := hs
      obtain ⟨va, vc, rfl, -⟩ := hs'
      have q0 := HN.out.keep hu
      have q1 := HN.out.keep hu'
      have KS := Lib.hid (fun (x : Hat wr) => by have := rs_same ua va l l uc vc hl hl x.w (HS.out.1.keep x.h) (HS.out.2.keep x.h); rw [allEq_self] at this; exact this : ∀ x : Hat wr, Calls Tryz.prog 12 #[.slice ua l.length uc, .slice va l.length vc] x.w fun e w' => e = .returned (.bool true) ∧ New x.w w')
      clear hA hA' hu hu'
      go_wp2_with fail
      (refine wp_region_hat (by kernel_rfl) (by kernel_rfl) ?_; intro hatc hatf; (repeat (go_big_quiet_step ((first | (go_at_call 12; with_reducible exact Calls.hat (KS.out _)))))); refine wpQuiet_nil ?_; rintro _ ⟨x, rfl⟩)
      have hn := HN.out.trans x.h
      generalize x.w = V at *
      go_wp2_with fail
      go_roundg (gk - 1)
      case measure => omega
      case rel => exact ⟨i + 1, by go_num, by omega, Lib.hid hn⟩
    · go_wp2_with fail
      go_ret
      exact ⟨rfl, HN.out⟩

set_option maxHeartbeats 2000000 in
set_option maxRecDepth 100000 in
theorem q_sameT (l : List TriR) (hl : l.length ≤ 200) (v v' : Value) (w : World) (h : Sl TriR.enc 10 w v l) (h' : Sl TriR.enc 10 w v' l) :
    Calls Tryz.prog 14 #[v, v'] w fun e w' => e = .returned (.bool true) ∧ New w w' := by
  obtain ⟨a, c, rfl, -, -, -, g⟩ := h
  obtain ⟨a', c', rfl, -, -, -, g'⟩ := h'
  have HG := Lib.hid (And.intro g g')
  clear g g'
  go_enter Tryz.func14, Tryz.ntmps14
  go_wp2_with fail
  go_loopg [5] l.length (fun k s wr => ∃ i : Nat, s = .int .i64 i ∧ i + k = l.length ∧ Hid (New w wr))
  case atStart => exact ⟨0, by simp, by omega, Lib.hid (by (repeat (first | (with_reducible exact New.refl _) | (with_reducible assumption) | ((with_reducible refine New.setB ?_ ?_ _); focus (first | omega | (simp; omega) | (simp; done))) | (with_reducible refine New.alloc ?_ _) | (with_reducible refine New.drew ?_) | (with_reducible refine New.drewN ?_ _) | (with_reducible refine New.hat ?_ _) | ((with_reducible apply New.snart); (with_reducible assumption)))))⟩
  case round =>
    obtain ⟨i, rfl, hik, HN⟩ := hrel
    by_cases hlt : i < l.length
    · obtain ⟨b, off, rfl, hA⟩ := HG.out.1 (by omega)
      obtain ⟨b', off', rfl, hA'⟩ := HG.out.2 (by omega)
      obtain ⟨d0, d1, d2, d3, d4, d5, d6, d7, d8, d9⟩ := TriR.cells (hA.keep HN.out) i hlt
      obtain ⟨e0, e1, e2, e3, e4, e5, e6, e7, e8, e9⟩ := TriR.cells (hA'.keep HN.out) i hlt
      have hq := fun W => ra_tneq W l[i] l[i]
      rw [(TriR.eqB_iff _ _).2 rfl] at hq
      simp only [Bool.not_true] at hq
      clear hA hA'
      generalize l[i] = T at *
      go_wp2_with fail
      (refine wp_region_hat (by kernel_rfl) (by kernel_rfl) ?_; intro hatc hatf; (repeat (go_big_quiet_step ((fail)))); refine wpQuiet_nil ?_; rintro _ ⟨x, rfl⟩)
      have hn := HN.out.trans x.h
      generalize x.w = V at *
      go_wp2_with fail
      go_roundg (gk - 1)
      case measure => omega
      case rel => exact ⟨i + 1, by go_num, by omega, Lib.hid hn⟩
    · go_wp2_with fail
      go_ret
      exact ⟨rfl, HN.out⟩

end Go.Proofs.YtccikeagbillgaaGreat

/- The document's own Touch. -/
namespace Go.Proofs.YtccikeagbillgaaGreat
open Go.RowKit Go.Sort
set_option linter.unusedVariables false

theorem tch_iff {C : CfgR} {x z wi d : Int} (hb : boxB x z wi d = true) (T : TriR) : tchB C ⟨x, z, wi, d⟩ T = true ↔ ∃ x' z', (max x 0 ≤ x' ∧ x' < min (x + wi) C.wd) ∧ (max z 0 ≤ z' ∧ z' < min (z + d) C.dp) ∧ ovB T x' z' = true := by
  have h1 := el_any (C := C) (T := T) (bx_ok hb)
  have h2 : tchB C ⟨x, z, wi, d⟩ T = true ↔ elAll C T ⟨x, z, wi, d⟩ ≠ [] := by unfold tchB; simp
  rw [h2, h1]
  constructor
  · rintro ⟨x', z', hi, hw, ho⟩
    obtain ⟨⟨i1, i2⟩, i3, i4⟩ := hi
    have hw' := inW_iff.1 hw
    dsimp only at i1 i2 i3 i4
    exact ⟨x', z', by omega, by omega, ho⟩
  · rintro ⟨x', z', h3, h4, ho⟩
    refine ⟨x', z', ⟨⟨?_, ?_⟩, ?_, ?_⟩, inW_iff.2 (by omega), ho⟩ <;> dsimp only <;> omega

set_option maxHeartbeats 4000000 in
set_option maxRecDepth 100000 in
theorem q_touch (C : CfgR) (at0 : Option Addr) (l : List TriR) (cap : Nat) (hl : l.length ≤ maxLen) (x z wi d : Int) (w : World) (H : RowIn TriR.enc 10 w at0 l) :
    Calls Tryz.prog 16 #[.agg #[.int .i64 C.cl, .int .i64 C.cb, .int .i64 C.ht, .int .i64 C.ri, .int .i64 C.ru, .int .i64 C.wd, .int .i64 C.dp], .slice at0 l.length cap, .int .i64 x, .int .i64 z, .int .i64 wi, .int .i64 d] w fun e w' =>
      ∃ v, e = .returned v ∧ Sl TriR.enc 10 w' v (tchL C l x z wi d) ∧ New w w' := by
  have KE := Lib.hid (fun W => rcheck_any C.cl C.cb C.ht C.ri C.ru C.wd C.dp W)
  have eE : checkE C.cl C.cb C.ht C.ri C.ru C.wd C.dp = C.err := rfl
  rw [eE] at KE
  clear eE
  by_cases hE : C.err = 0
  rotate_left
  · have e20 : C.err = 20 := (err_two C).resolve_left hE
    have ec : rchk C l = 20 := by unfold rchk; rw [if_pos hE, e20]
    rw [tch_no (.inl (by rw [ec]; decide : rchk C l ≠ 0))]
    rw [e20] at KE
    clear ec e20 hE
    go_enter Tryz.func16, Tryz.ntmps16
    go_wp2_with fail
    generalize hW : World.alloc _ _ = W1
    have n1 : New w W1 := by subst hW; (repeat (first | (with_reducible exact New.refl _) | (with_reducible assumption) | ((with_reducible refine New.setB ?_ ?_ _); focus (first | omega | (simp; omega) | (simp; done))) | (with_reducible refine New.alloc ?_ _) | (with_reducible refine New.drew ?_) | (with_reducible refine New.drewN ?_ _) | (with_reducible refine New.hat ?_ _) | ((with_reducible apply New.snart); (with_reducible assumption))))
    have hB : W1.heap[w.heap.size]? = some (.cells (cfgA C) 23 (0, 0)) := by subst hW; exact World.alloc_heap_new w _
    clear hW
    refine (KE.out _).mono ?_
    rintro e w2 ⟨rfl, n2⟩
    obtain ⟨c0, c1, c2, c3, c4, c5, c6⟩ := cfg_cs (New.blk n2.1 hB)
    go_wp2_with fail
    have hn := n1.trans n2.1
    refine bodyPost_ret (v := .slice none 0 0) (by simp [results, Tryz.results16, go_sem, *]) rfl ?_
    exact ⟨_, rfl, Sl.nil, hn⟩
  · rw [hE] at KE
    have hC := CfgR.fine_of hE
    have KM := Lib.hid (fun W (n : New w W) => m_may C hC at0 l cap hl W (H.keep n))
    have KB := Lib.hid (fun W => r_box x z wi d W)
    cases hm : mayL C l
    · have ec : rchk C l = 2 := by unfold rchk; rw [if_neg (by simpa using hE), hm]; rfl
      rw [tch_no (.inl (by rw [ec]; decide : rchk C l ≠ 0))]
      rw [hm] at KM
      clear ec hm hE
      go_enter Tryz.func16, Tryz.ntmps16
      go_wp2_with fail
      generalize hW : World.alloc _ _ = W1
      have n1 : New w W1 := by subst hW; (repeat (first | (with_reducible exact New.refl _) | (with_reducible assumption) | ((with_reducible refine New.setB ?_ ?_ _); focus (first | omega | (simp; omega) | (simp; done))) | (with_reducible refine New.alloc ?_ _) | (with_reducible refine New.drew ?_) | (with_reducible refine New.drewN ?_ _) | (with_reducible refine New.hat ?_ _) | ((with_reducible apply New.snart); (with_reducible assumption))))
      have hB : W1.heap[w.heap.size]? = some (.cells (cfgA C) 23 (0, 0)) := by subst hW; exact World.alloc_heap_new w _
      clear hW
      refine (KE.out _).mono ?_
      rintro e w2 ⟨rfl, n2⟩
      obtain ⟨c0, c1, c2, c3, c4, c5, c6⟩ := cfg_cs (New.blk n2.1 hB)
      go_wp2_with fail
      refine (KM.out _ (n1.trans n2.1)).mono ?_
      rintro e w3 ⟨rfl, n3⟩
      clear c0 c1 c2 c3 c4 c5 c6
      have N3 := Lib.hid (n1.trans (New.trans n2.1 n3))
      have HB := Lib.hid (New.blk n3 (New.blk n2.1 hB))
      clear n1 n2 n3 hB
      go_wp2_with fail
      refine bodyPost_ret (v := .slice none 0 0) (by simp [results, Tryz.results16, go_sem, *]) rfl ?_
      exact ⟨_, rfl, Sl.nil, N3.out⟩
    · have ec : rchk C l = 0 := by unfold rchk; rw [if_neg (by simpa using hE), hm]; rfl
      rw [hm] at KM
      cases hb : boxB x z wi d
      · rw [tch_no (.inr hb)]
        rw [hb] at KB
        clear ec hm hE hb
        go_enter Tryz.func16, Tryz.ntmps16
        go_wp2_with fail
        generalize hW : World.alloc _ _ = W1
        have n1 : New w W1 := by subst hW; (repeat (first | (with_reducible exact New.refl _) | (with_reducible assumption) | ((with_reducible refine New.setB ?_ ?_ _); focus (first | omega | (simp; omega) | (simp; done))) | (with_reducible refine New.alloc ?_ _) | (with_reducible refine New.drew ?_) | (with_reducible refine New.drewN ?_ _) | (with_reducible refine New.hat ?_ _) | ((with_reducible apply New.snart); (with_reducible assumption))))
        have hB : W1.heap[w.heap.size]? = some (.cells (cfgA C) 23 (0, 0)) := by subst hW; exact World.alloc_heap_new w _
        clear hW
        refine (KE.out _).mono ?_
        rintro e w2 ⟨rfl, n2⟩
        obtain ⟨c0, c1, c2, c3, c4, c5, c6⟩ := cfg_cs (New.blk n2.1 hB)
        go_wp2_with fail
        refine (KM.out _ (n1.trans n2.1)).mono ?_
        rintro e w3 ⟨rfl, n3⟩
        clear c0 c1 c2 c3 c4 c5 c6
        have N3 := Lib.hid (n1.trans (New.trans n2.1 n3))
        have HB := Lib.hid (New.blk n3 (New.blk n2.1 hB))
        clear n1 n2 n3 hB
        go_wp2_with fail
        refine (KB.out _).mono ?_
        rintro e w4 ⟨rfl, n4⟩
        have N4 := Lib.hid (N3.out.trans n4)
        have HB4 := Lib.hid (n4.blk HB.out)
        clear n4
        go_wp2_with fail
        refine bodyPost_ret (v := .slice none 0 0) (by simp [results, Tryz.results16, go_sem, *]) rfl ?_
        exact ⟨_, rfl, Sl.nil, N4.out⟩
      · rw [hb] at KB
        rw [tch_yes ec hb]
        have hbb := boxB_iff.1 hb
        have HI := Lib.hid (fun T => tch_iff (C := C) hb T)
        obtain ⟨k1, k2, k3⟩ := rchk_zero ec
        have KO := Lib.hid (fun T x z W => r_over T x z W)
        have HH := Lib.hid (fun W (n : New w W) => H.keep n)
        obtain ⟨i0, hi0, hz0, hz1, hz2⟩ := info_parts tri_info
        have hw1 := hC.w1
        have hw2 := hC.w2
        have hd1 := hC.d1
        have hd2 := hC.d2
        have w1 : IntKind.i64.wrap (x + wi) = x + wi := IntWalk.i64_in _ (by omega)
        have w2' : IntKind.i64.wrap (z + d) = z + d := IntWalk.i64_in _ (by omega)
        clear hm hE hb ec k1 k3
        go_enter Tryz.func16, Tryz.ntmps16
        go_wp2_with fail
        generalize hW : World.alloc _ _ = W1
        have n1 : New w W1 := by subst hW; (repeat (first | (with_reducible exact New.refl _) | (with_reducible assumption) | ((with_reducible refine New.setB ?_ ?_ _); focus (first | omega | (simp; omega) | (simp; done))) | (with_reducible refine New.alloc ?_ _) | (with_reducible refine New.drew ?_) | (with_reducible refine New.drewN ?_ _) | (with_reducible refine New.hat ?_ _) | ((with_reducible apply New.snart); (with_reducible assumption))))
        have hB : W1.heap[w.heap.size]? = some (.cells (cfgA C) 23 (0, 0)) := by subst hW; exact World.alloc_heap_new w _
        clear hW
        refine (KE.out _).mono ?_
        rintro e w2 ⟨rfl, n2⟩
        obtain ⟨c0, c1, c2, c3, c4, c5, c6⟩ := cfg_cs (New.blk n2.1 hB)
        go_wp2_with fail
        refine (KM.out _ (n1.trans n2.1)).mono ?_
        rintro e w3 ⟨rfl, n3⟩
        clear c0 c1 c2 c3 c4 c5 c6
        have N3 := Lib.hid (n1.trans (New.trans n2.1 n3))
        have HB := Lib.hid (New.blk n3 (New.blk n2.1 hB))
        clear n1 n2 n3 hB
        go_wp2_with fail
        refine (KB.out _).mono ?_
        rintro e w4 ⟨rfl, n4⟩
        have N4 := Lib.hid (N3.out.trans n4)
        have HB4 := Lib.hid (n4.blk HB.out)
        clear n4
        go_wp2_with fail
        go_loopg [13, 14] l.length (fun k own s wr => ∃ i : Nat, s = .int .i64 i ∧ i + k = l.length ∧ Hid (wr.ownsRow w4.heap.size 43 10 own ((l.take i).filter (tchB C ⟨x, z, wi, d⟩)).length (((l.take i).filter (tchB C ⟨x, z, wi, d⟩)).flatMap TriR.enc)) ∧ Hid (New w4 wr))
        case atStart => exact ⟨0, by simp, by omega, Lib.hid (World.ownsRow_nil _ _ _ _), Lib.hid (New.refl _)⟩
        case round =>
          obtain ⟨i, rfl, hik, HO, HN⟩ := hrel
          rename World => wA
          by_cases hlt : i < l.length
          · obtain ⟨c0, c1, c2, c3, c4, c5, c6⟩ := cfg_cs (HN.out.blk HB4.out)
            obtain ⟨b0, off, hat, hA⟩ := HH.out w (New.refl _) (by omega)
            have HT : Hid (∀ W, New w4 W → W.cell? ⟨b0, off + i * 10, none⟩ = some (.int .i64 l[i].i) ∧ W.cell? ⟨b0, off + i * 10 + 1, none⟩ = some (.int .i64 l[i].x0) ∧ W.cell? ⟨b0, off + i * 10 + 2, none⟩ = some (.int .i64 l[i].y0) ∧ W.cell? ⟨b0, off + i * 10 + 3, none⟩ = some (.int .i64 l[i].z0) ∧ W.cell? ⟨b0, off + i * 10 + 4, none⟩ = some (.int .i64 l[i].x1) ∧ W.cell? ⟨b0, off + i * 10 + 5, none⟩ = some (.int .i64 l[i].y1) ∧ W.cell? ⟨b0, off + i * 10 + 6, none⟩ = some (.int .i64 l[i].z1) ∧ W.cell? ⟨b0, off + i * 10 + 7, none⟩ = some (.int .i64 l[i].x2) ∧ W.cell? ⟨b0, off + i * 10 + 8, none⟩ = some (.int .i64 l[i].y2) ∧ W.cell? ⟨b0, off + i * 10 + 9, none⟩ = some (.int .i64 l[i].z2)) := Lib.hid (fun W n => TriR.cells (hA.keep (N4.out.trans n)) i hlt)
            subst hat
            have htk : l.take (i + 1) = l.take i ++ [l[i]] := by rw [List.take_add_one, List.getElem?_eq_getElem hlt]; rfl
            have HTK : Hid ((l.take (i + 1)).filter (tchB C ⟨x, z, wi, d⟩) = (l.take i).filter (tchB C ⟨x, z, wi, d⟩) ++ (if tchB C ⟨x, z, wi, d⟩ l[i] then [l[i]] else [])) := Lib.hid (by
              rw [htk, List.filter_append]
              congr 1
              simp [List.filter_cons])
            have hle : ((l.take i).filter (tchB C ⟨x, z, wi, d⟩)).length ≤ 200 := Nat.le_trans (List.length_filter_le _ _) (by rw [List.length_take]; omega)
            clear hA htk
            generalize l[i] = T at *
            go_wp2_with fail
            clear c0 c1 c2 c3 c4 c5 c6
            go_loopg [15, 16] ((min (z + d) C.dp - max z 0).toNat) (fun k o s wr2 => ∃ (n : Nat) (B : Bool), s = .int .i64 (max z 0 + (n : Int)) ∧ o = .bool B ∧ (min (z + d) C.dp - (max z 0 + (n : Int))).toNat ≤ k ∧ (n = 0 ∨ max z 0 + (n : Int) ≤ min (z + d) C.dp) ∧
              Hid (B = true → ∃ x' z', (max x 0 ≤ x' ∧ x' < min (x + wi) C.wd) ∧ (max z 0 ≤ z' ∧ z' < min (z + d) C.dp) ∧ ovB T x' z' = true) ∧
              Hid (B = false → ∀ x' z', (max x 0 ≤ x' ∧ x' < min (x + wi) C.wd) → (max z 0 ≤ z' ∧ z' < max z 0 + (n : Int)) → ovB T x' z' = false) ∧ Hid (New w4 wr2) ∧ Hid (New wA wr2))
            case atStart => exact ⟨0, false, by simp, rfl, by simp, .inl rfl, Lib.hid (fun h => by cases h), Lib.hid (fun _ x' z' _ h => by omega), HN, Lib.hid (New.refl _)⟩
            case round =>
              obtain ⟨n, B, rfl, rfl, hgk, hn0, HP, HQ, HN2, HNN⟩ := hrel
              rename World => wB
              obtain ⟨c0, c1, c2, c3, c4, c5, c6⟩ := cfg_cs (HN2.out.blk HB4.out)
              cases B
              · replace HQ := Lib.hid (HQ.out rfl)
                clear HP
                by_cases hk : max z 0 + (n : Int) < min (z + d) C.dp
                · go_wp2_with fail
                  clear c0 c1 c2 c3 c4 c5 c6
                  go_loopg [15, 17] ((min (x + wi) C.wd - max x 0).toNat) (fun k o s wr3 => ∃ (m : Nat) (B : Bool), s = .int .i64 (max x 0 + (m : Int)) ∧ o = .bool B ∧ (min (x + wi) C.wd - (max x 0 + (m : Int))).toNat ≤ k ∧ (m = 0 ∨ max x 0 + (m : Int) ≤ min (x + wi) C.wd) ∧
                    Hid (B = true → ∃ x' z', (max x 0 ≤ x' ∧ x' < min (x + wi) C.wd) ∧ (max z 0 ≤ z' ∧ z' < min (z + d) C.dp) ∧ ovB T x' z' = true) ∧
                    Hid (B = false → ∀ x', max x 0 ≤ x' → x' < max x 0 + (m : Int) → ovB T x' (max z 0 + (n : Int)) = false) ∧ Hid (New w4 wr3) ∧ Hid (New wA wr3))
                  case atStart => exact ⟨0, false, by simp, rfl, by simp, .inl rfl, Lib.hid (fun h => by cases h), Lib.hid (fun _ x' _ h => by omega), HN2, HNN⟩
                  case round =>
                    obtain ⟨m, B, rfl, rfl, hgk2, hm0, HP2, HQ2, HN3, HNN3⟩ := hrel
                    obtain ⟨c0, c1, c2, c3, c4, c5, c6⟩ := cfg_cs (HN3.out.blk HB4.out)
                    cases B
                    · replace HQ2 := Lib.hid (HQ2.out rfl)
                      clear HP2
                      by_cases hj : max x 0 + (m : Int) < min (x + wi) C.wd
                      · obtain ⟨d0, d1, d2, d3, d4, d5, d6, d7, d8, d9⟩ := HT.out wr HN3.out
                        have KO1 := Lib.hid (fun W => KO.out T (max x 0 + (m : Int)) (max z 0 + (n : Int)) W)
                        obtain ⟨ov, hov⟩ : ∃ b, b = ovB T (max x 0 + (m : Int)) (max z 0 + (n : Int)) := ⟨_, rfl⟩
                        rw [← hov] at KO1
                        have BT : Hid (ov = true → ∃ x' z', (max x 0 ≤ x' ∧ x' < min (x + wi) C.wd) ∧ (max z 0 ≤ z' ∧ z' < min (z + d) C.dp) ∧ ovB T x' z' = true) := Lib.hid (fun h => ⟨_, _, ⟨by omega, hj⟩, ⟨by omega, hk⟩, by rw [← hov]; exact h⟩)
                        have BF : Hid (ov = false → ∀ x', max x 0 ≤ x' → x' < max x 0 + ((m + 1 : Nat) : Int) → ovB T x' (max z 0 + (n : Int)) = false) := Lib.hid (fun h x' h1 h2 => by
                          by_cases e : x' < max x 0 + (m : Int)
                          · exact HQ2.out x' h1 e
                          · have e2 : x' = max x 0 + (m : Int) := by omega
                            rw [e2, ← hov]
                            exact h)
                        clear hov
                        go_wp2_with fail
                        refine (KO1.out _).mono ?_
                        rintro e w5 ⟨rfl, n5⟩
                        have HN5 := Lib.hid (HN3.out.trans n5)
                        have HNN5 := Lib.hid (HNN3.out.trans n5)
                        clear n5 c0 c1 c2 c3 c4 c5 c6 d0 d1 d2 d3 d4 d5 d6 d7 d8 d9
                        go_wp2_with fail
                        go_roundg ((min (x + wi) C.wd - (max x 0 + ((m + 1 : Nat) : Int))).toNat)
                        case measure => omega
                        case rel => exact ⟨m + 1, _, by go_num, rfl, Nat.le_refl _, by omega, BT, BF, HN5, HNN5⟩
                      · have BF : Hid (∀ x' z', (max x 0 ≤ x' ∧ x' < min (x + wi) C.wd) → (max z 0 ≤ z' ∧ z' < max z 0 + ((n + 1 : Nat) : Int)) → ovB T x' z' = false) := Lib.hid (fun x' z' h1 h2 => by
                          by_cases e : z' < max z 0 + (n : Int)
                          · exact HQ.out x' z' h1 ⟨h2.1, e⟩
                          · have e2 : z' = max z 0 + (n : Int) := by omega
                            rw [e2]
                            exact HQ2.out x' h1.1 (by omega))
                        go_wp2_with fail
                        go_roundg ((min (z + d) C.dp - (max z 0 + ((n + 1 : Nat) : Int))).toNat)
                        case measure => omega
                        case rel => exact ⟨n + 1, false, by go_num, rfl, Nat.le_refl _, by omega, Lib.hid (fun h => by cases h), Lib.hid (fun _ => BF.out), HN3, HNN3⟩
                    · replace HP2 := Lib.hid (HP2.out rfl)
                      clear HQ2
                      by_cases hj : max x 0 + (m : Int) < min (x + wi) C.wd
                      all_goals
                        go_wp2_with fail
                        go_roundg ((min (z + d) C.dp - (max z 0 + ((n + 1 : Nat) : Int))).toNat)
                        case measure => omega
                        case rel => exact ⟨n + 1, true, by go_num, rfl, Nat.le_refl _, by omega, Lib.hid (fun _ => HP2.out), Lib.hid (fun h => by cases h), HN3, HNN3⟩
                · clear c0 c1 c2 c3 c4 c5
                  have cd : wB.cell? ⟨w.heap.size, 6, none⟩ = some (.int .i64 C.dp) := c6
                  clear c6
                  have ht : tchB C ⟨x, z, wi, d⟩ T = false := by
                    cases hq : tchB C ⟨x, z, wi, d⟩ T with
                    | false => rfl
                    | true =>
                      obtain ⟨x', z', h3, h4, ho⟩ := (HI.out T).1 hq
                      rw [HQ.out x' z' h3 (by omega)] at ho
                      cases ho
                  have hown' := HTK.out
                  rw [ht] at hown'
                  simp only [Bool.false_eq_true, if_false, List.append_nil] at hown'
                  have HA := Lib.hid hown'
                  clear hown' ht
                  go_wp2_with fail
                  go_roundg (l.length - i - 1)
                  case measure => omega
                  case rel => exact ⟨i + 1, by go_num, by omega, Lib.hid (by rw [HA.out]; exact own_new HO.out HNN.out), HN2⟩
              · replace HP := Lib.hid (HP.out rfl)
                clear HQ
                by_cases hk : max z 0 + (n : Int) < min (z + d) C.dp
                all_goals
                  have ht : tchB C ⟨x, z, wi, d⟩ T = true := (HI.out T).2 HP.out
                  have hown' := HTK.out
                  rw [ht] at hown'
                  simp only [if_true] at hown'
                  have hlen : ((l.take i).filter (tchB C ⟨x, z, wi, d⟩) ++ [T]).length = ((l.take i).filter (tchB C ⟨x, z, wi, d⟩)).length + 1 := by rw [List.length_append]; rfl
                  have hfl : ((l.take i).filter (tchB C ⟨x, z, wi, d⟩) ++ [T]).flatMap TriR.enc = ((l.take i).filter (tchB C ⟨x, z, wi, d⟩)).flatMap TriR.enc ++ T.enc := by rw [List.flatMap_append]; simp
                  have HA := Lib.hid (And.intro hown' (And.intro hlen hfl))
                  obtain ⟨d0, d1, d2, d3, d4, d5, d6, d7, d8, d9⟩ := HT.out wB HN2.out
                  have HO6 := Lib.hid ((own_new HO.out HNN.out).alloc (.cells (triA T) 43))
                  have hb5 : w4.heap.size ≤ wB.heap.size := HN2.out.size
                  clear hown' hlen hfl ht
                  go_wp2_with (at_builtin; refine wpList_append_own _ rfl _ _ 24 rfl w4.heap.size 43 i0 (.agg #[.int .i64 0, .int .i64 0, .int .i64 0, .int .i64 0, .int .i64 0, .int .i64 0, .int .i64 0, .int .i64 0, .int .i64 0, .int .i64 0]) 10 80 Tryz.underlying24 hi0 hz0 hz1 hz2 rfl (by decide) _ _ _ rfl HO6.out ⟨wB.heap.size, 0, none⟩ 1 1 T.enc rfl rfl (new_add wB (triA T) 43) (TriR.enc_one _) (by unfold maxLen; omega) (by omega) (by simp; omega) ?_; intro v' w6 hown'' hgrow _)
                  go_roundg (l.length - i - 1)
                  case measure => omega
                  case rel =>
                    refine ⟨i + 1, by go_num, by omega, Lib.hid ?_, Lib.hid ?_⟩
                    · rw [HA.out.1, HA.out.2.1, HA.out.2.2]
                      exact hown''
                    · exact newGrown (HN2.out.trans ((New.refl wB).alloc _)) hgrow (fun k hk => (HO.out.lt k hk).1)
          · obtain rfl : i = l.length := by omega
            have hOO := HO.out
            rw [List.take_length] at hOO
            obtain ⟨oa, oc, on, hon, rfl⟩ := own_shape2 hOO
            have HOS := Lib.hid (own_sl TriR.enc_len hOO)
            clear hOO hon
            go_wp2_with fail
            refine bodyPost_ret (v := .slice oa on oc) (by simp [results, Tryz.results16, go_sem, *]) rfl ?_
            exact ⟨_, rfl, HOS.out, N4.out.trans HN.out⟩

end Go.Proofs.YtccikeagbillgaaGreat
