import Derived.Test.YtdbhlepbaepngaaGreatDoorSoDZ15

/- Package soup: whether one of a kind may be. -/
namespace Go.Proofs.YtdbhlepbaepngaaGreatDoor
open Go.RowKit
set_option linter.unusedVariables false

set_option maxHeartbeats 400000 in
theorem b_id (x : BoxR) (w : World) : Calls Tryz.prog 70 #[.agg #[.int .i64 x.i, .int .i64 x.x0, .int .i64 x.z0, .int .i64 x.x1, .int .i64 x.z1, .int .i64 x.y0, .int .i64 x.y1, .int .i64 x.ar]] w fun e w' => e = .returned (.int .i64 x.i) ∧ New w w' := by
  go_enter Tryz.func70, Tryz.ntmps70
  go_wp2_with fail
  go_ret
  exact ⟨rfl, by (repeat (first | (with_reducible exact New.refl _) | (with_reducible assumption) | ((with_reducible refine New.setB ?_ ?_ _); focus (first | omega | (simp; omega) | (simp; done))) | (with_reducible refine New.alloc ?_ _) | (with_reducible refine New.drew ?_) | (with_reducible refine New.drewN ?_ _) | (with_reducible refine New.hat ?_ _) | ((with_reducible apply New.snart); (with_reducible assumption))))⟩

set_option maxHeartbeats 400000 in
theorem b_list (b : Nat) (w : World) : Calls Tryz.prog 69 #[.pointer (some ⟨b, 0, none⟩)] w fun e w' => e = .returned (.pointer (some ⟨b, 1, none⟩)) ∧ w = w' := by
  go_enter Tryz.func69, Tryz.ntmps69
  go_wp2_with fail
  go_ret
  exact ⟨rfl, rfl⟩

def BoxR.may (C : CfgR) (x : BoxR) : Bool := ordB [1, x.i, 1073741824] && x.tests C

set_option maxHeartbeats 2000000 in
set_option maxRecDepth 100000 in
theorem b_may (C : CfgR) (hC : C.fine) (x : BoxR) (w : World) :
    Calls Tryz.prog 68 #[.agg #[.int .i64 C.cl, .int .i64 C.cb, .int .i64 C.ht, .int .i64 C.ri, .int .i64 C.ru, .int .i64 C.wd, .int .i64 C.dp], .agg #[.int .i64 x.i, .int .i64 x.x0, .int .i64 x.z0, .int .i64 x.x1, .int .i64 x.z1, .int .i64 x.y0, .int .i64 x.y1, .int .i64 x.ar], .agg #[.func (.func 69) #[] #[], .func (.func 70) #[] #[], .int .i64 16, .int .i64 2, .func (.func 71) #[] #[]]] w fun e w' => e = .returned (.bool (x.may C)) ∧ New w w' := by
  have hid := fun W => b_id x W
  have HCH := Lib.hid (fun W => BoxR.checks C hC x W)
  obtain ⟨v, hv⟩ : ∃ v, v = x.may C := ⟨_, rfl⟩
  rw [← hv]
  unfold BoxR.may at hv
  generalize BoxR.tests C x = tv at *
  cases h1 : ordB [1, x.i, 1073741824]
  · have HV : Hid (v = false) := by show v = false; rw [hv, h1]; rfl
    clear hv HCH
    have k1 := Lib.hid (fun b W (H : IntsAt W b [1, x.i, 1073741824]) => by have q := l_inOrder b 3 [1, x.i, 1073741824] (by simp) (by simp) W H; rw [h1] at q; exact q : ∀ b W, IntsAt W b [1, x.i, 1073741824] → Calls Tryz.prog 73 #[.slice (some ⟨b, 0, none⟩) 3 3] W fun e w' => e = .returned (.bool false) ∧ New W w')
    clear h1 hC
    go_enter Tryz.func68, Tryz.ntmps68
    go_wp2_with fail
    generalize hW : World.alloc _ _ = W
    have hn : New w W := by subst hW; (repeat (first | (with_reducible exact New.refl _) | (with_reducible assumption) | ((with_reducible refine New.setB ?_ ?_ _); focus (first | omega | (simp; omega) | (simp; done))) | (with_reducible refine New.alloc ?_ _) | (with_reducible refine New.drew ?_) | (with_reducible refine New.drewN ?_ _) | (with_reducible refine New.hat ?_ _) | ((with_reducible apply New.snart); (with_reducible assumption))))
    clear hW
    refine (hid _).mono ?_
    rintro e W1 ⟨rfl, n1⟩
    replace hn := hn.trans n1
    clear n1 hid
    go_wp2_with fail
    refine (k1.out _ _ (ints_at _ [1, x.i, 1073741824] _ _ rfl)).mono ?_
    rintro e W2 ⟨rfl, n1⟩
    replace hn : New w W2 := New.trans (hn.alloc _) n1
    clear n1 k1
    go_wp2_with fail
    go_ret
    exact ⟨retBo HV.out.symm, hn⟩
  · rw [h1, Bool.true_and] at hv
    subst hv
    have k1 := Lib.hid (fun b W (H : IntsAt W b [1, x.i, 1073741824]) => by have q := l_inOrder b 3 [1, x.i, 1073741824] (by simp) (by simp) W H; rw [h1] at q; exact q : ∀ b W, IntsAt W b [1, x.i, 1073741824] → Calls Tryz.prog 73 #[.slice (some ⟨b, 0, none⟩) 3 3] W fun e w' => e = .returned (.bool true) ∧ New W w')
    clear h1 hC
    go_enter Tryz.func68, Tryz.ntmps68
    go_wp2_with fail
    generalize hW : World.alloc _ _ = W
    have hn : New w W := by subst hW; (repeat (first | (with_reducible exact New.refl _) | (with_reducible assumption) | ((with_reducible refine New.setB ?_ ?_ _); focus (first | omega | (simp; omega) | (simp; done))) | (with_reducible refine New.alloc ?_ _) | (with_reducible refine New.drew ?_) | (with_reducible refine New.drewN ?_ _) | (with_reducible refine New.hat ?_ _) | ((with_reducible apply New.snart); (with_reducible assumption))))
    have kc : W.cell? ⟨w.heap.size + 1 + 1, 4, none⟩ = some (.func (.func 71) #[] #[]) := by subst hW; go_simp
    ((have g0 : World.cell? (W) ⟨w.heap.size, 0, none⟩ = some (.int .i64 C.cl) := (by subst hW; go_simp)); (have g1 : World.cell? (W) ⟨w.heap.size, 1, none⟩ = some (.int .i64 C.cb) := (by subst hW; go_simp)); (have g2 : World.cell? (W) ⟨w.heap.size, 2, none⟩ = some (.int .i64 C.ht) := (by subst hW; go_simp)); (have g3 : World.cell? (W) ⟨w.heap.size, 3, none⟩ = some (.int .i64 C.ri) := (by subst hW; go_simp)); (have g4 : World.cell? (W) ⟨w.heap.size, 4, none⟩ = some (.int .i64 C.ru) := (by subst hW; go_simp)); (have g5 : World.cell? (W) ⟨w.heap.size, 5, none⟩ = some (.int .i64 C.wd) := (by subst hW; go_simp)); (have g6 : World.cell? (W) ⟨w.heap.size, 6, none⟩ = some (.int .i64 C.dp) := (by subst hW; go_simp)))
    ((have c0 : World.cell? (W) ⟨w.heap.size + 1, 0, none⟩ = some (.int .i64 x.i) := (by subst hW; go_simp)); (have c1 : World.cell? (W) ⟨w.heap.size + 1, 1, none⟩ = some (.int .i64 x.x0) := (by subst hW; go_simp)); (have c2 : World.cell? (W) ⟨w.heap.size + 1, 2, none⟩ = some (.int .i64 x.z0) := (by subst hW; go_simp)); (have c3 : World.cell? (W) ⟨w.heap.size + 1, 3, none⟩ = some (.int .i64 x.x1) := (by subst hW; go_simp)); (have c4 : World.cell? (W) ⟨w.heap.size + 1, 4, none⟩ = some (.int .i64 x.z1) := (by subst hW; go_simp)); (have c5 : World.cell? (W) ⟨w.heap.size + 1, 5, none⟩ = some (.int .i64 x.y0) := (by subst hW; go_simp)); (have c6 : World.cell? (W) ⟨w.heap.size + 1, 6, none⟩ = some (.int .i64 x.y1) := (by subst hW; go_simp)); (have c7 : World.cell? (W) ⟨w.heap.size + 1, 7, none⟩ = some (.int .i64 x.ar) := (by subst hW; go_simp)))
    clear hW
    refine (hid _).mono ?_
    rintro e W1 ⟨rfl, n1⟩
    replace hn := hn.trans n1
    replace kc := New.keep n1 kc
    (replace g0 := New.keep (n1) g0; replace g1 := New.keep (n1) g1; replace g2 := New.keep (n1) g2; replace g3 := New.keep (n1) g3; replace g4 := New.keep (n1) g4; replace g5 := New.keep (n1) g5; replace g6 := New.keep (n1) g6)
    (replace c0 := New.keep (n1) c0; replace c1 := New.keep (n1) c1; replace c2 := New.keep (n1) c2; replace c3 := New.keep (n1) c3; replace c4 := New.keep (n1) c4; replace c5 := New.keep (n1) c5; replace c6 := New.keep (n1) c6; replace c7 := New.keep (n1) c7)
    clear n1 hid
    go_wp2_with fail
    refine (k1.out _ _ (ints_at _ [1, x.i, 1073741824] _ _ rfl)).mono ?_
    rintro e W2 ⟨rfl, n1⟩
    replace n1 := New.trans ((New.refl _).alloc _) n1
    replace hn : New w W2 := New.trans hn n1
    replace kc := New.keep n1 kc
    (replace g0 := New.keep (n1) g0; replace g1 := New.keep (n1) g1; replace g2 := New.keep (n1) g2; replace g3 := New.keep (n1) g3; replace g4 := New.keep (n1) g4; replace g5 := New.keep (n1) g5; replace g6 := New.keep (n1) g6)
    (replace c0 := New.keep (n1) c0; replace c1 := New.keep (n1) c1; replace c2 := New.keep (n1) c2; replace c3 := New.keep (n1) c3; replace c4 := New.keep (n1) c4; replace c5 := New.keep (n1) c5; replace c6 := New.keep (n1) c6; replace c7 := New.keep (n1) c7)
    clear n1 k1
    go_wp2_with fail
    refine (HCH.out _).mono ?_
    rintro e W3 ⟨B, fl, rfl, hl, hall, hg, hat, n1⟩
    have HA := Lib.hid (l_all W3 B fl.length fl hl hg W3 (New.refl _) hat)
    rw [hall] at HA
    replace hn := New.trans hn n1
    clear n1 hall hg hat HCH kc hl
    clear c0 c1 c2 c3 c4 c5 c6 c7
    clear g0 g1 g2 g3 g4 g5 g6
    go_wp2_with fail
    refine HA.out.mono ?_
    rintro e W4 ⟨rfl, n1⟩
    replace hn := New.trans hn n1
    go_wp2_with fail
    go_ret
    exact ⟨rfl, hn⟩

end Go.Proofs.YtdbhlepbaepngaaGreatDoor

/- Package soup: whether a list of a kind may be. -/
namespace Go.Proofs.YtdbhlepbaepngaaGreatDoor
open Go.RowKit
set_option linter.unusedVariables false

def BoxR.okAt (C : CfgR) (l : List BoxR) (i : Nat) : Bool := (l[i]!).may C && (i == 0 || decide ((l[i - 1]!).i < (l[i]!).i))
def BoxR.listB (C : CfgR) (l : List BoxR) : Bool := decide (l.length ≤ 16) && (List.range l.length).all (BoxR.okAt C l)
theorem BoxR.okAt_zero (C : CfgR) (l : List BoxR) (h : 0 < l.length) : BoxR.okAt C l 0 = l[0].may C := by
  unfold BoxR.okAt
  rw [getElem!_pos l 0 h]
  simp
theorem BoxR.okAt_succ (C : CfgR) (l : List BoxR) (i : Nat) (h : i + 1 < l.length) : BoxR.okAt C l (i + 1) = (l[i + 1].may C && decide (l[i].i < l[i + 1].i)) := by
  unfold BoxR.okAt
  rw [getElem!_pos l (i + 1) h, Nat.add_sub_cancel, getElem!_pos l i (by omega)]
  simp
theorem BoxR.listB_no {C : CfgR} {l : List BoxR} {i : Nat} (h : i < l.length) (k : BoxR.okAt C l i = false) : BoxR.listB C l = false := by
  unfold BoxR.listB
  rw [Bool.and_eq_false_iff]
  exact Or.inr (List.all_eq_false.2 ⟨i, List.mem_range.2 h, by rw [k]; simp⟩)

set_option maxHeartbeats 4000000 in
set_option maxRecDepth 100000 in
theorem b_listMay (C : CfgR) (hC : C.fine) (S : SoupV) (w : World) (hS : S.ok w) :
    Calls Tryz.prog 51 #[.agg #[.int .i64 C.cl, .int .i64 C.cb, .int .i64 C.ht, .int .i64 C.ri, .int .i64 C.ru, .int .i64 C.wd, .int .i64 C.dp], .agg #[.slice S.a0 S.ts.length S.c0, .slice S.a1 S.bs.length S.c1, .slice S.a2 S.hs.length S.c2], .agg #[.func (.func 69) #[] #[], .func (.func 70) #[] #[], .int .i64 16, .int .i64 2, .func (.func 71) #[] #[]]] w fun e w' => e = .returned (.bool (BoxR.listB C S.bs)) ∧ New w w' := by
  have hL := Lib.hid (fun b W => b_list b W)
  have hM := Lib.hid (fun x W => b_may C hC x W)
  have hI := Lib.hid (fun x W => b_id x W)
  have hR := hS.b
  obtain ⟨ts, bs, hs, a0, a1, a2, c0, c1, c2⟩ := S
  simp only at hR ⊢
  obtain ⟨-, hc1, hc2, -, HR⟩ := hR.row
  unfold maxLen at hc2
  clear hR hS hC
  have hlen : bs.length ≤ 9223372036854775807 := by omega
  go_enter Tryz.func51, Tryz.ntmps51
  go_wp2_with fail
  generalize hW : World.alloc _ _ = W
  have hn : New w W := by subst hW; (repeat (first | (with_reducible exact New.refl _) | (with_reducible assumption) | ((with_reducible refine New.setB ?_ ?_ _); focus (first | omega | (simp; omega) | (simp; done))) | (with_reducible refine New.alloc ?_ _) | (with_reducible refine New.drew ?_) | (with_reducible refine New.drewN ?_ _) | (with_reducible refine New.hat ?_ _) | ((with_reducible apply New.snart); (with_reducible assumption))))
  have q1 : W.cell? ⟨w.heap.size + 1, 1, none⟩ = some (.slice a1 bs.length c1) := by subst hW; go_simp
  have k0 : W.cell? ⟨w.heap.size + 1 + 1, 0, none⟩ = some (.func (.func 69) #[] #[]) := by subst hW; go_simp
  have k1 : W.cell? ⟨w.heap.size + 1 + 1, 1, none⟩ = some (.func (.func 70) #[] #[]) := by subst hW; go_simp
  have k2 : W.cell? ⟨w.heap.size + 1 + 1, 2, none⟩ = some (.int .i64 16) := by subst hW; go_simp
  have k3 : W.cell? ⟨w.heap.size + 1 + 1, 3, none⟩ = some (.int .i64 2) := by subst hW; go_simp
  have k4 : W.cell? ⟨w.heap.size + 1 + 1, 4, none⟩ = some (.func (.func 71) #[] #[]) := by subst hW; go_simp
  ((have g0 : World.cell? (W) ⟨w.heap.size, 0, none⟩ = some (.int .i64 C.cl) := (by subst hW; go_simp)); (have g1 : World.cell? (W) ⟨w.heap.size, 1, none⟩ = some (.int .i64 C.cb) := (by subst hW; go_simp)); (have g2 : World.cell? (W) ⟨w.heap.size, 2, none⟩ = some (.int .i64 C.ht) := (by subst hW; go_simp)); (have g3 : World.cell? (W) ⟨w.heap.size, 3, none⟩ = some (.int .i64 C.ri) := (by subst hW; go_simp)); (have g4 : World.cell? (W) ⟨w.heap.size, 4, none⟩ = some (.int .i64 C.ru) := (by subst hW; go_simp)); (have g5 : World.cell? (W) ⟨w.heap.size, 5, none⟩ = some (.int .i64 C.wd) := (by subst hW; go_simp)); (have g6 : World.cell? (W) ⟨w.heap.size, 6, none⟩ = some (.int .i64 C.dp) := (by subst hW; go_simp)))
  clear hW
  refine (hL.out _ _).mono ?_
  rintro e w' ⟨rfl, rfl⟩
  clear hL
  by_cases hm : bs.length ≤ 16
  rotate_left
  · have hd : decide ((16 : Int) < (bs.length : Int)) = true := by simp; omega
    go_wp2_with fail
    go_ret
    exact ⟨retBo (by unfold BoxR.listB; simp [hm]), hn⟩
  have hd : decide ((16 : Int) < (bs.length : Int)) = false := by simp; omega
  clear hlen hc1 hc2
  have HR' := Lib.hid (HR.keep hn)
  clear HR
  go_wp2_with fail
  clear hd q1
  go_loopg [22] bs.length (fun k s wr => ∃ i : Nat, s = .int .i64 i ∧ i + k = bs.length ∧ (List.range i).all (BoxR.okAt C bs) = true ∧ New W wr)
  case atStart => exact ⟨0, by simp, by omega, by simp, New.refl _⟩
  case round =>
    obtain ⟨i, rfl, hik, hall, hnW⟩ := hrel
    have HA := Lib.hid hall
    clear hall
    by_cases hlt : i < bs.length
    · cases i with
      | zero =>
        have hsr := List.range_succ (n := 0)
        have HSR := Lib.hid hsr
        clear hsr
        obtain ⟨b, off, rfl, hA⟩ := HR'.out (by omega)
        have hA' := hA.keep hnW
        obtain ⟨c0, c1, c2, c3, c4, c5, c6, c7⟩ := BoxR.cells hA' (0) hlt
        simp only [Nat.zero_mul, Nat.add_zero] at c0 c1 c2 c3 c4 c5 c6 c7
        (replace k0 := New.keep (hnW) k0; replace k1 := New.keep (hnW) k1; replace k2 := New.keep (hnW) k2; replace k3 := New.keep (hnW) k3; replace k4 := New.keep (hnW) k4)
        (replace g0 := New.keep (hnW) g0; replace g1 := New.keep (hnW) g1; replace g2 := New.keep (hnW) g2; replace g3 := New.keep (hnW) g3; replace g4 := New.keep (hnW) g4; replace g5 := New.keep (hnW) g5; replace g6 := New.keep (hnW) g6)
        clear hA hA'
        go_upto_region 7 with fail
        generalize hZ : World.alloc _ _ = Z
        have nZ : New wr Z := by subst hZ; (repeat (first | (with_reducible exact New.refl _) | (with_reducible assumption) | ((with_reducible refine New.setB ?_ ?_ _); focus (first | omega | (simp; omega) | (simp; done))) | (with_reducible refine New.alloc ?_ _) | (with_reducible refine New.drew ?_) | (with_reducible refine New.drewN ?_ _) | (with_reducible refine New.hat ?_ _) | ((with_reducible apply New.snart); (with_reducible assumption))))
        ((have z0 : World.cell? (Z) ⟨wr.heap.size, 0, none⟩ = some (.int .i64 bs[0].i) := (by subst hZ; go_simp)); (have z1 : World.cell? (Z) ⟨wr.heap.size, 1, none⟩ = some (.int .i64 bs[0].x0) := (by subst hZ; go_simp)); (have z2 : World.cell? (Z) ⟨wr.heap.size, 2, none⟩ = some (.int .i64 bs[0].z0) := (by subst hZ; go_simp)); (have z3 : World.cell? (Z) ⟨wr.heap.size, 3, none⟩ = some (.int .i64 bs[0].x1) := (by subst hZ; go_simp)); (have z4 : World.cell? (Z) ⟨wr.heap.size, 4, none⟩ = some (.int .i64 bs[0].z1) := (by subst hZ; go_simp)); (have z5 : World.cell? (Z) ⟨wr.heap.size, 5, none⟩ = some (.int .i64 bs[0].y0) := (by subst hZ; go_simp)); (have z6 : World.cell? (Z) ⟨wr.heap.size, 6, none⟩ = some (.int .i64 bs[0].y1) := (by subst hZ; go_simp)); (have z7 : World.cell? (Z) ⟨wr.heap.size, 7, none⟩ = some (.int .i64 bs[0].ar) := (by subst hZ; go_simp)))
        (replace k0 := New.keep (nZ) k0; replace k1 := New.keep (nZ) k1; replace k2 := New.keep (nZ) k2; replace k3 := New.keep (nZ) k3; replace k4 := New.keep (nZ) k4)
        (replace g0 := New.keep (nZ) g0; replace g1 := New.keep (nZ) g1; replace g2 := New.keep (nZ) g2; replace g3 := New.keep (nZ) g3; replace g4 := New.keep (nZ) g4; replace g5 := New.keep (nZ) g5; replace g6 := New.keep (nZ) g6)
        clear c0 c1 c2 c3 c4 c5 c6 c7
        clear hZ
        have hok := BoxR.okAt_zero C bs hlt
        cases hmay : bs[0].may C
        · have HM' := Lib.hid (fun W => by have q := hM.out bs[0] W; rw [hmay] at q; exact q : ∀ W, Calls Tryz.prog 68 #[.agg #[.int .i64 C.cl, .int .i64 C.cb, .int .i64 C.ht, .int .i64 C.ri, .int .i64 C.ru, .int .i64 C.wd, .int .i64 C.dp], .agg #[.int .i64 bs[0].i, .int .i64 bs[0].x0, .int .i64 bs[0].z0, .int .i64 bs[0].x1, .int .i64 bs[0].z1, .int .i64 bs[0].y0, .int .i64 bs[0].y1, .int .i64 bs[0].ar], .agg #[.func (.func 69) #[] #[], .func (.func 70) #[] #[], .int .i64 16, .int .i64 2, .func (.func 71) #[] #[]]] W fun e w' => e = .returned (.bool false) ∧ New W w')
          have HNO : Hid (BoxR.listB C bs = false) := BoxR.listB_no hlt (by rw [BoxR.okAt_zero C bs hlt, hmay])
          clear hmay hM
          (refine wp_region_hat (by kernel_rfl) (by kernel_rfl) ?_; intro hatc hatf; (repeat (go_big_quiet_step ((first | (go_at_call 68; exact Calls.hat (HM'.out _)) | (go_at_call 70; exact Calls.hat (hI.out _ _)))))); refine wpQuiet_nil ?_; rintro _ ⟨x, rfl⟩)
          go_wp2_with fail
          go_ret
          exact ⟨retBo HNO.out.symm, ((hn.trans hnW).trans nZ).hat x⟩
        · have HM' := Lib.hid (fun W => by have q := hM.out bs[0] W; rw [hmay] at q; exact q : ∀ W, Calls Tryz.prog 68 #[.agg #[.int .i64 C.cl, .int .i64 C.cb, .int .i64 C.ht, .int .i64 C.ri, .int .i64 C.ru, .int .i64 C.wd, .int .i64 C.dp], .agg #[.int .i64 bs[0].i, .int .i64 bs[0].x0, .int .i64 bs[0].z0, .int .i64 bs[0].x1, .int .i64 bs[0].z1, .int .i64 bs[0].y0, .int .i64 bs[0].y1, .int .i64 bs[0].ar], .agg #[.func (.func 69) #[] #[], .func (.func 70) #[] #[], .int .i64 16, .int .i64 2, .func (.func 71) #[] #[]]] W fun e w' => e = .returned (.bool true) ∧ New W w')
          have HOK := Lib.hid (hok.trans hmay)
          clear hok hmay hM
          (refine wp_region_hat (by kernel_rfl) (by kernel_rfl) ?_; intro hatc hatf; (repeat (go_big_quiet_step ((first | (go_at_call 68; exact Calls.hat (HM'.out _)) | (go_at_call 70; exact Calls.hat (hI.out _ _)))))); refine wpQuiet_nil ?_; rintro _ ⟨x, rfl⟩)
          go_wp2_with fail
          go_roundg (gk - 1)
          case measure => omega
          case rel => exact ⟨1, by go_num, by omega, by rw [HSR.out, List.all_append, HA.out]; simp [HOK.out], (hnW.trans nZ).hat x⟩
      | succ i =>
        have hsr := List.range_succ (n := i + 1)
        have HSR := Lib.hid hsr
        clear hsr
        obtain ⟨b, off, rfl, hA⟩ := HR'.out (by omega)
        have hA' := hA.keep hnW
        obtain ⟨c0, c1, c2, c3, c4, c5, c6, c7⟩ := BoxR.cells hA' (i + 1) hlt
        (replace k0 := New.keep (hnW) k0; replace k1 := New.keep (hnW) k1; replace k2 := New.keep (hnW) k2; replace k3 := New.keep (hnW) k3; replace k4 := New.keep (hnW) k4)
        (replace g0 := New.keep (hnW) g0; replace g1 := New.keep (hnW) g1; replace g2 := New.keep (hnW) g2; replace g3 := New.keep (hnW) g3; replace g4 := New.keep (hnW) g4; replace g5 := New.keep (hnW) g5; replace g6 := New.keep (hnW) g6)
        obtain ⟨d0, d1, d2, d3, d4, d5, d6, d7⟩ := BoxR.cells hA' i (by omega)
        clear hA hA'
        go_upto_region 7 with fail
        generalize hZ : World.alloc _ _ = Z
        have nZ : New wr Z := by subst hZ; (repeat (first | (with_reducible exact New.refl _) | (with_reducible assumption) | ((with_reducible refine New.setB ?_ ?_ _); focus (first | omega | (simp; omega) | (simp; done))) | (with_reducible refine New.alloc ?_ _) | (with_reducible refine New.drew ?_) | (with_reducible refine New.drewN ?_ _) | (with_reducible refine New.hat ?_ _) | ((with_reducible apply New.snart); (with_reducible assumption))))
        ((have z0 : World.cell? (Z) ⟨wr.heap.size, 0, none⟩ = some (.int .i64 bs[i + 1].i) := (by subst hZ; go_simp)); (have z1 : World.cell? (Z) ⟨wr.heap.size, 1, none⟩ = some (.int .i64 bs[i + 1].x0) := (by subst hZ; go_simp)); (have z2 : World.cell? (Z) ⟨wr.heap.size, 2, none⟩ = some (.int .i64 bs[i + 1].z0) := (by subst hZ; go_simp)); (have z3 : World.cell? (Z) ⟨wr.heap.size, 3, none⟩ = some (.int .i64 bs[i + 1].x1) := (by subst hZ; go_simp)); (have z4 : World.cell? (Z) ⟨wr.heap.size, 4, none⟩ = some (.int .i64 bs[i + 1].z1) := (by subst hZ; go_simp)); (have z5 : World.cell? (Z) ⟨wr.heap.size, 5, none⟩ = some (.int .i64 bs[i + 1].y0) := (by subst hZ; go_simp)); (have z6 : World.cell? (Z) ⟨wr.heap.size, 6, none⟩ = some (.int .i64 bs[i + 1].y1) := (by subst hZ; go_simp)); (have z7 : World.cell? (Z) ⟨wr.heap.size, 7, none⟩ = some (.int .i64 bs[i + 1].ar) := (by subst hZ; go_simp)))
        (replace k0 := New.keep (nZ) k0; replace k1 := New.keep (nZ) k1; replace k2 := New.keep (nZ) k2; replace k3 := New.keep (nZ) k3; replace k4 := New.keep (nZ) k4)
        (replace g0 := New.keep (nZ) g0; replace g1 := New.keep (nZ) g1; replace g2 := New.keep (nZ) g2; replace g3 := New.keep (nZ) g3; replace g4 := New.keep (nZ) g4; replace g5 := New.keep (nZ) g5; replace g6 := New.keep (nZ) g6)
        clear c0 c1 c2 c3 c4 c5 c6 c7
        (replace d0 := New.keep (nZ) d0; replace d1 := New.keep (nZ) d1; replace d2 := New.keep (nZ) d2; replace d3 := New.keep (nZ) d3; replace d4 := New.keep (nZ) d4; replace d5 := New.keep (nZ) d5; replace d6 := New.keep (nZ) d6; replace d7 := New.keep (nZ) d7)
        clear hZ
        have hok := BoxR.okAt_succ C bs i hlt
        cases hmay : bs[i + 1].may C
        · have HM' := Lib.hid (fun W => by have q := hM.out bs[i + 1] W; rw [hmay] at q; exact q : ∀ W, Calls Tryz.prog 68 #[.agg #[.int .i64 C.cl, .int .i64 C.cb, .int .i64 C.ht, .int .i64 C.ri, .int .i64 C.ru, .int .i64 C.wd, .int .i64 C.dp], .agg #[.int .i64 bs[i + 1].i, .int .i64 bs[i + 1].x0, .int .i64 bs[i + 1].z0, .int .i64 bs[i + 1].x1, .int .i64 bs[i + 1].z1, .int .i64 bs[i + 1].y0, .int .i64 bs[i + 1].y1, .int .i64 bs[i + 1].ar], .agg #[.func (.func 69) #[] #[], .func (.func 70) #[] #[], .int .i64 16, .int .i64 2, .func (.func 71) #[] #[]]] W fun e w' => e = .returned (.bool false) ∧ New W w')
          have HNO : Hid (BoxR.listB C bs = false) := BoxR.listB_no hlt (by rw [BoxR.okAt_succ C bs i hlt, hmay]; rfl)
          clear hmay hM
          (refine wp_region_hat (by kernel_rfl) (by kernel_rfl) ?_; intro hatc hatf; (repeat (go_big_quiet_step ((first | (go_at_call 68; exact Calls.hat (HM'.out _)) | (go_at_call 70; exact Calls.hat (hI.out _ _)))))); refine wpQuiet_nil ?_; rintro _ ⟨x, rfl⟩)
          go_wp2_with fail
          go_ret
          exact ⟨retBo HNO.out.symm, ((hn.trans hnW).trans nZ).hat x⟩
        · have HM' := Lib.hid (fun W => by have q := hM.out bs[i + 1] W; rw [hmay] at q; exact q : ∀ W, Calls Tryz.prog 68 #[.agg #[.int .i64 C.cl, .int .i64 C.cb, .int .i64 C.ht, .int .i64 C.ri, .int .i64 C.ru, .int .i64 C.wd, .int .i64 C.dp], .agg #[.int .i64 bs[i + 1].i, .int .i64 bs[i + 1].x0, .int .i64 bs[i + 1].z0, .int .i64 bs[i + 1].x1, .int .i64 bs[i + 1].z1, .int .i64 bs[i + 1].y0, .int .i64 bs[i + 1].y1, .int .i64 bs[i + 1].ar], .agg #[.func (.func 69) #[] #[], .func (.func 70) #[] #[], .int .i64 16, .int .i64 2, .func (.func 71) #[] #[]]] W fun e w' => e = .returned (.bool true) ∧ New W w')
          rw [hmay, Bool.true_and] at hok
          clear hmay hM
          cases hle : decide (bs[i + 1].i ≤ bs[i].i)
          · have HOK : Hid (BoxR.okAt C bs (i + 1) = true) := by
              show _ = true
              rw [hok]
              simp at hle ⊢
              first | done | omega
            clear hok
            (refine wp_region_hat (by kernel_rfl) (by kernel_rfl) ?_; intro hatc hatf; (repeat (go_big_quiet_step ((first | (go_at_call 68; exact Calls.hat (HM'.out _)) | (go_at_call 70; exact Calls.hat (hI.out _ _)))))); refine wpQuiet_nil ?_; rintro _ ⟨x, rfl⟩)
            go_wp2_with fail
            go_roundg (gk - 1)
            case measure => omega
            case rel => exact ⟨i + 1 + 1, by go_num, by omega, by rw [HSR.out, List.all_append, HA.out]; simp [HOK.out], (hnW.trans nZ).hat x⟩
          · have HNO : Hid (BoxR.listB C bs = false) := BoxR.listB_no hlt (by rw [hok]; simp at hle ⊢; first | done | omega)
            clear hok
            (refine wp_region_hat (by kernel_rfl) (by kernel_rfl) ?_; intro hatc hatf; (repeat (go_big_quiet_step ((first | (go_at_call 68; exact Calls.hat (HM'.out _)) | (go_at_call 70; exact Calls.hat (hI.out _ _)))))); refine wpQuiet_nil ?_; rintro _ ⟨x, rfl⟩)
            go_wp2_with fail
            go_ret
            exact ⟨retBo HNO.out.symm, ((hn.trans hnW).trans nZ).hat x⟩
    · go_wp2_with fail
      go_ret
      refine ⟨retBo ?_, hn.trans hnW⟩
      have := HA.out
      rw [show i = bs.length by omega] at this
      unfold BoxR.listB
      rw [this]
      simp [hm]

end Go.Proofs.YtdbhlepbaepngaaGreatDoor
