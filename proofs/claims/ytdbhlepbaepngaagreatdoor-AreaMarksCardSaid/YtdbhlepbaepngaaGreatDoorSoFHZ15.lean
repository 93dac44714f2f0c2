import Derived.Test.YtdbhlepbaepngaaGreatDoorSoDZ15

/- Package soup: whether one of a kind may be. -/
namespace Go.Proofs.YtdbhlepbaepngaaGreatDoor
open Go.RowKit
set_option linter.unusedVariables false

set_option maxHeartbeats 400000 in
theorem h_id (x : HopR) (w : World) : Calls Tryz.prog 79 #[.agg #[.int .i64 x.i, .int .i64 x.fx, .int .i64 x.fz, .int .i64 x.fy, .int .i64 x.tx, .int .i64 x.tz, .int .i64 x.ty, .bool x.bo, .int .i64 x.ar, .int .i64 x.co]] w fun e w' => e = .returned (.int .i64 x.i) ∧ New w w' := by
  go_enter Tryz.func79, Tryz.ntmps79
  go_wp2_with fail
  go_ret
  exact ⟨rfl, by (repeat (first | (with_reducible exact New.refl _) | (with_reducible assumption) | ((with_reducible refine New.setB ?_ ?_ _); focus (first | omega | (simp; omega) | (simp; done))) | (with_reducible refine New.alloc ?_ _) | (with_reducible refine New.drew ?_) | (with_reducible refine New.drewN ?_ _) | (with_reducible refine New.hat ?_ _) | ((with_reducible apply New.snart); (with_reducible assumption))))⟩

set_option maxHeartbeats 400000 in
theorem h_list (b : Nat) (w : World) : Calls Tryz.prog 78 #[.pointer (some ⟨b, 0, none⟩)] w fun e w' => e = .returned (.pointer (some ⟨b, 2, none⟩)) ∧ w = w' := by
  go_enter Tryz.func78, Tryz.ntmps78
  go_wp2_with fail
  go_ret
  exact ⟨rfl, rfl⟩

def HopR.may (C : CfgR) (x : HopR) : Bool := ordB [1, x.i, 1073741824] && x.tests C

set_option maxHeartbeats 2000000 in
set_option maxRecDepth 100000 in
theorem h_may (C : CfgR) (hC : C.fine) (x : HopR) (w : World) :
    Calls Tryz.prog 77 #[.agg #[.int .i64 C.cl, .int .i64 C.cb, .int .i64 C.ht, .int .i64 C.ri, .int .i64 C.ru, .int .i64 C.wd, .int .i64 C.dp], .agg #[.int .i64 x.i, .int .i64 x.fx, .int .i64 x.fz, .int .i64 x.fy, .int .i64 x.tx, .int .i64 x.tz, .int .i64 x.ty, .bool x.bo, .int .i64 x.ar, .int .i64 x.co], .agg #[.func (.func 78) #[] #[], .func (.func 79) #[] #[], .int .i64 16, .int .i64 2, .func (.func 80) #[] #[]]] w fun e w' => e = .returned (.bool (x.may C)) ∧ New w w' := by
  have hid := fun W => h_id x W
  have HCH := Lib.hid (fun W => HopR.checks C hC x W)
  obtain ⟨v, hv⟩ : ∃ v, v = x.may C := ⟨_, rfl⟩
  rw [← hv]
  unfold HopR.may at hv
  generalize HopR.tests C x = tv at *
  cases h1 : ordB [1, x.i, 1073741824]
  · have HV : Hid (v = false) := by show v = false; rw [hv, h1]; rfl
    clear hv HCH
    have k1 := Lib.hid (fun b W (H : IntsAt W b [1, x.i, 1073741824]) => by have q := l_inOrder b 3 [1, x.i, 1073741824] (by simp) (by simp) W H; rw [h1] at q; exact q : ∀ b W, IntsAt W b [1, x.i, 1073741824] → Calls Tryz.prog 73 #[.slice (some ⟨b, 0, none⟩) 3 3] W fun e w' => e = .returned (.bool false) ∧ New W w')
    clear h1 hC
    go_enter Tryz.func77, Tryz.ntmps77
    go_wp2_with fail
    generalize hW : World.alloc _ _ = W
    have hn : New w W := by subst hW; (repeat (first | (with_reducible exact New.refl _) | (with_reducible assumption) | ((with_reducible refine New.setB ?_ ?_ _); focus (first | omega | (simp; omega) | (simp; done))) | (with_reducible refine New.alloc ?_ _) | (with_reducible refine New.drew ?_) | (with_reducible refine New.drewN ?_ _) | (with_reducible refine New.hat ?_ _) | ((with_reducible apply New.snart); (with_reducible assumption))))
    clear hW
    refine (hid _).mono ?_
    rintro e W1 ⟨rfl, n1⟩
    replace hn := hn.trans n1
    clear n1 hid
    go_wp2_with fail
    refine (k1.out _ _ (ints_at _ [1, x.i, 1073741824] _ _ rfl)).mono ?_
    rintro e W2 ⟨rfl, n1⟩
    replace hn : New w W2 := New.trans (hn.alloc _) n1
    clear n1 k1
    go_wp2_with fail
    go_ret
    exact ⟨retBo HV.out.symm, hn⟩
  · rw [h1, Bool.true_and] at hv
    subst hv
    have k1 := Lib.hid (fun b W (H : IntsAt W b [1, x.i, 1073741824]) => by have q := l_inOrder b 3 [1, x.i, 1073741824] (by simp) (by simp) W H; rw [h1] at q; exact q : ∀ b W, IntsAt W b [1, x.i, 1073741824] → Calls Tryz.prog 73 #[.slice (some ⟨b, 0, none⟩) 3 3] W fun e w' => e = .returned (.bool true) ∧ New W w')
    clear h1 hC
    go_enter Tryz.func77, Tryz.ntmps77
    go_wp2_with fail
    generalize hW : World.alloc _ _ = W
    have hn : New w W := by subst hW; (repeat (first | (with_reducible exact New.refl _) | (with_reducible assumption) | ((with_reducible refine New.setB ?_ ?_ _); focus (first | omega | (simp; omega) | (simp; done))) | (with_reducible refine New.alloc ?_ _) | (with_reducible refine New.drew ?_) | (with_reducible refine New.drewN ?_ _) | (with_reducible refine New.hat ?_ _) | ((with_reducible apply New.snart); (with_reducible assumption))))
    have kc : W.cell? ⟨w.heap.size + 1 + 1, 4, none⟩ = some (.func (.func 80) #[] #[]) := by subst hW; go_simp
    ((have g0 : World.cell? (W) ⟨w.heap.size, 0, none⟩ = some (.int .i64 C.cl) := (by subst hW; go_simp)); (have g1 : World.cell? (W) ⟨w.heap.size, 1, none⟩ = some (.int .i64 C.cb) := (by subst hW; go_simp)); (have g2 : World.cell? (W) ⟨w.heap.size, 2, none⟩ = some (.int .i64 C.ht) := (by subst hW; go_simp)); (have g3 : World.cell? (W) ⟨w.heap.size, 3, none⟩ = some (.int .i64 C.ri) := (by subst hW; go_simp)); (have g4 : World.cell? (W) ⟨w.heap.size, 4, none⟩ = some (.int .i64 C.ru) := (by subst hW; go_simp)); (have g5 : World.cell? (W) ⟨w.heap.size, 5, none⟩ = some (.int .i64 C.wd) := (by subst hW; go_simp)); (have g6 : World.cell? (W) ⟨w.heap.size, 6, none⟩ = some (.int .i64 C.dp) := (by subst hW; go_simp)))
    ((have c0 : World.cell? (W) ⟨w.heap.size + 1, 0, none⟩ = some (.int .i64 x.i) := (by subst hW; go_simp)); (have c1 : World.cell? (W) ⟨w.heap.size + 1, 1, none⟩ = some (.int .i64 x.fx) := (by subst hW; go_simp)); (have c2 : World.cell? (W) ⟨w.heap.size + 1, 2, none⟩ = some (.int .i64 x.fz) := (by subst hW; go_simp)); (have c3 : World.cell? (W) ⟨w.heap.size + 1, 3, none⟩ = some (.int .i64 x.fy) := (by subst hW; go_simp)); (have c4 : World.cell? (W) ⟨w.heap.size + 1, 4, none⟩ = some (.int .i64 x.tx) := (by subst hW; go_simp)); (have c5 : World.cell? (W) ⟨w.heap.size + 1, 5, none⟩ = some (.int .i64 x.tz) := (by subst hW; go_simp)); (have c6 : World.cell? (W) ⟨w.heap.size + 1, 6, none⟩ = some (.int .i64 x.ty) := (by subst hW; go_simp)); (have c7 : World.cell? (W) ⟨w.heap.size + 1, 7, none⟩ = some (.bool x.bo) := (by subst hW; go_simp)); (have c8 : World.cell? (W) ⟨w.heap.size + 1, 8, none⟩ = some (.int .i64 x.ar) := (by subst hW; go_simp)); (have c9 : World.cell? (W) ⟨w.heap.size + 1, 9, none⟩ = some (.int .i64 x.co) := (by subst hW; go_simp)))
    clear hW
    refine (hid _).mono ?_
    rintro e W1 ⟨rfl, n1⟩
    replace hn := hn.trans n1
    replace kc := New.keep n1 kc
    (replace g0 := New.keep (n1) g0; replace g1 := New.keep (n1) g1; replace g2 := New.keep (n1) g2; replace g3 := New.keep (n1) g3; replace g4 := New.keep (n1) g4; replace g5 := New.keep (n1) g5; replace g6 := New.keep (n1) g6)
    (replace c0 := New.keep (n1) c0; replace c1 := New.keep (n1) c1; replace c2 := New.keep (n1) c2; replace c3 := New.keep (n1) c3; replace c4 := New.keep (n1) c4; replace c5 := New.keep (n1) c5; replace c6 := New.keep (n1) c6; replace c7 := New.keep (n1) c7; replace c8 := New.keep (n1) c8; replace c9 := New.keep (n1) c9)
    clear n1 hid
    go_wp2_with fail
    refine (k1.out _ _ (ints_at _ [1, x.i, 1073741824] _ _ rfl)).mono ?_
    rintro e W2 ⟨rfl, n1⟩
    replace n1 := New.trans ((New.refl _).alloc _) n1
    replace hn : New w W2 := New.trans hn n1
    replace kc := New.keep n1 kc
    (replace g0 := New.keep (n1) g0; replace g1 := New.keep (n1) g1; replace g2 := New.keep (n1) g2; replace g3 := New.keep (n1) g3; replace g4 := New.keep (n1) g4; replace g5 := New.keep (n1) g5; replace g6 := New.keep (n1) g6)
    (replace c0 := New.keep (n1) c0; replace c1 := New.keep (n1) c1; replace c2 := New.keep (n1) c2; replace c3 := New.keep (n1) c3; replace c4 := New.keep (n1) c4; replace c5 := New.keep (n1) c5; replace c6 := New.keep (n1) c6; replace c7 := New.keep (n1) c7; replace c8 := New.keep (n1) c8; replace c9 := New.keep (n1) c9)
    clear n1 k1
    go_wp2_with fail
    refine (HCH.out _).mono ?_
    rintro e W3 ⟨B, fl, rfl, hl, hall, hg, hat, n1⟩
    have HA := Lib.hid (l_all W3 B fl.length fl hl hg W3 (New.refl _) hat)
    rw [hall] at HA
    replace hn := New.trans hn n1
    clear n1 hall hg hat HCH kc hl
    clear c0 c1 c2 c3 c4 c5 c6 c7 c8 c9
    clear g0 g1 g2 g3 g4 g5 g6
    go_wp2_with fail
    refine HA.out.mono ?_
    rintro e W4 ⟨rfl, n1⟩
    replace hn := New.trans hn n1
    go_wp2_with fail
    go_ret
    exact ⟨rfl, hn⟩

end Go.Proofs.YtdbhlepbaepngaaGreatDoor

/- Package soup: whether a list of a kind may be. -/
namespace Go.Proofs.YtdbhlepbaepngaaGreatDoor
open Go.RowKit
set_option linter.unusedVariables false

def HopR.okAt (C : CfgR) (l : List HopR) (i : Nat) : Bool := (l[i]!).may C && (i == 0 || decide ((l[i - 1]!).i < (l[i]!).i))
def HopR.listB (C : CfgR) (l : List HopR) : Bool := decide (l.length ≤ 16) && (List.range l.length).all (HopR.okAt C l)
theorem HopR.okAt_zero (C : CfgR) (l : List HopR) (h : 0 < l.length) : HopR.okAt C l 0 = l[0].may C := by
  unfold HopR.okAt
  rw [getElem!_pos l 0 h]
  simp
theorem HopR.okAt_succ (C : CfgR) (l : List HopR) (i : Nat) (h : i + 1 < l.length) : HopR.okAt C l (i + 1) = (l[i + 1].may C && decide (l[i].i < l[i + 1].i)) := by
  unfold HopR.okAt
  rw [getElem!_pos l (i + 1) h, Nat.add_sub_cancel, getElem!_pos l i (by omega)]
  simp
theorem HopR.listB_no {C : CfgR} {l : List HopR} {i : Nat} (h : i < l.length) (k : HopR.okAt C l i = false) : HopR.listB C l = false := by
  unfold HopR.listB
  rw [Bool.and_eq_false_iff]
  exact Or.inr (List.all_eq_false.2 ⟨i, List.mem_range.2 h, by rw [k]; simp⟩)

set_option maxHeartbeats 4000000 in
set_option maxRecDepth 100000 in
theorem h_listMay (C : CfgR) (hC : C.fine) (S : SoupV) (w : World) (hS : S.ok w) :
    Calls Tryz.prog 54 #[.agg #[.int .i64 C.cl, .int .i64 C.cb, .int .i64 C.ht, .int .i64 C.ri, .int .i64 C.ru, .int .i64 C.wd, .int .i64 C.dp], .agg #[.slice S.a0 S.ts.length S.c0, .slice S.a1 S.bs.length S.c1, .slice S.a2 S.hs.length S.c2], .agg #[.func (.func 78) #[] #[], .func (.func 79) #[] #[], .int .i64 16, .int .i64 2, .func (.func 80) #[] #[]]] w fun e w' => e = .returned (.bool (HopR.listB C S.hs)) ∧ New w w' := by
  have hL := Lib.hid (fun b W => h_list b W)
  have hM := Lib.hid (fun x W => h_may C hC x W)
  have hI := Lib.hid (fun x W => h_id x W)
  have hR := hS.h
  obtain ⟨ts, bs, hs, a0, a1, a2, c0, c1, c2⟩ := S
  simp only at hR ⊢
  obtain ⟨-, hc1, hc2, -, HR⟩ := hR.row
  unfold maxLen at hc2
  clear hR hS hC
  have hlen : hs.length ≤ 9223372036854775807 := by omega
  go_enter Tryz.func54, Tryz.ntmps54
  go_wp2_with fail
  generalize hW : World.alloc _ _ = W
  have hn : New w W := by subst hW; (repeat (first | (with_reducible exact New.refl _) | (with_reducible assumption) | ((with_reducible refine New.setB ?_ ?_ _); focus (first | omega | (simp; omega) | (simp; done))) | (with_reducible refine New.alloc ?_ _) | (with_reducible refine New.drew ?_) | (with_reducible refine New.drewN ?_ _) | (with_reducible refine New.hat ?_ _) | ((with_reducible apply New.snart); (with_reducible assumption))))
  have q2 : W.cell? ⟨w.heap.size + 1, 2, none⟩ = some (.slice a2 hs.length c2) := by subst hW; go_simp
  have k0 : W.cell? ⟨w.heap.size + 1 + 1, 0, none⟩ = some (.func (.func 78) #[] #[]) := by subst hW; go_simp
  have k1 : W.cell? ⟨w.heap.size + 1 + 1, 1, none⟩ = some (.func (.func 79) #[] #[]) := by subst hW; go_simp
  have k2 : W.cell? ⟨w.heap.size + 1 + 1, 2, none⟩ = some (.int .i64 16) := by subst hW; go_simp
  have k3 : W.cell? ⟨w.heap.size + 1 + 1, 3, none⟩ = some (.int .i64 2) := by subst hW; go_simp
  have k4 : W.cell? ⟨w.heap.size + 1 + 1, 4, none⟩ = some (.func (.func 80) #[] #[]) := by subst hW; go_simp
  ((have g0 : World.cell? (W) ⟨w.heap.size, 0, none⟩ = some (.int .i64 C.cl) := (by subst hW; go_simp)); (have g1 : World.cell? (W) ⟨w.heap.size, 1, none⟩ = some (.int .i64 C.cb) := (by subst hW; go_simp)); (have g2 : World.cell? (W) ⟨w.heap.size, 2, none⟩ = some (.int .i64 C.ht) := (by subst hW; go_simp)); (have g3 : World.cell? (W) ⟨w.heap.size, 3, none⟩ = some (.int .i64 C.ri) := (by subst hW; go_simp)); (have g4 : World.cell? (W) ⟨w.heap.size, 4, none⟩ = some (.int .i64 C.ru) := (by subst hW; go_simp)); (have g5 : World.cell? (W) ⟨w.heap.size, 5, none⟩ = some (.int .i64 C.wd) := (by subst hW; go_simp)); (have g6 : World.cell? (W) ⟨w.heap.size, 6, none⟩ = some (.int .i64 C.dp) := (by subst hW; go_simp)))
  clear hW
  refine (hL.out _ _).mono ?_
  rintro e w' ⟨rfl, rfl⟩
  clear hL
  by_cases hm : hs.length ≤ 16
  rotate_left
  · have hd : decide ((16 : Int) < (hs.length : Int)) = true := by simp; omega
    go_wp2_with fail
    go_ret
    exact ⟨retBo (by unfold HopR.listB; simp [hm]), hn⟩
  have hd : decide ((16 : Int) < (hs.length : Int)) = false := by simp; omega
  clear hlen hc1 hc2
  have HR' := Lib.hid (HR.keep hn)
  clear HR
  go_wp2_with fail
  clear hd q2
  go_loopg [22] hs.length (fun k s wr => ∃ i : Nat, s = .int .i64 i ∧ i + k = hs.length ∧ (List.range i).all (HopR.okAt C hs) = true ∧ New W wr)
  case atStart => exact ⟨0, by simp, by omega, by simp, New.refl _⟩
  case round =>
    obtain ⟨i, rfl, hik, hall, hnW⟩ := hrel
    have HA := Lib.hid hall
    clear hall
    by_cases hlt : i < hs.length
    · cases i with
      | zero =>
        have hsr := List.range_succ (n := 0)
        have HSR := Lib.hid hsr
        clear hsr
        obtain ⟨b, off, rfl, hA⟩ := HR'.out (by omega)
        have hA' := hA.keep hnW
        obtain ⟨c0, c1, c2, c3, c4, c5, c6, c7, c8, c9⟩ := HopR.cells hA' (0) hlt
        simp only [Nat.zero_mul, Nat.add_zero] at c0 c1 c2 c3 c4 c5 c6 c7 c8 c9
        (replace k0 := New.keep (hnW) k0; replace k1 := New.keep (hnW) k1; replace k2 := New.keep (hnW) k2; replace k3 := New.keep (hnW) k3; replace k4 := New.keep (hnW) k4)
        (replace g0 := New.keep (hnW) g0; replace g1 := New.keep (hnW) g1; replace g2 := New.keep (hnW) g2; replace g3 := New.keep (hnW) g3; replace g4 := New.keep (hnW) g4; replace g5 := New.keep (hnW) g5; replace g6 := New.keep (hnW) g6)
        clear hA hA'
        go_upto_region 7 with fail
        generalize hZ : World.alloc _ _ = Z
        have nZ : New wr Z := by subst hZ; (repeat (first | (with_reducible exact New.refl _) | (with_reducible assumption) | ((with_reducible refine New.setB ?_ ?_ _); focus (first | omega | (simp; omega) | (simp; done))) | (with_reducible refine New.alloc ?_ _) | (with_reducible refine New.drew ?_) | (with_reducible refine New.drewN ?_ _) | (with_reducible refine New.hat ?_ _) | ((with_reducible apply New.snart); (with_reducible assumption))))
        ((have z0 : World.cell? (Z) ⟨wr.heap.size, 0, none⟩ = some (.int .i64 hs[0].i) := (by subst hZ; go_simp)); (have z1 : World.cell? (Z) ⟨wr.heap.size, 1, none⟩ = some (.int .i64 hs[0].fx) := (by subst hZ; go_simp)); (have z2 : World.cell? (Z) ⟨wr.heap.size, 2, none⟩ = some (.int .i64 hs[0].fz) := (by subst hZ; go_simp)); (have z3 : World.cell? (Z) ⟨wr.heap.size, 3, none⟩ = some (.int .i64 hs[0].fy) := (by subst hZ; go_simp)); (have z4 : World.cell? (Z) ⟨wr.heap.size, 4, none⟩ = some (.int .i64 hs[0].tx) := (by subst hZ; go_simp)); (have z5 : World.cell? (Z) ⟨wr.heap.size, 5, none⟩ = some (.int .i64 hs[0].tz) := (by subst hZ; go_simp)); (have z6 : World.cell? (Z) ⟨wr.heap.size, 6, none⟩ = some (.int .i64 hs[0].ty) := (by subst hZ; go_simp)); (have z7 : World.cell? (Z) ⟨wr.heap.size, 7, none⟩ = some (.bool hs[0].bo) := (by subst hZ; go_simp)); (have z8 : World.cell? (Z) ⟨wr.heap.size, 8, none⟩ = some (.int .i64 hs[0].ar) := (by subst hZ; go_simp)); (have z9 : World.cell? (Z) ⟨wr.heap.size, 9, none⟩ = some (.int .i64 hs[0].co) := (by subst hZ; go_simp)))
        (replace k0 := New.keep (nZ) k0; replace k1 := New.keep (nZ) k1; replace k2 := New.keep (nZ) k2; replace k3 := New.keep (nZ) k3; replace k4 := New.keep (nZ) k4)
        (replace g0 := New.keep (nZ) g0; replace g1 := New.keep (nZ) g1; replace g2 := New.keep (nZ) g2; replace g3 := New.keep (nZ) g3; replace g4 := New.keep (nZ) g4; replace g5 := New.keep (nZ) g5; replace g6 := New.keep (nZ) g6)
        clear c0 c1 c2 c3 c4 c5 c6 c7 c8 c9
        clear hZ
        have hok := HopR.okAt_zero C hs hlt
        cases hmay : hs[0].may C
        · have HM' := Lib.hid (fun W => by have q := hM.out hs[0] W; rw [hmay] at q; exact q : ∀ W, Calls Tryz.prog 77 #[.agg #[.int .i64 C.cl, .int .i64 C.cb, .int .i64 C.ht, .int .i64 C.ri, .int .i64 C.ru, .int .i64 C.wd, .int .i64 C.dp], .agg #[.int .i64 hs[0].i, .int .i64 hs[0].fx, .int .i64 hs[0].fz, .int .i64 hs[0].fy, .int .i64 hs[0].tx, .int .i64 hs[0].tz, .int .i64 hs[0].ty, .bool hs[0].bo, .int .i64 hs[0].ar, .int .i64 hs[0].co], .agg #[.func (.func 78) #[] #[], .func (.func 79) #[] #[], .int .i64 16, .int .i64 2, .func (.func 80) #[] #[]]] W fun e w' => e = .returned (.bool false) ∧ New W w')
          have HNO : Hid (HopR.listB C hs = false) := HopR.listB_no hlt (by rw [HopR.okAt_zero C hs hlt, hmay])
          clear hmay hM
          (refine wp_region_hat (by kernel_rfl) (by kernel_rfl) ?_; intro hatc hatf; (repeat (go_big_quiet_step ((first | (go_at_call 77; exact Calls.hat (HM'.out _)) | (go_at_call 79; exact Calls.hat (hI.out _ _)))))); refine wpQuiet_nil ?_; rintro _ ⟨x, rfl⟩)
          go_wp2_with fail
          go_ret
          exact ⟨retBo HNO.out.symm, ((hn.trans hnW).trans nZ).hat x⟩
        · have HM' := Lib.hid (fun W => by have q := hM.out hs[0] W; rw [hmay] at q; exact q : ∀ W, Calls Tryz.prog 77 #[.agg #[.int .i64 C.cl, .int .i64 C.cb, .int .i64 C.ht, .int .i64 C.ri, .int .i64 C.ru, .int .i64 C.wd, .int .i64 C.dp], .agg #[.int .i64 hs[0].i, .int .i64 hs[0].fx, .int .i64 hs[0].fz, .int .i64 hs[0].fy, .int .i64 hs[0].tx, .int .i64 hs[0].tz, .int .i64 hs[0].ty, .bool hs[0].bo, .int .i64 hs[0].ar, .int .i64 hs[0].co], .agg #[.func (.func 78) #[] #[], .func (.func 79) #[] #[], .int .i64 16, .int .i64 2, .func (.func 80) #[] #[]]] W fun e w' => e = .returned (.bool true) ∧ New W w')
          have HOK := Lib.hid (hok.trans hmay)
          clear hok hmay hM
          (refine wp_region_hat (by kernel_rfl) (by kernel_rfl) ?_; intro hatc hatf; (repeat (go_big_quiet_step ((first | (go_at_call 77; exact Calls.hat (HM'.out _)) | (go_at_call 79; exact Calls.hat (hI.out _ _)))))); refine wpQuiet_nil ?_; rintro _ ⟨x, rfl⟩)
          go_wp2_with fail
          go_roundg (gk - 1)
          case measure => omega
          case rel => exact ⟨1, by go_num, by omega, by rw [HSR.out, List.all_append, HA.out]; simp [HOK.out], (hnW.trans nZ).hat x⟩
      | succ i =>
        have hsr := List.range_succ (n := i + 1)
        have HSR := Lib.hid hsr
        clear hsr
        obtain ⟨b, off, rfl, hA⟩ := HR'.out (by omega)
        have hA' := hA.keep hnW
        obtain ⟨c0, c1, c2, c3, c4, c5, c6, c7, c8, c9⟩ := HopR.cells hA' (i + 1) hlt
        (replace k0 := New.keep (hnW) k0; replace k1 := New.keep (hnW) k1; replace k2 := New.keep (hnW) k2; replace k3 := New.keep (hnW) k3; replace k4 := New.keep (hnW) k4)
        (replace g0 := New.keep (hnW) g0; replace g1 := New.keep (hnW) g1; replace g2 := New.keep (hnW) g2; replace g3 := New.keep (hnW) g3; replace g4 := New.keep (hnW) g4; replace g5 := New.keep (hnW) g5; replace g6 := New.keep (hnW) g6)
        obtain ⟨d0, d1, d2, d3, d4, d5, d6, d7, d8, d9⟩ := HopR.cells hA' i (by omega)
        clear hA hA'
        go_upto_region 7 with fail
        generalize hZ : World.alloc _ _ = Z
        have nZ : New wr Z := by subst hZ; (repeat (first | (with_reducible exact New.refl _) | (with_reducible assumption) | ((with_reducible refine New.setB ?_ ?_ _); focus (first | omega | (simp; omega) | (simp; done))) | (with_reducible refine New.alloc ?_ _) | (with_reducible refine New.drew ?_) | (with_reducible refine New.drewN ?_ _) | (with_reducible refine New.hat ?_ _) | ((with_reducible apply New.snart); (with_reducible assumption))))
        ((have z0 : World.cell? (Z) ⟨wr.heap.size, 0, none⟩ = some (.int .i64 hs[i + 1].i) := (by subst hZ; go_simp)); (have z1 : World.cell? (Z) ⟨wr.heap.size, 1, none⟩ = some (.int .i64 hs[i + 1].fx) := (by subst hZ; go_simp)); (have z2 : World.cell? (Z) ⟨wr.heap.size, 2, none⟩ = some (.int .i64 hs[i + 1].fz) := (by subst hZ; go_simp)); (have z3 : World.cell? (Z) ⟨wr.heap.size, 3, none⟩ = some (.int .i64 hs[i + 1].fy) := (by subst hZ; go_simp)); (have z4 : World.cell? (Z) ⟨wr.heap.size, 4, none⟩ = some (.int .i64 hs[i + 1].tx) := (by subst hZ; go_simp)); (have z5 : World.cell? (Z) ⟨wr.heap.size, 5, none⟩ = some (.int .i64 hs[i + 1].tz) := (by subst hZ; go_simp)); (have z6 : World.cell? (Z) ⟨wr.heap.size, 6, none⟩ = some (.int .i64 hs[i + 1].ty) := (by subst hZ; go_simp)); (have z7 : World.cell? (Z) ⟨wr.heap.size, 7, none⟩ = some (.bool hs[i + 1].bo) := (by subst hZ; go_simp)); (have z8 : World.cell? (Z) ⟨wr.heap.size, 8, none⟩ = some (.int .i64 hs[i + 1].ar) := (by subst hZ; go_simp)); (have z9 : World.cell? (Z) ⟨wr.heap.size, 9, none⟩ = some (.int .i64 hs[i + 1].co) := (by subst hZ; go_simp)))
        (replace k0 := New.keep (nZ) k0; replace k1 := New.keep (nZ) k1; replace k2 := New.keep (nZ) k2; replace k3 := New.keep (nZ) k3; replace k4 := New.keep (nZ) k4)
        (replace g0 := New.keep (nZ) g0; replace g1 := New.keep (nZ) g1; replace g2 := New.keep (nZ) g2; replace g3 := New.keep (nZ) g3; replace g4 := New.keep (nZ) g4; replace g5 := New.keep (nZ) g5; replace g6 := New.keep (nZ) g6)
        clear c0 c1 c2 c3 c4 c5 c6 c7 c8 c9
        (replace d0 := New.keep (nZ) d0; replace d1 := New.keep (nZ) d1; replace d2 := New.keep (nZ) d2; replace d3 := New.keep (nZ) d3; replace d4 := New.keep (nZ) d4; replace d5 := New.keep (nZ) d5; replace d6 := New.keep (nZ) d6; replace d7 := New.keep (nZ) d7; replace d8 := New.keep (nZ) d8; replace d9 := New.keep (nZ) d9)
        clear hZ
        have hok := HopR.okAt_succ C hs i hlt
        cases hmay : hs[i + 1].may C
        · have HM' := Lib.hid (fun W => by have q := hM.out hs[i + 1] W; rw [hmay] at q; exact q : ∀ W, Calls Tryz.prog 77 #[.agg #[.int .i64 C.cl, .int .i64 C.cb, .int .i64 C.ht, .int .i64 C.ri, .int .i64 C.ru, .int .i64 C.wd, .int .i64 C.dp], .agg #[.int .i64 hs[i + 1].i, .int .i64 hs[i + 1].fx, .int .i64 hs[i + 1].fz, .int .i64 hs[i + 1].fy, .int .i64 hs[i + 1].tx, .int .i64 hs[i + 1].tz, .int .i64 hs[i + 1].ty, .bool hs[i + 1].bo, .int .i64 hs[i + 1].ar, .int .i64 hs[i + 1].co], .agg #[.func (.func 78) #[] #[], .func (.func 79) #[] #[], .int .i64 16, .int .i64 2, .func (.func 80) #[] #[]]] W fun e w' => e = .returned (.bool false) ∧ New W w')
          have HNO : Hid (HopR.listB C hs = false) := HopR.listB_no hlt (by rw [HopR.okAt_succ C hs i hlt, hmay]; rfl)
          clear hmay hM
          (refine wp_region_hat (by kernel_rfl) (by kernel_rfl) ?_; intro hatc hatf; (repeat (go_big_quiet_step ((first | (go_at_call 77; exact Calls.hat (HM'.out _)) | (go_at_call 79; exact Calls.hat (hI.out _ _)))))); refine wpQuiet_nil ?_; rintro _ ⟨x, rfl⟩)
          go_wp2_with fail
          go_ret
          exact ⟨retBo HNO.out.symm, ((hn.trans hnW).trans nZ).hat x⟩
        · have HM' := Lib.hid (fun W => by have q := hM.out hs[i + 1] W; rw [hmay] at q; exact q : ∀ W, Calls Tryz.prog 77 #[.agg #[.int .i64 C.cl, .int .i64 C.cb, .int .i64 C.ht, .int .i64 C.ri, .int .i64 C.ru, .int .i64 C.wd, .int .i64 C.dp], .agg #[.int .i64 hs[i + 1].i, .int .i64 hs[i + 1].fx, .int .i64 hs[i + 1].fz, .int .i64 hs[i + 1].fy, .int .i64 hs[i + 1].tx, .int .i64 hs[i + 1].tz, .int .i64 hs[i + 1].ty, .bool hs[i + 1].bo, .int .i64 hs[i + 1].ar, .int .i64 hs[i + 1].co], .agg #[.func (.func 78) #[] #[], .func (.func 79) #[] #[], .int .i64 16, .int .i64 2, .func (.func 80) #[] #[]]] W fun e w' => e = .returned (.bool true) ∧ New W w')
          rw [hmay, Bool.true_and] at hok
          clear hmay hM
          cases hle : decide (hs[i + 1].i ≤ hs[i].i)
          · have HOK : Hid (HopR.okAt C hs (i + 1) = true) := by
              show _ = true
              rw [hok]
              simp at hle ⊢
              first | done | omega
            clear hok
            (refine wp_region_hat (by kernel_rfl) (by kernel_rfl) ?_; intro hatc hatf; (repeat (go_big_quiet_step ((first | (go_at_call 77; exact Calls.hat (HM'.out _)) | (go_at_call 79; exact Calls.hat (hI.out _ _)))))); refine wpQuiet_nil ?_; rintro _ ⟨x, rfl⟩)
            go_wp2_with fail
            go_roundg (gk - 1)
            case measure => omega
            case rel => exact ⟨i + 1 + 1, by go_num, by omega, by rw [HSR.out, List.all_append, HA.out]; simp [HOK.out], (hnW.trans nZ).hat x⟩
          · have HNO : Hid (HopR.listB C hs = false) := HopR.listB_no hlt (by rw [hok]; simp at hle ⊢; first | done | omega)
            clear hok
            (refine wp_region_hat (by kernel_rfl) (by kernel_rfl) ?_; intro hatc hatf; (repeat (go_big_quiet_step ((first | (go_at_call 77; exact Calls.hat (HM'.out _)) | (go_at_call 79; exact Calls.hat (hI.out _ _)))))); refine wpQuiet_nil ?_; rintro _ ⟨x, rfl⟩)
            go_wp2_with fail
            go_ret
            exact ⟨retBo HNO.out.symm, ((hn.trans hnW).trans nZ).hat x⟩
    · go_wp2_with fail
      go_ret
      refine ⟨retBo ?_, hn.trans hnW⟩
      have := HA.out
      rw [show i = hs.length by omega] at this
      unfold HopR.listB
      rw [this]
      simp [hm]

end Go.Proofs.YtdbhlepbaepngaaGreatDoor
