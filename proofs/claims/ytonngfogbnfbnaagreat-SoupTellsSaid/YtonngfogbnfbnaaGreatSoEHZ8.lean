import Derived.Test.YtonngfogbnfbnaaGreatSoDZ8

/- Package soup: whether one of a kind may be. -/
namespace Go.Proofs.YtonngfogbnfbnaaGreat
open Go.RowKit
set_option linter.unusedVariables false

set_option maxHeartbeats 400000 in
theorem h_id (x : HopR) (w : World) : Calls Tryz.prog 65 #[.agg #[.int .i64 x.i, .int .i64 x.fx, .int .i64 x.fz, .int .i64 x.fy, .int .i64 x.tx, .int .i64 x.tz, .int .i64 x.ty, .bool x.bo, .int .i64 x.ar, .int .i64 x.co]] w fun e w' => e = .returned (.int .i64 x.i) ∧ New w w' := by
  go_enter Tryz.func65, Tryz.ntmps65
  go_wp2_with fail
  go_ret
  exact ⟨rfl, by (repeat (first | (with_reducible exact New.refl _) | (with_reducible assumption) | ((with_reducible refine New.setB ?_ ?_ _); focus (first | omega | (simp; omega) | (simp; done))) | (with_reducible refine New.alloc ?_ _) | (with_reducible refine New.drew ?_) | (with_reducible refine New.drewN ?_ _) | (with_reducible refine New.hat ?_ _) | ((with_reducible apply New.snart); (with_reducible assumption))))⟩

set_option maxHeartbeats 400000 in
theorem h_list (b : Nat) (w : World) : Calls Tryz.prog 64 #[.pointer (some ⟨b, 0, none⟩)] w fun e w' => e = .returned (.pointer (some ⟨b, 2, none⟩)) ∧ w = w' := by
  go_enter Tryz.func64, Tryz.ntmps64
  go_wp2_with fail
  go_ret
  exact ⟨rfl, rfl⟩

def HopR.may (C : CfgR) (x : HopR) : Bool := ordB [1, x.i, 1073741824] && x.tests C

set_option maxHeartbeats 2000000 in
set_option maxRecDepth 100000 in
theorem h_may (C : CfgR) (hC : C.fine) (x : HopR) (w : World) :
    Calls Tryz.prog 81 #[.agg #[.int .i64 C.cl, .int .i64 C.cb, .int .i64 C.ht, .int .i64 C.ri, .int .i64 C.ru, .int .i64 C.wd, .int .i64 C.dp], .agg #[.int .i64 x.i, .int .i64 x.fx, .int .i64 x.fz, .int .i64 x.fy, .int .i64 x.tx, .int .i64 x.tz, .int .i64 x.ty, .bool x.bo, .int .i64 x.ar, .int .i64 x.co], .agg #[.func (.func 64) #[] #[], .func (.func 65) #[] #[], .int .i64 16, .int .i64 2, .func (.func 66) #[] #[]]] w fun e w' => e = .returned (.bool (x.may C)) ∧ New w w' := by
  have hid := fun W => h_id x W
  have HCH := Lib.hid (fun W => HopR.checks C hC x W)
  obtain ⟨v, hv⟩ : ∃ v, v = x.may C := ⟨_, rfl⟩
  rw [← hv]
  unfold HopR.may at hv
  generalize HopR.tests C x = tv at *
  cases h1 : ordB [1, x.i, 1073741824]
  · have HV : Hid (v = false) := by show v = false; rw [hv, h1]; rfl
    clear hv HCH
    have k1 := Lib.hid (fun b W (H : IntsAt W b [1, x.i, 1073741824]) => by have q := l_inOrder b 3 [1, x.i, 1073741824] (by simp) (by simp) W H; rw [h1] at q; exact q : ∀ b W, IntsAt W b [1, x.i, 1073741824] → Calls Tryz.prog 59 #[.slice (some ⟨b, 0, none⟩) 3 3] W fun e w' => e = .returned (.bool false) ∧ New W w')
    clear h1 hC
    go_enter Tryz.func81, Tryz.ntmps81
    go_wp2_with fail
    generalize hW : World.alloc _ _ = W
    have hn : New w W := by subst hW; (repeat (first | (with_reducible exact New.refl _) | (with_reducible assumption) | ((with_reducible refine New.setB ?_ ?_ _); focus (first | omega | (simp; omega) | (simp; done))) | (with_reducible refine New.alloc ?_ _) | (with_reducible refine New.drew ?_) | (with_reducible refine New.drewN ?_ _) | (with_reducible refine New.hat ?_ _) | ((with_reducible apply New.snart); (with_reducible assumption))))
    clear hW
    refine (hid _).mono ?_
    rintro e W1 ⟨rfl, n1⟩
    replace hn := hn.trans n1
    clear n1 hid
    go_wp2_with fail
    refine (k1.out _ _ (ints_at _ [1, x.i, 1073741824] _ _ rfl)).mono ?_
    rintro e W2 ⟨rfl, n1⟩
    replace hn : New w W2 := New.trans (hn.alloc _) n1
    clear n1 k1
    go_wp2_with fail
    go_ret
    exact ⟨retBo HV.out.symm, hn⟩
  · rw [h1, Bool.true_and] at hv
    subst hv
    have k1 := Lib.hid (fun b W (H : IntsAt W b [1, x.i, 1073741824]) => by have q := l_inOrder b 3 [1, x.i, 1073741824] (by simp) (by simp) W H; rw [h1] at q; exact q : ∀ b W, IntsAt W b [1, x.i, 1073741824] → Calls Tryz.prog 59 #[.slice (some ⟨b, 0, none⟩) 3 3] W fun e w' => e = .returned (.bool true) ∧ New W w')
    clear h1 hC
    go_enter Tryz.func81, Tryz.ntmps81
    go_wp2_with fail
    generalize hW : World.alloc _ _ = W
    have hn : New w W := by subst hW; (repeat (first | (with_reducible exact New.refl _) | (with_reducible assumption) | ((with_reducible refine New.setB ?_ ?_ _); focus (first | omega | (simp; omega) | (simp; done))) | (with_reducible refine New.alloc ?_ _) | (with_reducible refine New.drew ?_) | (with_reducible refine New.drewN ?_ _) | (with_reducible refine New.hat ?_ _) | ((with_reducible apply New.snart); (with_reducible assumption))))
    have kc : W.cell? ⟨w.heap.size + 1 + 1, 4, none⟩ = some (.func (.func 66) #[] #[]) := by subst hW; go_simp
    ((have g0 : World.cell? (W) ⟨w.heap.size, 0, none⟩ = some (.int .i64 C.cl) := (by subst hW; go_simp)); (have g1 : World.cell? (W) ⟨w.heap.size, 1, none⟩ = some (.int .i64 C.cb) := (by subst hW; go_simp)); (have g2 : World.cell? (W) ⟨w.heap.size, 2, none⟩ = some (.int .i64 C.ht) := (by subst hW; go_simp)); (have g3 : World.cell? (W) ⟨w.heap.size, 3, none⟩ = some (.int .i64 C.ri) := (by subst hW; go_simp)); (have g4 : World.cell? (W) ⟨w.heap.size, 4, none⟩ = some (.int .i64 C.ru) := (by subst hW; go_simp)); (have g5 : World.cell? (W) ⟨w.heap.size, 5, none⟩ = some (.int .i64 C.wd) := (by subst hW; go_simp)); (have g6 : World.cell? (W) ⟨w.heap.size, 6, none⟩ = some (.int .i64 C.dp) := (by subst hW; go_simp)))
    ((have c0 : World.cell? (W) ⟨w.heap.size + 1, 0, none⟩ = some (.int .i64 x.i) := (by subst hW; go_simp)); (have c1 : World.cell? (W) ⟨w.heap.size + 1, 1, none⟩ = some (.int .i64 x.fx) := (by subst hW; go_simp)); (have c2 : World.cell? (W) ⟨w.heap.size + 1, 2, none⟩ = some (.int .i64 x.fz) := (by subst hW; go_simp)); (have c3 : World.cell? (W) ⟨w.heap.size + 1, 3, none⟩ = some (.int .i64 x.fy) := (by subst hW; go_simp)); (have c4 : World.cell? (W) ⟨w.heap.size + 1, 4, none⟩ = some (.int .i64 x.tx) := (by subst hW; go_simp)); (have c5 : World.cell? (W) ⟨w.heap.size + 1, 5, none⟩ = some (.int .i64 x.tz) := (by subst hW; go_simp)); (have c6 : World.cell? (W) ⟨w.heap.size + 1, 6, none⟩ = some (.int .i64 x.ty) := (by subst hW; go_simp)); (have c7 : World.cell? (W) ⟨w.heap.size + 1, 7, none⟩ = some (.bool x.bo) := (by subst hW; go_simp)); (have c8 : World.cell? (W) ⟨w.heap.size + 1, 8, none⟩ = some (.int .i64 x.ar) := (by subst hW; go_simp)); (have c9 : World.cell? (W) ⟨w.heap.size + 1, 9, none⟩ = some (.int .i64 x.co) := (by subst hW; go_simp)))
    clear hW
    refine (hid _).mono ?_
    rintro e W1 ⟨rfl, n1⟩
    replace hn := hn.trans n1
    replace kc := New.keep n1 kc
    (replace g0 := New.keep (n1) g0; replace g1 := New.keep (n1) g1; replace g2 := New.keep (n1) g2; replace g3 := New.keep (n1) g3; replace g4 := New.keep (n1) g4; replace g5 := New.keep (n1) g5; replace g6 := New.keep (n1) g6)
    (replace c0 := New.keep (n1) c0; replace c1 := New.keep (n1) c1; replace c2 := New.keep (n1) c2; replace c3 := New.keep (n1) c3; replace c4 := New.keep (n1) c4; replace c5 := New.keep (n1) c5; replace c6 := New.keep (n1) c6; replace c7 := New.keep (n1) c7; replace c8 := New.keep (n1) c8; replace c9 := New.keep (n1) c9)
    clear n1 hid
    go_wp2_with fail
    refine (k1.out _ _ (ints_at _ [1, x.i, 1073741824] _ _ rfl)).mono ?_
    rintro e W2 ⟨rfl, n1⟩
    replace n1 := New.trans ((New.refl _).alloc _) n1
    replace hn : New w W2 := New.trans hn n1
    replace kc := New.keep n1 kc
    (replace g0 := New.keep (n1) g0; replace g1 := New.keep (n1) g1; replace g2 := New.keep (n1) g2; replace g3 := New.keep (n1) g3; replace g4 := New.keep (n1) g4; replace g5 := New.keep (n1) g5; replace g6 := New.keep (n1) g6)
    (replace c0 := New.keep (n1) c0; replace c1 := New.keep (n1) c1; replace c2 := New.keep (n1) c2; replace c3 := New.keep (n1) c3; replace c4 := New.keep (n1) c4; replace c5 := New.keep (n1) c5; replace c6 := New.keep (n1) c6; replace c7 := New.keep (n1) c7; replace c8 := New.keep (n1) c8; replace c9 := New.keep (n1) c9)
    clear n1 k1
    go_wp2_with fail
    refine (HCH.out _).mono ?_
    rintro e W3 ⟨B, fl, rfl, hl, hall, hg, hat, n1⟩
    have HA := Lib.hid (l_all W3 B fl.length fl hl hg W3 (New.refl _) hat)
    rw [hall] at HA
    replace hn := New.trans hn n1
    clear n1 hall hg hat HCH kc hl
    clear c0 c1 c2 c3 c4 c5 c6 c7 c8 c9
    clear g0 g1 g2 g3 g4 g5 g6
    go_wp2_with fail
    refine HA.out.mono ?_
    rintro e W4 ⟨rfl, n1⟩
    replace hn := New.trans hn n1
    go_wp2_with fail
    go_ret
    exact ⟨rfl, hn⟩

end Go.Proofs.YtonngfogbnfbnaaGreat
