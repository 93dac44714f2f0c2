import Derived.Test.YtonngfogbnfbnaaGreatSoMTZ8
import Derived.Test.YtonngfogbnfbnaaGreatSoPTZ8
import Derived.Test.YtonngfogbnfbnaaGreatSoGZ8

/- Package soup: one added that is there, or where there is no room. -/
namespace Go.Proofs.YtonngfogbnfbnaaGreat
open Go.RowKit
set_option linter.unusedVariables false

set_option maxHeartbeats 4000000 in
set_option maxRecDepth 100000 in
theorem t_add_twice (C : CfgR) (S : SoupV) (x : TriR) (w : World) (hS : S.ok w) (he : S.err C = 0) (hm : x.may C = true) (hlen : S.ts.length ≤ 1000) (p : Nat) (hp : TriR.Place S.ts x.i p) (hh : TriR.hit S.ts x.i p = true) :
    Calls Tryz.prog 47 #[.agg #[.int .i64 C.cl, .int .i64 C.cb, .int .i64 C.ht, .int .i64 C.ri, .int .i64 C.ru, .int .i64 C.wd, .int .i64 C.dp], .agg #[.slice S.a0 S.ts.length S.c0, .slice S.a1 S.bs.length S.c1, .slice S.a2 S.hs.length S.c2], .agg #[.int .i64 x.i, .int .i64 x.x0, .int .i64 x.y0, .int .i64 x.z0, .int .i64 x.x1, .int .i64 x.y1, .int .i64 x.z1, .int .i64 x.x2, .int .i64 x.y2, .int .i64 x.z2], .agg #[.func (.func 49) #[] #[], .func (.func 50) #[] #[], .int .i64 200, .int .i64 40, .func (.func 51) #[] #[]]] w (SoupE [] [] [] 50 w) := by
  have HK := Lib.hid (fun W (n : New w W) => by have q := s_check C S W (hS.keep n); rw [he] at q; exact q : ∀ W, New w W → Calls Tryz.prog 15 #[.agg #[.int .i64 C.cl, .int .i64 C.cb, .int .i64 C.ht, .int .i64 C.ri, .int .i64 C.ru, .int .i64 C.wd, .int .i64 C.dp], .agg #[.slice S.a0 S.ts.length S.c0, .slice S.a1 S.bs.length S.c1, .slice S.a2 S.hs.length S.c2]] W fun e w' => e = .returned (.int .i64 0) ∧ New W w')
  have hC : C.fine := CfgR.fine_of (by by_cases h : C.err = 0; exact h; unfold SoupV.err at he; rw [if_pos h] at he; cases he)
  have HM := Lib.hid (fun W => by have q := t_may C hC x W; rw [hm] at q; exact q : ∀ W, Calls Tryz.prog 79 #[.agg #[.int .i64 C.cl, .int .i64 C.cb, .int .i64 C.ht, .int .i64 C.ri, .int .i64 C.ru, .int .i64 C.wd, .int .i64 C.dp], .agg #[.int .i64 x.i, .int .i64 x.x0, .int .i64 x.y0, .int .i64 x.z0, .int .i64 x.x1, .int .i64 x.y1, .int .i64 x.z1, .int .i64 x.x2, .int .i64 x.y2, .int .i64 x.z2], .agg #[.func (.func 49) #[] #[], .func (.func 50) #[] #[], .int .i64 200, .int .i64 40, .func (.func 51) #[] #[]]] W fun e w' => e = .returned (.bool true) ∧ New W w')
  have hL := Lib.hid (fun b W => t_list b W)
  have hI := Lib.hid (fun W => t_id x W)
  have HR := Lib.hid (hS.t.row.2.2.2.2)
  have HS := Lib.hid (fun B W (n : New w W) k1 => by have q := t_search S.a0 S.ts S.c0 hlen x.i p hp B W (HR.out.keep n) k1; rw [hh] at q; exact q : ∀ B W, New w W → World.cell? W ⟨B, 1, none⟩ = some (.func (.func 50) #[] #[]) → Calls Tryz.prog 87 #[.slice S.a0 S.ts.length S.c0, .int .i64 x.i, .func (.func 88) #[] #[.pointer (some ⟨B, 0, none⟩)]] W fun e w' => e = .returned (.tuple #[.int .i64 p, .bool true]) ∧ New W w')
  clear he hC hm hS hh hp
  go_enter Tryz.func47, Tryz.ntmps47
  go_wp2_with fail
  generalize hW : World.alloc _ _ = W
  have hn : New w W := by subst hW; (repeat (first | (with_reducible exact New.refl _) | (with_reducible assumption) | ((with_reducible refine New.setB ?_ ?_ _); focus (first | omega | (simp; omega) | (simp; done))) | (with_reducible refine New.alloc ?_ _) | (with_reducible refine New.drew ?_) | (with_reducible refine New.drewN ?_ _) | (with_reducible refine New.hat ?_ _) | ((with_reducible apply New.snart); (with_reducible assumption))))
  ((have g0 : World.cell? (W) ⟨w.heap.size, 0, none⟩ = some (.int .i64 C.cl) := (by subst hW; go_simp)); (have g1 : World.cell? (W) ⟨w.heap.size, 1, none⟩ = some (.int .i64 C.cb) := (by subst hW; go_simp)); (have g2 : World.cell? (W) ⟨w.heap.size, 2, none⟩ = some (.int .i64 C.ht) := (by subst hW; go_simp)); (have g3 : World.cell? (W) ⟨w.heap.size, 3, none⟩ = some (.int .i64 C.ri) := (by subst hW; go_simp)); (have g4 : World.cell? (W) ⟨w.heap.size, 4, none⟩ = some (.int .i64 C.ru) := (by subst hW; go_simp)); (have g5 : World.cell? (W) ⟨w.heap.size, 5, none⟩ = some (.int .i64 C.wd) := (by subst hW; go_simp)); (have g6 : World.cell? (W) ⟨w.heap.size, 6, none⟩ = some (.int .i64 C.dp) := (by subst hW; go_simp)))
  have q0 : W.cell? ⟨w.heap.size + 1, 0, none⟩ = some (.slice S.a0 S.ts.length S.c0) := by subst hW; go_simp
  have q1 : W.cell? ⟨w.heap.size + 1, 1, none⟩ = some (.slice S.a1 S.bs.length S.c1) := by subst hW; go_simp
  have q2 : W.cell? ⟨w.heap.size + 1, 2, none⟩ = some (.slice S.a2 S.hs.length S.c2) := by subst hW; go_simp
  ((have x0 : World.cell? (W) ⟨w.heap.size + 1 + 1, 0, none⟩ = some (.int .i64 x.i) := (by subst hW; go_simp)); (have x1 : World.cell? (W) ⟨w.heap.size + 1 + 1, 1, none⟩ = some (.int .i64 x.x0) := (by subst hW; go_simp)); (have x2 : World.cell? (W) ⟨w.heap.size + 1 + 1, 2, none⟩ = some (.int .i64 x.y0) := (by subst hW; go_simp)); (have x3 : World.cell? (W) ⟨w.heap.size + 1 + 1, 3, none⟩ = some (.int .i64 x.z0) := (by subst hW; go_simp)); (have x4 : World.cell? (W) ⟨w.heap.size + 1 + 1, 4, none⟩ = some (.int .i64 x.x1) := (by subst hW; go_simp)); (have x5 : World.cell? (W) ⟨w.heap.size + 1 + 1, 5, none⟩ = some (.int .i64 x.y1) := (by subst hW; go_simp)); (have x6 : World.cell? (W) ⟨w.heap.size + 1 + 1, 6, none⟩ = some (.int .i64 x.z1) := (by subst hW; go_simp)); (have x7 : World.cell? (W) ⟨w.heap.size + 1 + 1, 7, none⟩ = some (.int .i64 x.x2) := (by subst hW; go_simp)); (have x8 : World.cell? (W) ⟨w.heap.size + 1 + 1, 8, none⟩ = some (.int .i64 x.y2) := (by subst hW; go_simp)); (have x9 : World.cell? (W) ⟨w.heap.size + 1 + 1, 9, none⟩ = some (.int .i64 x.z2) := (by subst hW; go_simp)))
  have k0 : W.cell? ⟨w.heap.size + 1 + 1 + 1, 0, none⟩ = some (.func (.func 49) #[] #[]) := by subst hW; go_simp
  have k1 : W.cell? ⟨w.heap.size + 1 + 1 + 1, 1, none⟩ = some (.func (.func 50) #[] #[]) := by subst hW; go_simp
  have k2 : W.cell? ⟨w.heap.size + 1 + 1 + 1, 2, none⟩ = some (.int .i64 200) := by subst hW; go_simp
  have k3 : W.cell? ⟨w.heap.size + 1 + 1 + 1, 3, none⟩ = some (.int .i64 40) := by subst hW; go_simp
  have k4 : W.cell? ⟨w.heap.size + 1 + 1 + 1, 4, none⟩ = some (.func (.func 51) #[] #[]) := by subst hW; go_simp
  have fz : Thr W (w.heap.size + 1 + 1 + 1 + 1) 3 := by subst hW; exact Thr.new _ _ _ _ (by simp)
  clear hW
  refine (HK.out _ hn).mono ?_
  rintro e W1 ⟨rfl, n1⟩
  replace fz := fz.keep n1
  replace hn := hn.trans n1
  replace q0 := n1.keep q0
  replace q1 := n1.keep q1
  replace q2 := n1.keep q2
  (replace g0 := New.keep (n1) g0; replace g1 := New.keep (n1) g1; replace g2 := New.keep (n1) g2; replace g3 := New.keep (n1) g3; replace g4 := New.keep (n1) g4; replace g5 := New.keep (n1) g5; replace g6 := New.keep (n1) g6)
  (replace x0 := New.keep (n1) x0; replace x1 := New.keep (n1) x1; replace x2 := New.keep (n1) x2; replace x3 := New.keep (n1) x3; replace x4 := New.keep (n1) x4; replace x5 := New.keep (n1) x5; replace x6 := New.keep (n1) x6; replace x7 := New.keep (n1) x7; replace x8 := New.keep (n1) x8; replace x9 := New.keep (n1) x9)
  (replace k0 := New.keep (n1) k0; replace k1 := New.keep (n1) k1; replace k2 := New.keep (n1) k2; replace k3 := New.keep (n1) k3; replace k4 := New.keep (n1) k4)
  clear n1
  go_wp2_with fail
  refine (HM.out _).mono ?_
  rintro e W2 ⟨rfl, n1⟩
  replace fz := fz.keep n1
  replace hn := hn.trans n1
  replace q0 := n1.keep q0
  replace q1 := n1.keep q1
  replace q2 := n1.keep q2
  (replace g0 := New.keep (n1) g0; replace g1 := New.keep (n1) g1; replace g2 := New.keep (n1) g2; replace g3 := New.keep (n1) g3; replace g4 := New.keep (n1) g4; replace g5 := New.keep (n1) g5; replace g6 := New.keep (n1) g6)
  (replace x0 := New.keep (n1) x0; replace x1 := New.keep (n1) x1; replace x2 := New.keep (n1) x2; replace x3 := New.keep (n1) x3; replace x4 := New.keep (n1) x4; replace x5 := New.keep (n1) x5; replace x6 := New.keep (n1) x6; replace x7 := New.keep (n1) x7; replace x8 := New.keep (n1) x8; replace x9 := New.keep (n1) x9)
  (replace k0 := New.keep (n1) k0; replace k1 := New.keep (n1) k1; replace k2 := New.keep (n1) k2; replace k3 := New.keep (n1) k3; replace k4 := New.keep (n1) k4)
  clear n1
  go_wp2_with fail
  refine (hL.out _ _).mono ?_
  rintro e w' ⟨rfl, rfl⟩
  go_wp2_with fail
  refine (hI.out _).mono ?_
  rintro e W3 ⟨rfl, n1⟩
  replace fz := fz.keep n1
  replace hn := hn.trans n1
  replace q0 := n1.keep q0
  replace q1 := n1.keep q1
  replace q2 := n1.keep q2
  (replace g0 := New.keep (n1) g0; replace g1 := New.keep (n1) g1; replace g2 := New.keep (n1) g2; replace g3 := New.keep (n1) g3; replace g4 := New.keep (n1) g4; replace g5 := New.keep (n1) g5; replace g6 := New.keep (n1) g6)
  (replace x0 := New.keep (n1) x0; replace x1 := New.keep (n1) x1; replace x2 := New.keep (n1) x2; replace x3 := New.keep (n1) x3; replace x4 := New.keep (n1) x4; replace x5 := New.keep (n1) x5; replace x6 := New.keep (n1) x6; replace x7 := New.keep (n1) x7; replace x8 := New.keep (n1) x8; replace x9 := New.keep (n1) x9)
  (replace k0 := New.keep (n1) k0; replace k1 := New.keep (n1) k1; replace k2 := New.keep (n1) k2; replace k3 := New.keep (n1) k3; replace k4 := New.keep (n1) k4)
  clear n1
  go_wp2_with fail
  refine (HS.out _ _ hn k1).mono ?_
  rintro e W4 ⟨rfl, n1⟩
  replace fz := fz.keep n1
  replace hn := hn.trans n1
  replace q0 := n1.keep q0
  replace q1 := n1.keep q1
  replace q2 := n1.keep q2
  (replace g0 := New.keep (n1) g0; replace g1 := New.keep (n1) g1; replace g2 := New.keep (n1) g2; replace g3 := New.keep (n1) g3; replace g4 := New.keep (n1) g4; replace g5 := New.keep (n1) g5; replace g6 := New.keep (n1) g6)
  (replace x0 := New.keep (n1) x0; replace x1 := New.keep (n1) x1; replace x2 := New.keep (n1) x2; replace x3 := New.keep (n1) x3; replace x4 := New.keep (n1) x4; replace x5 := New.keep (n1) x5; replace x6 := New.keep (n1) x6; replace x7 := New.keep (n1) x7; replace x8 := New.keep (n1) x8; replace x9 := New.keep (n1) x9)
  (replace k0 := New.keep (n1) k0; replace k1 := New.keep (n1) k1; replace k2 := New.keep (n1) k2; replace k3 := New.keep (n1) k3; replace k4 := New.keep (n1) k4)
  clear n1
  clear HS hI hL HM HK
  go_wp2_with (refine wpList_store_row rfl 28 _ _ rfl _ _ rfl rfl (fz.keep (by (repeat (first | (with_reducible exact New.refl _) | (with_reducible assumption) | ((with_reducible refine New.setB ?_ ?_ _); focus (first | omega | (simp; omega) | (simp; done))) | (with_reducible refine New.alloc ?_ _) | (with_reducible refine New.drew ?_) | (with_reducible refine New.drewN ?_ _) | (with_reducible refine New.hat ?_ _) | ((with_reducible apply New.snart); (with_reducible assumption)))))) (by kernel_rfl) (by intro v hv; simp at hv; rcases hv with rfl | rfl | rfl <;> rfl) (fun Z nZ kZ cZ => ?_))
  have nz := nZ w (by (repeat (first | (with_reducible exact New.refl _) | (with_reducible assumption) | ((with_reducible refine New.setB ?_ ?_ _); focus (first | omega | (simp; omega) | (simp; done))) | (with_reducible refine New.alloc ?_ _) | (with_reducible refine New.drew ?_) | (with_reducible refine New.drewN ?_ _) | (with_reducible refine New.hat ?_ _) | ((with_reducible apply New.snart); (with_reducible assumption))))) (by omega)
  have r0 := cZ 0 (by simp)
  have r1 := cZ 1 (by simp)
  have r2 := cZ 2 (by simp)
  simp only [Nat.zero_add, List.getElem_cons_zero, List.getElem_cons_succ] at r0 r1 r2
  clear nZ kZ cZ
  refine bodyPost_ret (v := .tuple #[.agg #[.slice none 0 0, .slice none 0 0, .slice none 0 0], .int .i64 50]) (by simp [results, Tryz.results47, go_sem, r0, r1, r2]) rfl ?_
  exact ⟨SoupV.none, rfl, SoupV.none_ok _, rfl, rfl, rfl, SoupV.none_own _, nz⟩

set_option maxHeartbeats 4000000 in
set_option maxRecDepth 100000 in
theorem t_add_full (C : CfgR) (S : SoupV) (x : TriR) (w : World) (hS : S.ok w) (he : S.err C = 0) (hm : x.may C = true) (hlen : S.ts.length ≤ 1000) (p : Nat) (hp : TriR.Place S.ts x.i p) (hh : TriR.hit S.ts x.i p = false) (hf : S.ts.length = 200) :
    Calls Tryz.prog 47 #[.agg #[.int .i64 C.cl, .int .i64 C.cb, .int .i64 C.ht, .int .i64 C.ri, .int .i64 C.ru, .int .i64 C.wd, .int .i64 C.dp], .agg #[.slice S.a0 S.ts.length S.c0, .slice S.a1 S.bs.length S.c1, .slice S.a2 S.hs.length S.c2], .agg #[.int .i64 x.i, .int .i64 x.x0, .int .i64 x.y0, .int .i64 x.z0, .int .i64 x.x1, .int .i64 x.y1, .int .i64 x.z1, .int .i64 x.x2, .int .i64 x.y2, .int .i64 x.z2], .agg #[.func (.func 49) #[] #[], .func (.func 50) #[] #[], .int .i64 200, .int .i64 40, .func (.func 51) #[] #[]]] w (SoupE [] [] [] 51 w) := by
  have HK := Lib.hid (fun W (n : New w W) => by have q := s_check C S W (hS.keep n); rw [he] at q; exact q : ∀ W, New w W → Calls Tryz.prog 15 #[.agg #[.int .i64 C.cl, .int .i64 C.cb, .int .i64 C.ht, .int .i64 C.ri, .int .i64 C.ru, .int .i64 C.wd, .int .i64 C.dp], .agg #[.slice S.a0 S.ts.length S.c0, .slice S.a1 S.bs.length S.c1, .slice S.a2 S.hs.length S.c2]] W fun e w' => e = .returned (.int .i64 0) ∧ New W w')
  have hC : C.fine := CfgR.fine_of (by by_cases h : C.err = 0; exact h; unfold SoupV.err at he; rw [if_pos h] at he; cases he)
  have HM := Lib.hid (fun W => by have q := t_may C hC x W; rw [hm] at q; exact q : ∀ W, Calls Tryz.prog 79 #[.agg #[.int .i64 C.cl, .int .i64 C.cb, .int .i64 C.ht, .int .i64 C.ri, .int .i64 C.ru, .int .i64 C.wd, .int .i64 C.dp], .agg #[.int .i64 x.i, .int .i64 x.x0, .int .i64 x.y0, .int .i64 x.z0, .int .i64 x.x1, .int .i64 x.y1, .int .i64 x.z1, .int .i64 x.x2, .int .i64 x.y2, .int .i64 x.z2], .agg #[.func (.func 49) #[] #[], .func (.func 50) #[] #[], .int .i64 200, .int .i64 40, .func (.func 51) #[] #[]]] W fun e w' => e = .returned (.bool true) ∧ New W w')
  have hL := Lib.hid (fun b W => t_list b W)
  have hI := Lib.hid (fun W => t_id x W)
  have HR := Lib.hid (hS.t.row.2.2.2.2)
  have HS := Lib.hid (fun B W (n : New w W) k1 => by have q := t_search S.a0 S.ts S.c0 hlen x.i p hp B W (HR.out.keep n) k1; rw [hh] at q; exact q : ∀ B W, New w W → World.cell? W ⟨B, 1, none⟩ = some (.func (.func 50) #[] #[]) → Calls Tryz.prog 87 #[.slice S.a0 S.ts.length S.c0, .int .i64 x.i, .func (.func 88) #[] #[.pointer (some ⟨B, 0, none⟩)]] W fun e w' => e = .returned (.tuple #[.int .i64 p, .bool false]) ∧ New W w')
  have hfd : ((S.ts.length : Int) == 200) = true := by simp [hf]
  clear hf
  clear he hC hm hS hh hp
  go_enter Tryz.func47, Tryz.ntmps47
  go_wp2_with fail
  generalize hW : World.alloc _ _ = W
  have hn : New w W := by subst hW; (repeat (first | (with_reducible exact New.refl _) | (with_reducible assumption) | ((with_reducible refine New.setB ?_ ?_ _); focus (first | omega | (simp; omega) | (simp; done))) | (with_reducible refine New.alloc ?_ _) | (with_reducible refine New.drew ?_) | (with_reducible refine New.drewN ?_ _) | (with_reducible refine New.hat ?_ _) | ((with_reducible apply New.snart); (with_reducible assumption))))
  ((have g0 : World.cell? (W) ⟨w.heap.size, 0, none⟩ = some (.int .i64 C.cl) := (by subst hW; go_simp)); (have g1 : World.cell? (W) ⟨w.heap.size, 1, none⟩ = some (.int .i64 C.cb) := (by subst hW; go_simp)); (have g2 : World.cell? (W) ⟨w.heap.size, 2, none⟩ = some (.int .i64 C.ht) := (by subst hW; go_simp)); (have g3 : World.cell? (W) ⟨w.heap.size, 3, none⟩ = some (.int .i64 C.ri) := (by subst hW; go_simp)); (have g4 : World.cell? (W) ⟨w.heap.size, 4, none⟩ = some (.int .i64 C.ru) := (by subst hW; go_simp)); (have g5 : World.cell? (W) ⟨w.heap.size, 5, none⟩ = some (.int .i64 C.wd) := (by subst hW; go_simp)); (have g6 : World.cell? (W) ⟨w.heap.size, 6, none⟩ = some (.int .i64 C.dp) := (by subst hW; go_simp)))
  have q0 : W.cell? ⟨w.heap.size + 1, 0, none⟩ = some (.slice S.a0 S.ts.length S.c0) := by subst hW; go_simp
  have q1 : W.cell? ⟨w.heap.size + 1, 1, none⟩ = some (.slice S.a1 S.bs.length S.c1) := by subst hW; go_simp
  have q2 : W.cell? ⟨w.heap.size + 1, 2, none⟩ = some (.slice S.a2 S.hs.length S.c2) := by subst hW; go_simp
  ((have x0 : World.cell? (W) ⟨w.heap.size + 1 + 1, 0, none⟩ = some (.int .i64 x.i) := (by subst hW; go_simp)); (have x1 : World.cell? (W) ⟨w.heap.size + 1 + 1, 1, none⟩ = some (.int .i64 x.x0) := (by subst hW; go_simp)); (have x2 : World.cell? (W) ⟨w.heap.size + 1 + 1, 2, none⟩ = some (.int .i64 x.y0) := (by subst hW; go_simp)); (have x3 : World.cell? (W) ⟨w.heap.size + 1 + 1, 3, none⟩ = some (.int .i64 x.z0) := (by subst hW; go_simp)); (have x4 : World.cell? (W) ⟨w.heap.size + 1 + 1, 4, none⟩ = some (.int .i64 x.x1) := (by subst hW; go_simp)); (have x5 : World.cell? (W) ⟨w.heap.size + 1 + 1, 5, none⟩ = some (.int .i64 x.y1) := (by subst hW; go_simp)); (have x6 : World.cell? (W) ⟨w.heap.size + 1 + 1, 6, none⟩ = some (.int .i64 x.z1) := (by subst hW; go_simp)); (have x7 : World.cell? (W) ⟨w.heap.size + 1 + 1, 7, none⟩ = some (.int .i64 x.x2) := (by subst hW; go_simp)); (have x8 : World.cell? (W) ⟨w.heap.size + 1 + 1, 8, none⟩ = some (.int .i64 x.y2) := (by subst hW; go_simp)); (have x9 : World.cell? (W) ⟨w.heap.size + 1 + 1, 9, none⟩ = some (.int .i64 x.z2) := (by subst hW; go_simp)))
  have k0 : W.cell? ⟨w.heap.size + 1 + 1 + 1, 0, none⟩ = some (.func (.func 49) #[] #[]) := by subst hW; go_simp
  have k1 : W.cell? ⟨w.heap.size + 1 + 1 + 1, 1, none⟩ = some (.func (.func 50) #[] #[]) := by subst hW; go_simp
  have k2 : W.cell? ⟨w.heap.size + 1 + 1 + 1, 2, none⟩ = some (.int .i64 200) := by subst hW; go_simp
  have k3 : W.cell? ⟨w.heap.size + 1 + 1 + 1, 3, none⟩ = some (.int .i64 40) := by subst hW; go_simp
  have k4 : W.cell? ⟨w.heap.size + 1 + 1 + 1, 4, none⟩ = some (.func (.func 51) #[] #[]) := by subst hW; go_simp
  have fz : Thr W (w.heap.size + 1 + 1 + 1 + 1) 3 := by subst hW; exact Thr.new _ _ _ _ (by simp)
  clear hW
  refine (HK.out _ hn).mono ?_
  rintro e W1 ⟨rfl, n1⟩
  replace fz := fz.keep n1
  replace hn := hn.trans n1
  replace q0 := n1.keep q0
  replace q1 := n1.keep q1
  replace q2 := n1.keep q2
  (replace g0 := New.keep (n1) g0; replace g1 := New.keep (n1) g1; replace g2 := New.keep (n1) g2; replace g3 := New.keep (n1) g3; replace g4 := New.keep (n1) g4; replace g5 := New.keep (n1) g5; replace g6 := New.keep (n1) g6)
  (replace x0 := New.keep (n1) x0; replace x1 := New.keep (n1) x1; replace x2 := New.keep (n1) x2; replace x3 := New.keep (n1) x3; replace x4 := New.keep (n1) x4; replace x5 := New.keep (n1) x5; replace x6 := New.keep (n1) x6; replace x7 := New.keep (n1) x7; replace x8 := New.keep (n1) x8; replace x9 := New.keep (n1) x9)
  (replace k0 := New.keep (n1) k0; replace k1 := New.keep (n1) k1; replace k2 := New.keep (n1) k2; replace k3 := New.keep (n1) k3; replace k4 := New.keep (n1) k4)
  clear n1
  go_wp2_with fail
  refine (HM.out _).mono ?_
  rintro e W2 ⟨rfl, n1⟩
  replace fz := fz.keep n1
  replace hn := hn.trans n1
  replace q0 := n1.keep q0
  replace q1 := n1.keep q1
  replace q2 := n1.keep q2
  (replace g0 := New.keep (n1) g0; replace g1 := New.keep (n1) g1; replace g2 := New.keep (n1) g2; replace g3 := New.keep (n1) g3; replace g4 := New.keep (n1) g4; replace g5 := New.keep (n1) g5; replace g6 := New.keep (n1) g6)
  (replace x0 := New.keep (n1) x0; replace x1 := New.keep (n1) x1; replace x2 := New.keep (n1) x2; replace x3 := New.keep (n1) x3; replace x4 := New.keep (n1) x4; replace x5 := New.keep (n1) x5; replace x6 := New.keep (n1) x6; replace x7 := New.keep (n1) x7; replace x8 := New.keep (n1) x8; replace x9 := New.keep (n1) x9)
  (replace k0 := New.keep (n1) k0; replace k1 := New.keep (n1) k1; replace k2 := New.keep (n1) k2; replace k3 := New.keep (n1) k3; replace k4 := New.keep (n1) k4)
  clear n1
  go_wp2_with fail
  refine (hL.out _ _).mono ?_
  rintro e w' ⟨rfl, rfl⟩
  go_wp2_with fail
  refine (hI.out _).mono ?_
  rintro e W3 ⟨rfl, n1⟩
  replace fz := fz.keep n1
  replace hn := hn.trans n1
  replace q0 := n1.keep q0
  replace q1 := n1.keep q1
  replace q2 := n1.keep q2
  (replace g0 := New.keep (n1) g0; replace g1 := New.keep (n1) g1; replace g2 := New.keep (n1) g2; replace g3 := New.keep (n1) g3; replace g4 := New.keep (n1) g4; replace g5 := New.keep (n1) g5; replace g6 := New.keep (n1) g6)
  (replace x0 := New.keep (n1) x0; replace x1 := New.keep (n1) x1; replace x2 := New.keep (n1) x2; replace x3 := New.keep (n1) x3; replace x4 := New.keep (n1) x4; replace x5 := New.keep (n1) x5; replace x6 := New.keep (n1) x6; replace x7 := New.keep (n1) x7; replace x8 := New.keep (n1) x8; replace x9 := New.keep (n1) x9)
  (replace k0 := New.keep (n1) k0; replace k1 := New.keep (n1) k1; replace k2 := New.keep (n1) k2; replace k3 := New.keep (n1) k3; replace k4 := New.keep (n1) k4)
  clear n1
  go_wp2_with fail
  refine (HS.out _ _ hn k1).mono ?_
  rintro e W4 ⟨rfl, n1⟩
  replace fz := fz.keep n1
  replace hn := hn.trans n1
  replace q0 := n1.keep q0
  replace q1 := n1.keep q1
  replace q2 := n1.keep q2
  (replace g0 := New.keep (n1) g0; replace g1 := New.keep (n1) g1; replace g2 := New.keep (n1) g2; replace g3 := New.keep (n1) g3; replace g4 := New.keep (n1) g4; replace g5 := New.keep (n1) g5; replace g6 := New.keep (n1) g6)
  (replace x0 := New.keep (n1) x0; replace x1 := New.keep (n1) x1; replace x2 := New.keep (n1) x2; replace x3 := New.keep (n1) x3; replace x4 := New.keep (n1) x4; replace x5 := New.keep (n1) x5; replace x6 := New.keep (n1) x6; replace x7 := New.keep (n1) x7; replace x8 := New.keep (n1) x8; replace x9 := New.keep (n1) x9)
  (replace k0 := New.keep (n1) k0; replace k1 := New.keep (n1) k1; replace k2 := New.keep (n1) k2; replace k3 := New.keep (n1) k3; replace k4 := New.keep (n1) k4)
  clear n1
  clear HS hI hL HM HK
  go_wp2_with (refine wpList_store_row rfl 28 _ _ rfl _ _ rfl rfl (fz.keep (by (repeat (first | (with_reducible exact New.refl _) | (with_reducible assumption) | ((with_reducible refine New.setB ?_ ?_ _); focus (first | omega | (simp; omega) | (simp; done))) | (with_reducible refine New.alloc ?_ _) | (with_reducible refine New.drew ?_) | (with_reducible refine New.drewN ?_ _) | (with_reducible refine New.hat ?_ _) | ((with_reducible apply New.snart); (with_reducible assumption)))))) (by kernel_rfl) (by intro v hv; simp at hv; rcases hv with rfl | rfl | rfl <;> rfl) (fun Z nZ kZ cZ => ?_))
  have nz := nZ w (by (repeat (first | (with_reducible exact New.refl _) | (with_reducible assumption) | ((with_reducible refine New.setB ?_ ?_ _); focus (first | omega | (simp; omega) | (simp; done))) | (with_reducible refine New.alloc ?_ _) | (with_reducible refine New.drew ?_) | (with_reducible refine New.drewN ?_ _) | (with_reducible refine New.hat ?_ _) | ((with_reducible apply New.snart); (with_reducible assumption))))) (by omega)
  have r0 := cZ 0 (by simp)
  have r1 := cZ 1 (by simp)
  have r2 := cZ 2 (by simp)
  simp only [Nat.zero_add, List.getElem_cons_zero, List.getElem_cons_succ] at r0 r1 r2
  clear nZ kZ cZ
  refine bodyPost_ret (v := .tuple #[.agg #[.slice none 0 0, .slice none 0 0, .slice none 0 0], .int .i64 51]) (by simp [results, Tryz.results47, go_sem, r0, r1, r2]) rfl ?_
  exact ⟨SoupV.none, rfl, SoupV.none_ok _, rfl, rfl, rfl, SoupV.none_own _, nz⟩

end Go.Proofs.YtonngfogbnfbnaaGreat
