import Derived.Test.YtonngfogbnfbnaaGreatSoMTZ8
import Derived.Test.YtonngfogbnfbnaaGreatSoPTZ8
import Derived.Test.YtonngfogbnfbnaaGreatSoGZ8
import Derived.Test.YtonngfogbnfbnaaGreatSoSZ8
import Derived.Test.YtonngfogbnfbnaaGreatLoose
import Derived.Test.YtonngfogbnfbnaaGreatSoFTZ8
import Derived.Test.YtonngfogbnfbnaaGreatSoHTZ8
import Derived.Test.YtonngfogbnfbnaaGreatSoTTZ8
import Derived.Test.YtonngfogbnfbnaaGreatSoUTZ8
import Derived.Test.YtonngfogbnfbnaaGreatSoOZ8
import Derived.Test.YtonngfogbnfbnaaGreatSoYZ8

/- Package soup: one added. -/
namespace Go.Proofs.YtonngfogbnfbnaaGreat
open Go.RowKit
set_option linter.unusedVariables false

set_option maxHeartbeats 4000000 in
set_option maxRecDepth 100000 in
theorem t_add_err (C : CfgR) (S : SoupV) (x : TriR) (w : World) (hS : S.ok w) (e0 : Int) (he : S.err C = e0) (h0 : e0 ≠ 0) :
    Calls Tryz.prog 47 #[.agg #[.int .i64 C.cl, .int .i64 C.cb, .int .i64 C.ht, .int .i64 C.ri, .int .i64 C.ru, .int .i64 C.wd, .int .i64 C.dp], .agg #[.slice S.a0 S.ts.length S.c0, .slice S.a1 S.bs.length S.c1, .slice S.a2 S.hs.length S.c2], .agg #[.int .i64 x.i, .int .i64 x.x0, .int .i64 x.y0, .int .i64 x.z0, .int .i64 x.x1, .int .i64 x.y1, .int .i64 x.z1, .int .i64 x.x2, .int .i64 x.y2, .int .i64 x.z2], .agg #[.func (.func 49) #[] #[], .func (.func 50) #[] #[], .int .i64 200, .int .i64 40, .func (.func 51) #[] #[]]] w (SoupE [] [] [] e0 w) := by
  have HK := Lib.hid (fun W (n : New w W) => by have q := s_check C S W (hS.keep n); rw [he] at q; exact q : ∀ W, New w W → Calls Tryz.prog 15 #[.agg #[.int .i64 C.cl, .int .i64 C.cb, .int .i64 C.ht, .int .i64 C.ri, .int .i64 C.ru, .int .i64 C.wd, .int .i64 C.dp], .agg #[.slice S.a0 S.ts.length S.c0, .slice S.a1 S.bs.length S.c1, .slice S.a2 S.hs.length S.c2]] W fun e w' => e = .returned (.int .i64 e0) ∧ New W w')
  have hb : (e0 != 0) = true := by simpa using h0
  clear he h0 hS
  go_enter Tryz.func47, Tryz.ntmps47
  go_wp2_with fail
  generalize hW : World.alloc _ _ = W
  have hn : New w W := by subst hW; (repeat (first | (with_reducible exact New.refl _) | (with_reducible assumption) | ((with_reducible refine New.setB ?_ ?_ _); focus (first | omega | (simp; omega) | (simp; done))) | (with_reducible refine New.alloc ?_ _) | (with_reducible refine New.drew ?_) | (with_reducible refine New.drewN ?_ _) | (with_reducible refine New.hat ?_ _) | ((with_reducible apply New.snart); (with_reducible assumption))))
  ((have g0 : World.cell? (W) ⟨w.heap.size, 0, none⟩ = some (.int .i64 C.cl) := (by subst hW; go_simp)); (have g1 : World.cell? (W) ⟨w.heap.size, 1, none⟩ = some (.int .i64 C.cb) := (by subst hW; go_simp)); (have g2 : World.cell? (W) ⟨w.heap.size, 2, none⟩ = some (.int .i64 C.ht) := (by subst hW; go_simp)); (have g3 : World.cell? (W) ⟨w.heap.size, 3, none⟩ = some (.int .i64 C.ri) := (by subst hW; go_simp)); (have g4 : World.cell? (W) ⟨w.heap.size, 4, none⟩ = some (.int .i64 C.ru) := (by subst hW; go_simp)); (have g5 : World.cell? (W) ⟨w.heap.size, 5, none⟩ = some (.int .i64 C.wd) := (by subst hW; go_simp)); (have g6 : World.cell? (W) ⟨w.heap.size, 6, none⟩ = some (.int .i64 C.dp) := (by subst hW; go_simp)))
  have q0 : W.cell? ⟨w.heap.size + 1, 0, none⟩ = some (.slice S.a0 S.ts.length S.c0) := by subst hW; go_simp
  have q1 : W.cell? ⟨w.heap.size + 1, 1, none⟩ = some (.slice S.a1 S.bs.length S.c1) := by subst hW; go_simp
  have q2 : W.cell? ⟨w.heap.size + 1, 2, none⟩ = some (.slice S.a2 S.hs.length S.c2) := by subst hW; go_simp
  ((have x0 : World.cell? (W) ⟨w.heap.size + 1 + 1, 0, none⟩ = some (.int .i64 x.i) := (by subst hW; go_simp)); (have x1 : World.cell? (W) ⟨w.heap.size + 1 + 1, 1, none⟩ = some (.int .i64 x.x0) := (by subst hW; go_simp)); (have x2 : World.cell? (W) ⟨w.heap.size + 1 + 1, 2, none⟩ = some (.int .i64 x.y0) := (by subst hW; go_simp)); (have x3 : World.cell? (W) ⟨w.heap.size + 1 + 1, 3, none⟩ = some (.int .i64 x.z0) := (by subst hW; go_simp)); (have x4 : World.cell? (W) ⟨w.heap.size + 1 + 1, 4, none⟩ = some (.int .i64 x.x1) := (by subst hW; go_simp)); (have x5 : World.cell? (W) ⟨w.heap.size + 1 + 1, 5, none⟩ = some (.int .i64 x.y1) := (by subst hW; go_simp)); (have x6 : World.cell? (W) ⟨w.heap.size + 1 + 1, 6, none⟩ = some (.int .i64 x.z1) := (by subst hW; go_simp)); (have x7 : World.cell? (W) ⟨w.heap.size + 1 + 1, 7, none⟩ = some (.int .i64 x.x2) := (by subst hW; go_simp)); (have x8 : World.cell? (W) ⟨w.heap.size + 1 + 1, 8, none⟩ = some (.int .i64 x.y2) := (by subst hW; go_simp)); (have x9 : World.cell? (W) ⟨w.heap.size + 1 + 1, 9, none⟩ = some (.int .i64 x.z2) := (by subst hW; go_simp)))
  have k0 : W.cell? ⟨w.heap.size + 1 + 1 + 1, 0, none⟩ = some (.func (.func 49) #[] #[]) := by subst hW; go_simp
  have k1 : W.cell? ⟨w.heap.size + 1 + 1 + 1, 1, none⟩ = some (.func (.func 50) #[] #[]) := by subst hW; go_simp
  have k2 : W.cell? ⟨w.heap.size + 1 + 1 + 1, 2, none⟩ = some (.int .i64 200) := by subst hW; go_simp
  have k3 : W.cell? ⟨w.heap.size + 1 + 1 + 1, 3, none⟩ = some (.int .i64 40) := by subst hW; go_simp
  have k4 : W.cell? ⟨w.heap.size + 1 + 1 + 1, 4, none⟩ = some (.func (.func 51) #[] #[]) := by subst hW; go_simp
  have fz : Thr W (w.heap.size + 1 + 1 + 1 + 1) 3 := by subst hW; exact Thr.new _ _ _ _ (by simp)
  clear hW
  refine (HK.out _ hn).mono ?_
  rintro e W1 ⟨rfl, n1⟩
  replace fz := fz.keep n1
  replace hn := hn.trans n1
  replace q0 := n1.keep q0
  replace q1 := n1.keep q1
  replace q2 := n1.keep q2
  (replace g0 := New.keep (n1) g0; replace g1 := New.keep (n1) g1; replace g2 := New.keep (n1) g2; replace g3 := New.keep (n1) g3; replace g4 := New.keep (n1) g4; replace g5 := New.keep (n1) g5; replace g6 := New.keep (n1) g6)
  (replace x0 := New.keep (n1) x0; replace x1 := New.keep (n1) x1; replace x2 := New.keep (n1) x2; replace x3 := New.keep (n1) x3; replace x4 := New.keep (n1) x4; replace x5 := New.keep (n1) x5; replace x6 := New.keep (n1) x6; replace x7 := New.keep (n1) x7; replace x8 := New.keep (n1) x8; replace x9 := New.keep (n1) x9)
  (replace k0 := New.keep (n1) k0; replace k1 := New.keep (n1) k1; replace k2 := New.keep (n1) k2; replace k3 := New.keep (n1) k3; replace k4 := New.keep (n1) k4)
  clear n1
  go_wp2_with (refine wpList_store_row rfl 28 _ _ rfl _ _ rfl rfl (fz.keep (by (repeat (first | (with_reducible exact New.refl _) | (with_reducible assumption) | ((with_reducible refine New.setB ?_ ?_ _); focus (first | omega | (simp; omega) | (simp; done))) | (with_reducible refine New.alloc ?_ _) | (with_reducible refine New.drew ?_) | (with_reducible refine New.drewN ?_ _) | (with_reducible refine New.hat ?_ _) | ((with_reducible apply New.snart); (with_reducible assumption)))))) (by kernel_rfl) (by intro v hv; simp at hv; rcases hv with rfl | rfl | rfl <;> rfl) (fun Z nZ kZ cZ => ?_))
  have nz := nZ w (by (repeat (first | (with_reducible exact New.refl _) | (with_reducible assumption) | ((with_reducible refine New.setB ?_ ?_ _); focus (first | omega | (simp; omega) | (simp; done))) | (with_reducible refine New.alloc ?_ _) | (with_reducible refine New.drew ?_) | (with_reducible refine New.drewN ?_ _) | (with_reducible refine New.hat ?_ _) | ((with_reducible apply New.snart); (with_reducible assumption))))) (by omega)
  have r0 := cZ 0 (by simp)
  have r1 := cZ 1 (by simp)
  have r2 := cZ 2 (by simp)
  simp only [Nat.zero_add, List.getElem_cons_zero, List.getElem_cons_succ] at r0 r1 r2
  clear nZ kZ cZ
  refine bodyPost_ret (v := .tuple #[.agg #[.slice none 0 0, .slice none 0 0, .slice none 0 0], .int .i64 e0]) (by simp [results, Tryz.results47, go_sem, r0, r1, r2]) rfl ?_
  exact ⟨SoupV.none, rfl, SoupV.none_ok _, rfl, rfl, rfl, SoupV.none_own _, nz⟩

set_option maxHeartbeats 4000000 in
set_option maxRecDepth 100000 in
theorem t_add_wrong (C : CfgR) (S : SoupV) (x : TriR) (w : World) (hS : S.ok w) (he : S.err C = 0) (hm : x.may C = false) :
    Calls Tryz.prog 47 #[.agg #[.int .i64 C.cl, .int .i64 C.cb, .int .i64 C.ht, .int .i64 C.ri, .int .i64 C.ru, .int .i64 C.wd, .int .i64 C.dp], .agg #[.slice S.a0 S.ts.length S.c0, .slice S.a1 S.bs.length S.c1, .slice S.a2 S.hs.length S.c2], .agg #[.int .i64 x.i, .int .i64 x.x0, .int .i64 x.y0, .int .i64 x.z0, .int .i64 x.x1, .int .i64 x.y1, .int .i64 x.z1, .int .i64 x.x2, .int .i64 x.y2, .int .i64 x.z2], .agg #[.func (.func 49) #[] #[], .func (.func 50) #[] #[], .int .i64 200, .int .i64 40, .func (.func 51) #[] #[]]] w (SoupE [] [] [] 40 w) := by
  have HK := Lib.hid (fun W (n : New w W) => by have q := s_check C S W (hS.keep n); rw [he] at q; exact q : ∀ W, New w W → Calls Tryz.prog 15 #[.agg #[.int .i64 C.cl, .int .i64 C.cb, .int .i64 C.ht, .int .i64 C.ri, .int .i64 C.ru, .int .i64 C.wd, .int .i64 C.dp], .agg #[.slice S.a0 S.ts.length S.c0, .slice S.a1 S.bs.length S.c1, .slice S.a2 S.hs.length S.c2]] W fun e w' => e = .returned (.int .i64 0) ∧ New W w')
  have hC : C.fine := CfgR.fine_of (by by_cases h : C.err = 0; exact h; unfold SoupV.err at he; rw [if_pos h] at he; cases he)
  have HM := Lib.hid (fun W => by have q := t_may C hC x W; rw [hm] at q; exact q : ∀ W, Calls Tryz.prog 79 #[.agg #[.int .i64 C.cl, .int .i64 C.cb, .int .i64 C.ht, .int .i64 C.ri, .int .i64 C.ru, .int .i64 C.wd, .int .i64 C.dp], .agg #[.int .i64 x.i, .int .i64 x.x0, .int .i64 x.y0, .int .i64 x.z0, .int .i64 x.x1, .int .i64 x.y1, .int .i64 x.z1, .int .i64 x.x2, .int .i64 x.y2, .int .i64 x.z2], .agg #[.func (.func 49) #[] #[], .func (.func 50) #[] #[], .int .i64 200, .int .i64 40, .func (.func 51) #[] #[]]] W fun e w' => e = .returned (.bool false) ∧ New W w')
  clear he hC hm hS
  go_enter Tryz.func47, Tryz.ntmps47
  go_wp2_with fail
  generalize hW : World.alloc _ _ = W
  have hn : New w W := by subst hW; (repeat (first | (with_reducible exact New.refl _) | (with_reducible assumption) | ((with_reducible refine New.setB ?_ ?_ _); focus (first | omega | (simp; omega) | (simp; done))) | (with_reducible refine New.alloc ?_ _) | (with_reducible refine New.drew ?_) | (with_reducible refine New.drewN ?_ _) | (with_reducible refine New.hat ?_ _) | ((with_reducible apply New.snart); (with_reducible assumption))))
  ((have g0 : World.cell? (W) ⟨w.heap.size, 0, none⟩ = some (.int .i64 C.cl) := (by subst hW; go_simp)); (have g1 : World.cell? (W) ⟨w.heap.size, 1, none⟩ = some (.int .i64 C.cb) := (by subst hW; go_simp)); (have g2 : World.cell? (W) ⟨w.heap.size, 2, none⟩ = some (.int .i64 C.ht) := (by subst hW; go_simp)); (have g3 : World.cell? (W) ⟨w.heap.size, 3, none⟩ = some (.int .i64 C.ri) := (by subst hW; go_simp)); (have g4 : World.cell? (W) ⟨w.heap.size, 4, none⟩ = some (.int .i64 C.ru) := (by subst hW; go_simp)); (have g5 : World.cell? (W) ⟨w.heap.size, 5, none⟩ = some (.int .i64 C.wd) := (by subst hW; go_simp)); (have g6 : World.cell? (W) ⟨w.heap.size, 6, none⟩ = some (.int .i64 C.dp) := (by subst hW; go_simp)))
  have q0 : W.cell? ⟨w.heap.size + 1, 0, none⟩ = some (.slice S.a0 S.ts.length S.c0) := by subst hW; go_simp
  have q1 : W.cell? ⟨w.heap.size + 1, 1, none⟩ = some (.slice S.a1 S.bs.length S.c1) := by subst hW; go_simp
  have q2 : W.cell? ⟨w.heap.size + 1, 2, none⟩ = some (.slice S.a2 S.hs.length S.c2) := by subst hW; go_simp
  ((have x0 : World.cell? (W) ⟨w.heap.size + 1 + 1, 0, none⟩ = some (.int .i64 x.i) := (by subst hW; go_simp)); (have x1 : World.cell? (W) ⟨w.heap.size + 1 + 1, 1, none⟩ = some (.int .i64 x.x0) := (by subst hW; go_simp)); (have x2 : World.cell? (W) ⟨w.heap.size + 1 + 1, 2, none⟩ = some (.int .i64 x.y0) := (by subst hW; go_simp)); (have x3 : World.cell? (W) ⟨w.heap.size + 1 + 1, 3, none⟩ = some (.int .i64 x.z0) := (by subst hW; go_simp)); (have x4 : World.cell? (W) ⟨w.heap.size + 1 + 1, 4, none⟩ = some (.int .i64 x.x1) := (by subst hW; go_simp)); (have x5 : World.cell? (W) ⟨w.heap.size + 1 + 1, 5, none⟩ = some (.int .i64 x.y1) := (by subst hW; go_simp)); (have x6 : World.cell? (W) ⟨w.heap.size + 1 + 1, 6, none⟩ = some (.int .i64 x.z1) := (by subst hW; go_simp)); (have x7 : World.cell? (W) ⟨w.heap.size + 1 + 1, 7, none⟩ = some (.int .i64 x.x2) := (by subst hW; go_simp)); (have x8 : World.cell? (W) ⟨w.heap.size + 1 + 1, 8, none⟩ = some (.int .i64 x.y2) := (by subst hW; go_simp)); (have x9 : World.cell? (W) ⟨w.heap.size + 1 + 1, 9, none⟩ = some (.int .i64 x.z2) := (by subst hW; go_simp)))
  have k0 : W.cell? ⟨w.heap.size + 1 + 1 + 1, 0, none⟩ = some (.func (.func 49) #[] #[]) := by subst hW; go_simp
  have k1 : W.cell? ⟨w.heap.size + 1 + 1 + 1, 1, none⟩ = some (.func (.func 50) #[] #[]) := by subst hW; go_simp
  have k2 : W.cell? ⟨w.heap.size + 1 + 1 + 1, 2, none⟩ = some (.int .i64 200) := by subst hW; go_simp
  have k3 : W.cell? ⟨w.heap.size + 1 + 1 + 1, 3, none⟩ = some (.int .i64 40) := by subst hW; go_simp
  have k4 : W.cell? ⟨w.heap.size + 1 + 1 + 1, 4, none⟩ = some (.func (.func 51) #[] #[]) := by subst hW; go_simp
  have fz : Thr W (w.heap.size + 1 + 1 + 1 + 1) 3 := by subst hW; exact Thr.new _ _ _ _ (by simp)
  clear hW
  refine (HK.out _ hn).mono ?_
  rintro e W1 ⟨rfl, n1⟩
  replace fz := fz.keep n1
  replace hn := hn.trans n1
  replace q0 := n1.keep q0
  replace q1 := n1.keep q1
  replace q2 := n1.keep q2
  (replace g0 := New.keep (n1) g0; replace g1 := New.keep (n1) g1; replace g2 := New.keep (n1) g2; replace g3 := New.keep (n1) g3; replace g4 := New.keep (n1) g4; replace g5 := New.keep (n1) g5; replace g6 := New.keep (n1) g6)
  (replace x0 := New.keep (n1) x0; replace x1 := New.keep (n1) x1; replace x2 := New.keep (n1) x2; replace x3 := New.keep (n1) x3; replace x4 := New.keep (n1) x4; replace x5 := New.keep (n1) x5; replace x6 := New.keep (n1) x6; replace x7 := New.keep (n1) x7; replace x8 := New.keep (n1) x8; replace x9 := New.keep (n1) x9)
  (replace k0 := New.keep (n1) k0; replace k1 := New.keep (n1) k1; replace k2 := New.keep (n1) k2; replace k3 := New.keep (n1) k3; replace k4 := New.keep (n1) k4)
  clear n1
  go_wp2_with fail
  refine (HM.out _).mono ?_
  rintro e W2 ⟨rfl, n1⟩
  replace fz := fz.keep n1
  replace hn := hn.trans n1
  replace q0 := n1.keep q0
  replace q1 := n1.keep q1
  replace q2 := n1.keep q2
  (replace g0 := New.keep (n1) g0; replace g1 := New.keep (n1) g1; replace g2 := New.keep (n1) g2; replace g3 := New.keep (n1) g3; replace g4 := New.keep (n1) g4; replace g5 := New.keep (n1) g5; replace g6 := New.keep (n1) g6)
  (replace x0 := New.keep (n1) x0; replace x1 := New.keep (n1) x1; replace x2 := New.keep (n1) x2; replace x3 := New.keep (n1) x3; replace x4 := New.keep (n1) x4; replace x5 := New.keep (n1) x5; replace x6 := New.keep (n1) x6; replace x7 := New.keep (n1) x7; replace x8 := New.keep (n1) x8; replace x9 := New.keep (n1) x9)
  (replace k0 := New.keep (n1) k0; replace k1 := New.keep (n1) k1; replace k2 := New.keep (n1) k2; replace k3 := New.keep (n1) k3; replace k4 := New.keep (n1) k4)
  clear n1
  clear HM HK
  go_upto_region 5 with fail
  obtain ⟨⟨v0, u0⟩, f0⟩ := fz 0 (by omega)
  obtain ⟨⟨v1, u1⟩, f1⟩ := fz 1 (by omega)
  obtain ⟨⟨v2, u2⟩, f2⟩ := fz 2 (by omega)
  have hlt := fz.lt (by omega)
  clear fz q0 q1 q2 k0 k1 k2 k4
  clear x0 x1 x2 x3 x4 x5 x6 x7 x8 x9
  clear g0 g1 g2 g3 g4 g5 g6
  go_region
  all_goals
    go_wp2_with fail
    refine bodyPost_ret (v := .tuple #[.agg #[.slice none 0 0, .slice none 0 0, .slice none 0 0], .int .i64 40]) (by simp [results, Tryz.results47, go_sem, *]) rfl ?_
    exact ⟨SoupV.none, rfl, SoupV.none_ok _, rfl, rfl, rfl, SoupV.none_own _, by (repeat (first | (with_reducible exact New.refl _) | (with_reducible assumption) | ((with_reducible refine New.setB ?_ ?_ _); focus (first | omega | (simp; omega) | (simp; done))) | (with_reducible refine New.alloc ?_ _) | (with_reducible refine New.drew ?_) | (with_reducible refine New.drewN ?_ _) | (with_reducible refine New.hat ?_ _) | ((with_reducible apply New.snart); (with_reducible assumption))))⟩

end Go.Proofs.YtonngfogbnfbnaaGreat

/- Package soup: AddTri, AddBox, AddHop, over what adds. -/
namespace Go.Proofs.YtonngfogbnfbnaaGreat
open Go.RowKit
set_option linter.unusedVariables false

def t_AdV (C : CfgR) (S : SoupV) (x : TriR) (er : Int) (T : List TriR) (B : List BoxR) (H : List HopR) (b : Nat) : Nat → World → Value → Prop
  | 0, _, v => v = .agg #[.int .i64 C.cl, .int .i64 C.cb, .int .i64 C.ht, .int .i64 C.ri, .int .i64 C.ru, .int .i64 C.wd, .int .i64 C.dp]
  | 1, _, v => v = .agg #[.slice S.a0 S.ts.length S.c0, .slice S.a1 S.bs.length S.c1, .slice S.a2 S.hs.length S.c2]
  | 2, _, v => v = .agg #[.int .i64 x.i, .int .i64 x.x0, .int .i64 x.y0, .int .i64 x.z0, .int .i64 x.x1, .int .i64 x.y1, .int .i64 x.z1, .int .i64 x.x2, .int .i64 x.y2, .int .i64 x.z2]
  | 3, _, v => v = .agg #[.func (.func 49) #[] #[], .func (.func 50) #[] #[], .int .i64 200, .int .i64 40, .func (.func 51) #[] #[]]
  | 4, w, v => ∃ S' : SoupV, v = .tuple #[.agg #[.slice S'.a0 S'.ts.length S'.c0, .slice S'.a1 S'.bs.length S'.c1, .slice S'.a2 S'.hs.length S'.c2], .int .i64 er] ∧ S'.ok w ∧ S'.own (b + 1 + 1 + 1 + 1) ∧ S'.ts = T ∧ S'.bs = B ∧ S'.hs = H
  | 5, w, v => ∃ S' : SoupV, v = .agg #[.slice S'.a0 S'.ts.length S'.c0, .slice S'.a1 S'.bs.length S'.c1, .slice S'.a2 S'.hs.length S'.c2] ∧ S'.ok w ∧ S'.own (b + 1 + 1 + 1 + 1) ∧ S'.ts = T ∧ S'.bs = B ∧ S'.hs = H
  | _, w, v => v = .int .i64 er
theorem t_AdV_keep {C : CfgR} {S : SoupV} {x : TriR} {er : Int} {T : List TriR} {B : List BoxR} {H : List HopR} {b : Nat} : ∀ i w w' v, t_AdV C S x er T B H b i w v → New w w' → t_AdV C S x er T B H b i w' v := by
  intro i w w' v h hn
  rcases (show i = 0 ∨ i = 1 ∨ i = 2 ∨ i = 3 ∨ i = 4 ∨ i = 5 ∨ 6 ≤ i by omega) with rfl | rfl | rfl | rfl | rfl | rfl | hi
  · exact h
  · exact h
  · exact h
  · exact h
  · obtain ⟨S', e, h1, h2⟩ := h; exact ⟨S', e, h1.keep hn, h2⟩
  · obtain ⟨S', e, h1, h2⟩ := h; exact ⟨S', e, h1.keep hn, h2⟩
  · obtain ⟨k, rfl⟩ : ∃ k, i = k + 6 := ⟨i - 6, by omega⟩
    exact h

set_option maxHeartbeats 4000000 in
set_option maxRecDepth 100000 in
theorem t_Add (C : CfgR) (S : SoupV) (x : TriR) (er : Int) (T : List TriR) (B : List BoxR) (H : List HopR) (w : World)
    (hD : ∀ W, New w W → Calls Tryz.prog 47 #[.agg #[.int .i64 C.cl, .int .i64 C.cb, .int .i64 C.ht, .int .i64 C.ri, .int .i64 C.ru, .int .i64 C.wd, .int .i64 C.dp], .agg #[.slice S.a0 S.ts.length S.c0, .slice S.a1 S.bs.length S.c1, .slice S.a2 S.hs.length S.c2], .agg #[.int .i64 x.i, .int .i64 x.x0, .int .i64 x.y0, .int .i64 x.z0, .int .i64 x.x1, .int .i64 x.y1, .int .i64 x.z1, .int .i64 x.x2, .int .i64 x.y2, .int .i64 x.z2], .agg #[.func (.func 49) #[] #[], .func (.func 50) #[] #[], .int .i64 200, .int .i64 40, .func (.func 51) #[] #[]]] W (SoupE T B H er W)) :
    Calls Tryz.prog 18 #[.agg #[.int .i64 C.cl, .int .i64 C.cb, .int .i64 C.ht, .int .i64 C.ri, .int .i64 C.ru, .int .i64 C.wd, .int .i64 C.dp], .agg #[.slice S.a0 S.ts.length S.c0, .slice S.a1 S.bs.length S.c1, .slice S.a2 S.hs.length S.c2], .agg #[.int .i64 x.i, .int .i64 x.x0, .int .i64 x.y0, .int .i64 x.z0, .int .i64 x.x1, .int .i64 x.y1, .int .i64 x.z1, .int .i64 x.x2, .int .i64 x.y2, .int .i64 x.z2]] w (SoupE T B H er w) := by
  have HD := Lib.hid hD
  have HK := Lib.hid (fun W => t_kind W)
  clear hD
  go_enter Tryz.func18, Tryz.ntmps18
  go_upto_region 1 with fail
  generalize hW : World.alloc _ _ = W
  have hn : New w W := by subst hW; (repeat (first | (with_reducible exact New.refl _) | (with_reducible assumption) | ((with_reducible refine New.setB ?_ ?_ _); focus (first | omega | (simp; omega) | (simp; done))) | (with_reducible refine New.alloc ?_ _) | (with_reducible refine New.drew ?_) | (with_reducible refine New.drewN ?_ _) | (with_reducible refine New.hat ?_ _) | ((with_reducible apply New.snart); (with_reducible assumption))))
  ((have g0 : World.cell? (W) ⟨w.heap.size, 0, none⟩ = some (.int .i64 C.cl) := (by subst hW; go_simp)); (have g1 : World.cell? (W) ⟨w.heap.size, 1, none⟩ = some (.int .i64 C.cb) := (by subst hW; go_simp)); (have g2 : World.cell? (W) ⟨w.heap.size, 2, none⟩ = some (.int .i64 C.ht) := (by subst hW; go_simp)); (have g3 : World.cell? (W) ⟨w.heap.size, 3, none⟩ = some (.int .i64 C.ri) := (by subst hW; go_simp)); (have g4 : World.cell? (W) ⟨w.heap.size, 4, none⟩ = some (.int .i64 C.ru) := (by subst hW; go_simp)); (have g5 : World.cell? (W) ⟨w.heap.size, 5, none⟩ = some (.int .i64 C.wd) := (by subst hW; go_simp)); (have g6 : World.cell? (W) ⟨w.heap.size, 6, none⟩ = some (.int .i64 C.dp) := (by subst hW; go_simp)))
  have q0 : W.cell? ⟨w.heap.size + 1, 0, none⟩ = some (.slice S.a0 S.ts.length S.c0) := by subst hW; go_simp
  have q1 : W.cell? ⟨w.heap.size + 1, 1, none⟩ = some (.slice S.a1 S.bs.length S.c1) := by subst hW; go_simp
  have q2 : W.cell? ⟨w.heap.size + 1, 2, none⟩ = some (.slice S.a2 S.hs.length S.c2) := by subst hW; go_simp
  ((have x0 : World.cell? (W) ⟨w.heap.size + 1 + 1, 0, none⟩ = some (.int .i64 x.i) := (by subst hW; go_simp)); (have x1 : World.cell? (W) ⟨w.heap.size + 1 + 1, 1, none⟩ = some (.int .i64 x.x0) := (by subst hW; go_simp)); (have x2 : World.cell? (W) ⟨w.heap.size + 1 + 1, 2, none⟩ = some (.int .i64 x.y0) := (by subst hW; go_simp)); (have x3 : World.cell? (W) ⟨w.heap.size + 1 + 1, 3, none⟩ = some (.int .i64 x.z0) := (by subst hW; go_simp)); (have x4 : World.cell? (W) ⟨w.heap.size + 1 + 1, 4, none⟩ = some (.int .i64 x.x1) := (by subst hW; go_simp)); (have x5 : World.cell? (W) ⟨w.heap.size + 1 + 1, 5, none⟩ = some (.int .i64 x.y1) := (by subst hW; go_simp)); (have x6 : World.cell? (W) ⟨w.heap.size + 1 + 1, 6, none⟩ = some (.int .i64 x.z1) := (by subst hW; go_simp)); (have x7 : World.cell? (W) ⟨w.heap.size + 1 + 1, 7, none⟩ = some (.int .i64 x.x2) := (by subst hW; go_simp)); (have x8 : World.cell? (W) ⟨w.heap.size + 1 + 1, 8, none⟩ = some (.int .i64 x.y2) := (by subst hW; go_simp)); (have x9 : World.cell? (W) ⟨w.heap.size + 1 + 1, 9, none⟩ = some (.int .i64 x.z2) := (by subst hW; go_simp)))
  have fz : Thr W (w.heap.size + 1 + 1 + 1) 3 := by subst hW; exact Thr.new _ _ _ _ (by simp)
  clear hW
  refine wp_region_loose 7 (t_AdV C S x er T B H w.heap.size) (by kernel_rfl) (by kernel_rfl) t_AdV_keep ?_ ?_
  · intro i o hi ho a' w' nn hr hd
    rcases (show i = 0 ∨ i = 1 ∨ i = 2 ∨ i = 3 ∨ i = 4 ∨ i = 5 ∨ i = 6 by omega) with rfl | rfl | rfl | rfl | rfl | rfl | rfl <;> obtain rfl := Option.some.inj ho
    · have r3 : (a'.tmps[3]?).getD undef = .pointer (some ⟨w.heap.size, 0, none⟩) := (eval_get a' 3).symm.trans (hr 3 (by kernel_rfl))
      (replace g0 := New.keep (nn) g0; replace g1 := New.keep (nn) g1; replace g2 := New.keep (nn) g2; replace g3 := New.keep (nn) g3; replace g4 := New.keep (nn) g4; replace g5 := New.keep (nn) g5; replace g6 := New.keep (nn) g6)
      exact yields_value (.agg #[.int .i64 C.cl, .int .i64 C.cb, .int .i64 C.ht, .int .i64 C.ri, .int .i64 C.ru, .int .i64 C.wd, .int .i64 C.dp]) (by go_simp) ⟨New.refl _, rfl⟩
    · have r3 : (a'.tmps[4]?).getD undef = .pointer (some ⟨w.heap.size + 1, 0, none⟩) := (eval_get a' 4).symm.trans (hr 4 (by kernel_rfl))
      have y0 := nn.keep q0
      have y1 := nn.keep q1
      have y2 := nn.keep q2
      exact yields_value (.agg #[.slice S.a0 S.ts.length S.c0, .slice S.a1 S.bs.length S.c1, .slice S.a2 S.hs.length S.c2]) (by go_simp) ⟨New.refl _, rfl⟩
    · have r3 : (a'.tmps[5]?).getD undef = .pointer (some ⟨w.heap.size + 1 + 1, 0, none⟩) := (eval_get a' 5).symm.trans (hr 5 (by kernel_rfl))
      (replace x0 := New.keep (nn) x0; replace x1 := New.keep (nn) x1; replace x2 := New.keep (nn) x2; replace x3 := New.keep (nn) x3; replace x4 := New.keep (nn) x4; replace x5 := New.keep (nn) x5; replace x6 := New.keep (nn) x6; replace x7 := New.keep (nn) x7; replace x8 := New.keep (nn) x8; replace x9 := New.keep (nn) x9)
      exact yields_value (.agg #[.int .i64 x.i, .int .i64 x.x0, .int .i64 x.y0, .int .i64 x.z0, .int .i64 x.x1, .int .i64 x.y1, .int .i64 x.z1, .int .i64 x.x2, .int .i64 x.y2, .int .i64 x.z2]) (by go_simp) ⟨New.refl _, rfl⟩
    · exact yields_enter 22 #[] (by go_simp) ((HK.out _).mono fun e w'' ⟨he, hn⟩ => ⟨_, he, hn, rfl⟩)
    · have e0 : a'.eval (.tmp 8) = .agg #[.int .i64 C.cl, .int .i64 C.cb, .int .i64 C.ht, .int .i64 C.ri, .int .i64 C.ru, .int .i64 C.wd, .int .i64 C.dp] := hd 0 8 (by omega) (by kernel_rfl) (by kernel_rfl)
      have e1 : a'.eval (.tmp 9) = .agg #[.slice S.a0 S.ts.length S.c0, .slice S.a1 S.bs.length S.c1, .slice S.a2 S.hs.length S.c2] := hd 1 9 (by omega) (by kernel_rfl) (by kernel_rfl)
      have e2 : a'.eval (.tmp 10) = .agg #[.int .i64 x.i, .int .i64 x.x0, .int .i64 x.y0, .int .i64 x.z0, .int .i64 x.x1, .int .i64 x.y1, .int .i64 x.z1, .int .i64 x.x2, .int .i64 x.y2, .int .i64 x.z2] := hd 2 10 (by omega) (by kernel_rfl) (by kernel_rfl)
      have e3 : a'.eval (.tmp 11) = .agg #[.func (.func 49) #[] #[], .func (.func 50) #[] #[], .int .i64 200, .int .i64 40, .func (.func 51) #[] #[]] := hd 3 11 (by omega) (by kernel_rfl) (by kernel_rfl)
      have r0 : (a'.tmps[8]?).getD undef = _ := (eval_get a' 8).symm.trans e0
      have r1 : (a'.tmps[9]?).getD undef = _ := (eval_get a' 9).symm.trans e1
      have r2 : (a'.tmps[10]?).getD undef = _ := (eval_get a' 10).symm.trans e2
      have r3 : (a'.tmps[11]?).getD undef = _ := (eval_get a' 11).symm.trans e3
      refine yields_enter 47 #[.agg #[.int .i64 C.cl, .int .i64 C.cb, .int .i64 C.ht, .int .i64 C.ri, .int .i64 C.ru, .int .i64 C.wd, .int .i64 C.dp], .agg #[.slice S.a0 S.ts.length S.c0, .slice S.a1 S.bs.length S.c1, .slice S.a2 S.hs.length S.c2], .agg #[.int .i64 x.i, .int .i64 x.x0, .int .i64 x.y0, .int .i64 x.z0, .int .i64 x.x1, .int .i64 x.y1, .int .i64 x.z1, .int .i64 x.x2, .int .i64 x.y2, .int .i64 x.z2], .agg #[.func (.func 49) #[] #[], .func (.func 50) #[] #[], .int .i64 200, .int .i64 40, .func (.func 51) #[] #[]]] (by go_simp) ((HD.out _ (hn.trans nn)).mono ?_)
      rintro e w'' ⟨S', he, h1, h2, h3, h4, h5, h6⟩
      refine ⟨_, he, h6, S', rfl, h1, h5.mono ?_, h2, h3, h4⟩
      have := fz.lt (by omega)
      have := nn.size
      omega
    · obtain ⟨S', e3, h1⟩ : ∃ S' : SoupV, a'.eval (.tmp 12) = .tuple #[.agg #[.slice S'.a0 S'.ts.length S'.c0, .slice S'.a1 S'.bs.length S'.c1, .slice S'.a2 S'.hs.length S'.c2], .int .i64 er] ∧ S'.ok w' ∧ S'.own (w.heap.size + 1 + 1 + 1 + 1) ∧ S'.ts = T ∧ S'.bs = B ∧ S'.hs = H := hd 4 12 (by omega) (by kernel_rfl) (by kernel_rfl)
      have r3 : (a'.tmps[12]?).getD undef = _ := (eval_get a' 12).symm.trans e3
      exact yields_value (.agg #[.slice S'.a0 S'.ts.length S'.c0, .slice S'.a1 S'.bs.length S'.c1, .slice S'.a2 S'.hs.length S'.c2]) (by go_simp) ⟨New.refl _, S', rfl, h1⟩
    · obtain ⟨S', e3, h1⟩ : ∃ S' : SoupV, a'.eval (.tmp 12) = .tuple #[.agg #[.slice S'.a0 S'.ts.length S'.c0, .slice S'.a1 S'.bs.length S'.c1, .slice S'.a2 S'.hs.length S'.c2], .int .i64 er] ∧ S'.ok w' ∧ S'.own (w.heap.size + 1 + 1 + 1 + 1) ∧ S'.ts = T ∧ S'.bs = B ∧ S'.hs = H := hd 4 12 (by omega) (by kernel_rfl) (by kernel_rfl)
      have r3 : (a'.tmps[12]?).getD undef = _ := (eval_get a' 12).symm.trans e3
      exact yields_value (.int .i64 er) (by go_simp) ⟨New.refl _, rfl⟩
  · intro vs w' nn hv
    obtain ⟨S', e4, h1, h2, h3⟩ : ∃ S' : SoupV, vs 5 = .agg #[.slice S'.a0 S'.ts.length S'.c0, .slice S'.a1 S'.bs.length S'.c1, .slice S'.a2 S'.hs.length S'.c2] ∧ S'.ok w' ∧ S'.own (w.heap.size + 1 + 1 + 1 + 1) ∧ S'.ts = T ∧ S'.bs = B ∧ S'.hs = H := hv 5 (by omega)
    have e5 : vs 6 = .int .i64 er := hv 6 (by omega)
    simp only [List.take_succ_cons, List.take_zero, List.drop_succ_cons, List.drop_zero, putL, Act.put, List.setIfInBounds_toArray, List.set_cons_zero, List.set_cons_succ, Nat.reduceAdd, Nat.zero_add]
    rw [e4, e5]
    have H1 := Lib.hid (And.intro h1 (And.intro h2 h3))
    clear hv e4 e5 q0 q1 q2 h1 h2 h3 HD HK
    clear x0 x1 x2 x3 x4 x5 x6 x7 x8 x9
    clear g0 g1 g2 g3 g4 g5 g6
    go_wp2_with (refine wpList_store_row rfl 28 _ _ rfl _ _ rfl rfl (fz.keep nn) (by kernel_rfl) (by intro v hv; simp at hv; rcases hv with rfl | rfl | rfl <;> rfl) (fun Z nZ kZ cZ => ?_))
    have nz := nZ w (hn.trans nn) (by omega)
    have okz := SoupV.ok_but H1.out.1 H1.out.2.1 (by omega) kZ
    have r0 := cZ 0 (by simp)
    have r1 := cZ 1 (by simp)
    have r2 := cZ 2 (by simp)
    simp only [Nat.zero_add, List.getElem_cons_zero, List.getElem_cons_succ] at r0 r1 r2
    clear nZ kZ cZ
    refine bodyPost_ret (v := .tuple #[.agg #[.slice S'.a0 S'.ts.length S'.c0, .slice S'.a1 S'.bs.length S'.c1, .slice S'.a2 S'.hs.length S'.c2], .int .i64 er]) (by simp [results, Tryz.results18, go_sem, r0, r1, r2]) rfl ?_
    exact ⟨S', rfl, okz, H1.out.2.2.1, H1.out.2.2.2.1, H1.out.2.2.2.2, H1.out.2.1.mono (by omega), nz⟩

end Go.Proofs.YtonngfogbnfbnaaGreat

/- Package soup: rising rows; what adding comes to. -/
namespace Go.Proofs.YtonngfogbnfbnaaGreat
open Go.RowKit
set_option linter.unusedVariables false

def TriR.Rise (l : List TriR) : Prop := l.Pairwise fun a b => a.i < b.i
theorem TriR.listB_iff {C : CfgR} {l : List TriR} : TriR.listB C l = true ↔ l.length ≤ 200 ∧ (∀ x ∈ l, x.may C = true) ∧ TriR.Rise l := by
  unfold TriR.listB
  rw [Bool.and_eq_true, decide_eq_true_eq, List.all_eq_true]
  constructor
  · rintro ⟨h1, h2⟩
    have ok : ∀ i (h : i < l.length), TriR.okAt C l i = true := fun i h => h2 i (List.mem_range.2 h)
    refine ⟨h1, fun x hx => ?_, ?_⟩
    · obtain ⟨i, hi, rfl⟩ := List.getElem_of_mem hx
      have := ok i hi
      unfold TriR.okAt at this
      rw [getElem!_pos l i hi, Bool.and_eq_true] at this
      exact this.1
    · unfold TriR.Rise
      rw [List.pairwise_iff_getElem]
      intro i j hi hj hij
      have step : ∀ d i, (h : i + d + 1 < l.length) → (l[i]'(by omega)).i < (l[i + d + 1]'h).i := by
        intro d
        induction d with
        | zero =>
          intro i h
          have := ok (i + 1) h
          rw [TriR.okAt_succ C l i h, Bool.and_eq_true, decide_eq_true_eq] at this
          exact this.2
        | succ d ih =>
          intro i h
          have h3 := ih i (by omega)
          have := ok (i + d + 1 + 1) h
          rw [TriR.okAt_succ C l (i + d + 1) h, Bool.and_eq_true, decide_eq_true_eq] at this
          exact Int.lt_trans h3 this.2
      have := step (j - i - 1) i (by omega)
      simp only [show i + (j - i - 1) + 1 = j by omega] at this
      exact this
  · rintro ⟨h1, h2, h3⟩
    refine ⟨h1, fun i hi => ?_⟩
    have hi' := List.mem_range.1 hi
    unfold TriR.Rise at h3
    rw [List.pairwise_iff_getElem] at h3
    cases i with
    | zero => rw [TriR.okAt_zero C l hi']; exact h2 _ (List.getElem_mem hi')
    | succ i =>
      rw [TriR.okAt_succ C l i hi', Bool.and_eq_true, decide_eq_true_eq]
      exact ⟨h2 _ (List.getElem_mem hi'), h3 i (i + 1) (by omega) hi' (by omega)⟩

theorem TriR.place {l : List TriR} (h : TriR.Rise l) (id : Int) : ∃ p, TriR.Place l id p := by
  unfold TriR.Rise at h
  rw [List.pairwise_iff_getElem] at h
  obtain ⟨p, hp, hmin⟩ := exists_least (p := fun p => p = l.length ∨ ∃ hp : p < l.length, id ≤ l[p].i) ⟨l.length, Or.inl rfl⟩
  have hle : p ≤ l.length := hmin _ (Or.inl rfl)
  refine ⟨p, hle, fun j hj hjp => ?_, fun j hj hpj => ?_⟩
  · by_cases q : l[j].i < id
    · exact q
    · have := hmin j (Or.inr ⟨hj, by omega⟩); omega
  · rcases hp with rfl | ⟨hp, hq⟩
    · omega
    · rcases Nat.eq_or_lt_of_le hpj with rfl | q
      · exact hq
      · have := h p j hp hj q; omega

/-- One of this id is there. -/
theorem TriR.hit_iff {l : List TriR} {id : Int} {p : Nat} (hl : TriR.Rise l) (h : TriR.Place l id p) : TriR.hit l id p = true ↔ ∃ x ∈ l, x.i = id := by
  unfold TriR.hit
  rw [Bool.and_eq_true, decide_eq_true_eq, beq_iff_eq]
  constructor
  · rintro ⟨hp, he⟩
    rw [getElem!_pos l p hp] at he
    exact ⟨_, List.getElem_mem hp, he⟩
  · rintro ⟨x, hx, he⟩
    obtain ⟨j, hj, rfl⟩ := List.getElem_of_mem hx
    have hjp : p ≤ j := by
      rcases Nat.lt_or_ge j p with q | q
      · have := h.lo j hj q; omega
      · exact q
    have hp : p < l.length := by omega
    refine ⟨hp, ?_⟩
    rw [getElem!_pos l p hp]
    have h1 := h.hi p hp (Nat.le_refl _)
    rcases Nat.eq_or_lt_of_le hjp with q | q
    · subst q; exact he
    · unfold TriR.Rise at hl
      rw [List.pairwise_iff_getElem] at hl
      have := hl p j hp hj q
      omega

/-- With x in its place. -/
def TriR.put (l : List TriR) (p : Nat) (x : TriR) : List TriR := l.take p ++ [x] ++ l.drop p
theorem TriR.put_len {l : List TriR} {p : Nat} {x : TriR} (h : p ≤ l.length) : (TriR.put l p x).length = l.length + 1 := by
  unfold TriR.put
  simp
  omega
theorem TriR.put_perm (l : List TriR) (p : Nat) (x : TriR) : (TriR.put l p x).Perm (x :: l) := by
  unfold TriR.put
  rw [List.append_assoc, List.singleton_append]
  refine List.perm_middle.trans (List.Perm.cons x ?_)
  rw [List.take_append_drop]
theorem TriR.put_mem {l : List TriR} {p : Nat} {x y : TriR} : y ∈ TriR.put l p x ↔ y = x ∨ y ∈ l := by
  rw [(TriR.put_perm l p x).mem_iff, List.mem_cons]
theorem TriR.put_rise {l : List TriR} {p : Nat} {x : TriR} (hl : TriR.Rise l) (hp : TriR.Place l x.i p) (hn : TriR.hit l x.i p = false) : TriR.Rise (TriR.put l p x) := by
  have hno : ∀ y ∈ l, y.i ≠ x.i := fun y hy he => by
    rw [(TriR.hit_iff hl hp).2 ⟨y, hy, he⟩] at hn; cases hn
  unfold TriR.Rise TriR.put at *
  rw [List.pairwise_append, List.pairwise_append]
  refine ⟨⟨hl.sublist (List.take_sublist _ _), List.pairwise_singleton _ _, fun a ha b hb => ?_⟩, hl.sublist (List.drop_sublist _ _), fun a ha b hb => ?_⟩
  · obtain rfl := List.mem_singleton.1 hb
    obtain ⟨j, hj, rfl⟩ := List.getElem_of_mem ha
    have hj' : j < l.length ∧ j < p := by simp at hj; omega
    rw [List.getElem_take]
    exact hp.lo j hj'.1 hj'.2
  · obtain ⟨j, hj, rfl⟩ := List.getElem_of_mem hb
    have hj' : p + j < l.length := by simp at hj; omega
    rw [List.getElem_drop]
    rcases List.mem_append.1 ha with ha | ha
    · obtain ⟨i, hi, rfl⟩ := List.getElem_of_mem ha
      have hi' : i < l.length ∧ i < p := by simp at hi; omega
      rw [List.getElem_take]
      rw [List.pairwise_iff_getElem] at hl
      exact hl i (p + j) hi'.1 hj' (by omega)
    · obtain rfl := List.mem_singleton.1 ha
      have h1 := hp.hi (p + j) hj' (by omega)
      have h2 := hno _ (List.getElem_mem hj')
      omega
theorem TriR.put_lo {l : List TriR} {p : Nat} {x : TriR} (hp : p ≤ l.length) {k : Nat} (hk : k < p) : (TriR.put l p x)[k]? = l[k]? := by
  unfold TriR.put
  rw [List.append_assoc, List.getElem?_append_left (by simp; omega), List.getElem?_take, if_pos hk]
theorem TriR.put_at {l : List TriR} {p : Nat} {x : TriR} (hp : p ≤ l.length) : (TriR.put l p x)[p]? = some x := by
  have e : (l.take p).length = p := by simp; omega
  unfold TriR.put
  rw [List.append_assoc, List.getElem?_append_right (by omega), e, Nat.sub_self]
  rfl
theorem TriR.put_first {l : List TriR} {p : Nat} {x : TriR} (hp : TriR.Place l x.i p) : TriR.IsFirst (TriR.put l p x) x.i p := by
  have hlen := TriR.put_len (x := x) hp.le
  have hple := hp.le
  refine Or.inr ⟨p, by omega, rfl, ?_, fun k hk => ?_⟩
  · have h := TriR.put_at (x := x) hple
    rw [List.getElem?_eq_getElem (by omega)] at h
    rw [Option.some.inj h]
  · have hkl : k < l.length := by omega
    have h := TriR.put_lo (x := x) hple hk
    rw [List.getElem?_eq_getElem (by omega), List.getElem?_eq_getElem hkl] at h
    rw [Option.some.inj h]
    have := hp.lo k hkl hk
    omega
theorem TriR.put_back {l : List TriR} {p : Nat} {x : TriR} (h : p ≤ l.length) : (TriR.put l p x).take p ++ (TriR.put l p x).drop (p + 1) = l := by
  unfold TriR.put
  have e : (l.take p).length = p := by simp; omega
  rw [List.append_assoc, List.take_left' e, List.drop_append, e, List.drop_eq_nil_of_le (by omega), show p + 1 - p = 1 by omega]
  simp
theorem TriR.rise_eq : ∀ {l m : List TriR}, TriR.Rise l → TriR.Rise m → l.Perm m → l = m
  | [], m, _, _, h => h.nil_eq
  | a :: l, [], _, _, h => absurd h.length_eq (by simp)
  | a :: l, b :: m, hl, hm, h => by
    unfold TriR.Rise at hl hm
    rw [List.pairwise_cons] at hl hm
    have hab : a = b := by
      have h1 : a ∈ b :: m := h.mem_iff.1 List.mem_cons_self
      have h2 : b ∈ a :: l := h.mem_iff.2 List.mem_cons_self
      rcases List.mem_cons.1 h1 with h1 | h1
      · exact h1
      · rcases List.mem_cons.1 h2 with h2 | h2
        · exact h2.symm
        · have q1 := hm.1 a h1
          have q2 := hl.1 b h2
          omega
    subst hab
    rw [TriR.rise_eq hl.2 hm.2 ((List.perm_cons a).1 h)]

end Go.Proofs.YtonngfogbnfbnaaGreat

/- Package soup: what AddTri and Drop come to, whatever is asked. -/
namespace Go.Proofs.YtonngfogbnfbnaaGreat
open Go.RowKit
set_option linter.unusedVariables false

/-- What AddTri answers: the lists, and the error. -/
inductive AddT (C : CfgR) (S : SoupV) (x : TriR) : List TriR → List BoxR → List HopR → Int → Prop
  | err (h : S.err C ≠ 0) : AddT C S x [] [] [] (S.err C)
  | wrong (h : S.err C = 0) (hm : x.may C = false) : AddT C S x [] [] [] 40
  | twice (h : S.err C = 0) (hm : x.may C = true) (p : Nat) (hp : TriR.Place S.ts x.i p) (hh : TriR.hit S.ts x.i p = true) : AddT C S x [] [] [] 50
  | full (h : S.err C = 0) (hm : x.may C = true) (p : Nat) (hp : TriR.Place S.ts x.i p) (hh : TriR.hit S.ts x.i p = false) (hf : S.ts.length = 200) : AddT C S x [] [] [] 51
  | ok (h : S.err C = 0) (hm : x.may C = true) (p : Nat) (hp : TriR.Place S.ts x.i p) (hh : TriR.hit S.ts x.i p = false) (hf : S.ts.length ≠ 200) : AddT C S x (TriR.put S.ts p x) S.bs S.hs 0

theorem SoupV.err_zero {C : CfgR} {S : SoupV} (h : S.err C = 0) : C.err = 0 ∧ TriR.listB C S.ts = true ∧ BoxR.listB C S.bs = true ∧ HopR.listB C S.hs = true := by
  unfold SoupV.err at h
  by_cases hc : C.err ≠ 0
  · rw [if_pos hc] at h; cases h
  · rw [if_neg hc] at h
    split at h
    · exact ⟨by simpa using hc, ‹_›⟩
    · cases h
theorem SoupV.err_mk {C : CfgR} {S : SoupV} (h : C.err = 0 ∧ TriR.listB C S.ts = true ∧ BoxR.listB C S.bs = true ∧ HopR.listB C S.hs = true) : S.err C = 0 := by
  unfold SoupV.err
  rw [if_neg (by simp [h.1]), if_pos h.2]
theorem SoupV.err_two (C : CfgR) (S : SoupV) : S.err C = 0 ∨ S.err C = 2 ∨ S.err C = 20 := by
  unfold SoupV.err
  split
  · exact Or.inr (Or.inr rfl)
  · split
    · exact Or.inl rfl
    · exact Or.inr (Or.inl rfl)

theorem addT_any (C : CfgR) (S : SoupV) (x : TriR) (hf : S.few) : ∃ T B H er, AddT C S x T B H er ∧ ∀ w, S.ok w →
    Calls Tryz.prog 18 #[.agg #[.int .i64 C.cl, .int .i64 C.cb, .int .i64 C.ht, .int .i64 C.ri, .int .i64 C.ru, .int .i64 C.wd, .int .i64 C.dp], .agg #[.slice S.a0 S.ts.length S.c0, .slice S.a1 S.bs.length S.c1, .slice S.a2 S.hs.length S.c2], .agg #[.int .i64 x.i, .int .i64 x.x0, .int .i64 x.y0, .int .i64 x.z0, .int .i64 x.x1, .int .i64 x.y1, .int .i64 x.z1, .int .i64 x.x2, .int .i64 x.y2, .int .i64 x.z2]] w (SoupE T B H er w) := by
  by_cases he : S.err C = 0
  rotate_left
  · exact ⟨_, _, _, _, .err he, fun w hS => t_Add C S x _ _ _ _ w fun W n => t_add_err C S x W (hS.keep n) _ rfl he⟩
  cases hm : x.may C
  · exact ⟨_, _, _, _, .wrong he hm, fun w hS => t_Add C S x _ _ _ _ w fun W n => t_add_wrong C S x W (hS.keep n) he hm⟩
  obtain ⟨p, hp⟩ := TriR.place (TriR.listB_iff.1 (SoupV.err_zero he).2.1).2.2 x.i
  cases hh : TriR.hit S.ts x.i p
  · by_cases hl : S.ts.length = 200
    · exact ⟨_, _, _, _, .full he hm p hp hh hl, fun w hS => t_Add C S x _ _ _ _ w fun W n => t_add_full C S x W (hS.keep n) he hm (by have := hf.t; omega) p hp hh hl⟩
    · exact ⟨_, _, _, _, .ok he hm p hp hh hl, fun w hS => t_Add C S x _ _ _ _ w fun W n => t_add_ok C S x W (hS.keep n) he hm hf.t hf.b hf.h p hp hh hl⟩
  · exact ⟨_, _, _, _, .twice he hm p hp hh, fun w hS => t_Add C S x _ _ _ _ w fun W n => t_add_twice C S x W (hS.keep n) he hm (by have := hf.t; omega) p hp hh⟩

/-- What Drop answers. -/
inductive DropS (S : SoupV) (kind id : Int) : List TriR → List BoxR → List HopR → Int → Prop
  | arg (h0 : kind ≠ 0) (h1 : kind ≠ 1) (h2 : kind ≠ 2) : DropS S kind id [] [] [] 2
  | none0 (h : kind = 0) (hz : TriR.IsFirst S.ts id (-1)) : DropS S kind id [] [] [] 4
  | none1 (h : kind = 1) (hz : BoxR.IsFirst S.bs id (-1)) : DropS S kind id [] [] [] 4
  | none2 (h : kind = 2) (hz : HopR.IsFirst S.hs id (-1)) : DropS S kind id [] [] [] 4
  | some0 (h : kind = 0) (j : Nat) (hj : j < S.ts.length) (hz : TriR.IsFirst S.ts id j) : DropS S kind id (S.ts.take j ++ S.ts.drop (j + 1)) S.bs S.hs 0
  | some1 (h : kind = 1) (j : Nat) (hj : j < S.bs.length) (hz : BoxR.IsFirst S.bs id j) : DropS S kind id S.ts (S.bs.take j ++ S.bs.drop (j + 1)) S.hs 0
  | some2 (h : kind = 2) (j : Nat) (hj : j < S.hs.length) (hz : HopR.IsFirst S.hs id j) : DropS S kind id S.ts S.bs (S.hs.take j ++ S.hs.drop (j + 1)) 0

theorem drop_any (S : SoupV) (kind id : Int) (hf : S.few) : ∃ T B H er, DropS S kind id T B H er ∧ ∀ w, S.ok w →
    Calls Tryz.prog 12 #[.agg #[.slice S.a0 S.ts.length S.c0, .slice S.a1 S.bs.length S.c1, .slice S.a2 S.hs.length S.c2], .int .i64 kind, .int .i64 id] w (SoupE T B H er w) := by
  have f1 := hf.t
  have f2 := hf.b
  have f3 := hf.h
  by_cases h0 : kind = 0
  · subst h0
    obtain ⟨z, hz⟩ := TriR.isFirst S.ts id
    have hz0 := hz
    rcases hz0 with ⟨rfl, _⟩ | ⟨j, hj, rfl, _⟩
    · exact ⟨_, _, _, _, .none0 rfl hz, fun w hS => t_Drop S _ _ _ _ _ w fun W n => t_drop_none S _ hz W (hS.keep n)⟩
    · exact ⟨_, _, _, _, .some0 rfl j hj hz, fun w hS => t_Drop S _ _ _ _ _ w fun W n => t_drop_some S _ j hj hz W (hS.keep n) (by omega) (by omega) (by omega)⟩
  by_cases h1 : kind = 1
  · subst h1
    obtain ⟨z, hz⟩ := BoxR.isFirst S.bs id
    have hz0 := hz
    rcases hz0 with ⟨rfl, _⟩ | ⟨j, hj, rfl, _⟩
    · exact ⟨_, _, _, _, .none1 rfl hz, fun w hS => b_Drop S _ _ _ _ _ w fun W n => b_drop_none S _ hz W (hS.keep n)⟩
    · exact ⟨_, _, _, _, .some1 rfl j hj hz, fun w hS => b_Drop S _ _ _ _ _ w fun W n => b_drop_some S _ j hj hz W (hS.keep n) (by omega) (by omega) (by omega)⟩
  by_cases h2 : kind = 2
  · subst h2
    obtain ⟨z, hz⟩ := HopR.isFirst S.hs id
    have hz0 := hz
    rcases hz0 with ⟨rfl, _⟩ | ⟨j, hj, rfl, _⟩
    · exact ⟨_, _, _, _, .none2 rfl hz, fun w hS => h_Drop S _ _ _ _ _ w fun W n => h_drop_none S _ hz W (hS.keep n)⟩
    · exact ⟨_, _, _, _, .some2 rfl j hj hz, fun w hS => h_Drop S _ _ _ _ _ w fun W n => h_drop_some S _ j hj hz W (hS.keep n) (by omega) (by omega) (by omega)⟩
  · exact ⟨_, _, _, _, .arg h0 h1 h2, fun w hS => s_Drop_arg S kind id h0 h1 h2 w⟩

end Go.Proofs.YtonngfogbnfbnaaGreat
