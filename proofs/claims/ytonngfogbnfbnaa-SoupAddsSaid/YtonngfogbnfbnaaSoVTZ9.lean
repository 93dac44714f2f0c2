import Derived.Test.YtonngfogbnfbnaaSoGZ9
import Derived.Test.YtonngfogbnfbnaaSoSZ9
import Derived.Test.YtonngfogbnfbnaaLoose

/- Package soup: AddTri, AddBox, AddHop, over what adds. -/
namespace Go.Proofs.Ytonngfogbnfbnaa
open Go.RowKit
set_option linter.unusedVariables false

def t_AdV (C : CfgR) (S : SoupV) (x : TriR) (er : Int) (T : List TriR) (B : List BoxR) (H : List HopR) (b : Nat) : Nat → World → Value → Prop
  | 0, _, v => v = .agg #[.int .i64 C.cl, .int .i64 C.cb, .int .i64 C.ht, .int .i64 C.ri, .int .i64 C.ru, .int .i64 C.wd, .int .i64 C.dp]
  | 1, _, v => v = .agg #[.slice S.a0 S.ts.length S.c0, .slice S.a1 S.bs.length S.c1, .slice S.a2 S.hs.length S.c2]
  | 2, _, v => v = .agg #[.int .i64 x.i, .int .i64 x.x0, .int .i64 x.y0, .int .i64 x.z0, .int .i64 x.x1, .int .i64 x.y1, .int .i64 x.z1, .int .i64 x.x2, .int .i64 x.y2, .int .i64 x.z2]
  | 3, _, v => v = .agg #[.func (.func 58) #[] #[], .func (.func 59) #[] #[], .int .i64 200, .int .i64 40, .func (.func 60) #[] #[]]
  | 4, w, v => ∃ S' : SoupV, v = .tuple #[.agg #[.slice S'.a0 S'.ts.length S'.c0, .slice S'.a1 S'.bs.length S'.c1, .slice S'.a2 S'.hs.length S'.c2], .int .i64 er] ∧ S'.ok w ∧ S'.own (b + 1 + 1 + 1 + 1) ∧ S'.ts = T ∧ S'.bs = B ∧ S'.hs = H
  | 5, w, v => ∃ S' : SoupV, v = .agg #[.slice S'.a0 S'.ts.length S'.c0, .slice S'.a1 S'.bs.length S'.c1, .slice S'.a2 S'.hs.length S'.c2] ∧ S'.ok w ∧ S'.own (b + 1 + 1 + 1 + 1) ∧ S'.ts = T ∧ S'.bs = B ∧ S'.hs = H
  | _, w, v => v = .int .i64 er
theorem t_AdV_keep {C : CfgR} {S : SoupV} {x : TriR} {er : Int} {T : List TriR} {B : List BoxR} {H : List HopR} {b : Nat} : ∀ i w w' v, t_AdV C S x er T B H b i w v → New w w' → t_AdV C S x er T B H b i w' v := by
  intro i w w' v h hn
  rcases (show i = 0 ∨ i = 1 ∨ i = 2 ∨ i = 3 ∨ i = 4 ∨ i = 5 ∨ 6 ≤ i by omega) with rfl | rfl | rfl | rfl | rfl | rfl | hi
  · exact h
  · exact h
  · exact h
  · exact h
  · obtain ⟨S', e, h1, h2⟩ := h; exact ⟨S', e, h1.keep hn, h2⟩
  · obtain ⟨S', e, h1, h2⟩ := h; exact ⟨S', e, h1.keep hn, h2⟩
  · obtain ⟨k, rfl⟩ : ∃ k, i = k + 6 := ⟨i - 6, by omega⟩
    exact h

set_option maxHeartbeats 4000000 in
set_option maxRecDepth 100000 in
theorem t_Add (C : CfgR) (S : SoupV) (x : TriR) (er : Int) (T : List TriR) (B : List BoxR) (H : List HopR) (w : World)
    (hD : ∀ W, New w W → Calls Try.prog 22 #[.agg #[.int .i64 C.cl, .int .i64 C.cb, .int .i64 C.ht, .int .i64 C.ri, .int .i64 C.ru, .int .i64 C.wd, .int .i64 C.dp], .agg #[.slice S.a0 S.ts.length S.c0, .slice S.a1 S.bs.length S.c1, .slice S.a2 S.hs.length S.c2], .agg #[.int .i64 x.i, .int .i64 x.x0, .int .i64 x.y0, .int .i64 x.z0, .int .i64 x.x1, .int .i64 x.y1, .int .i64 x.z1, .int .i64 x.x2, .int .i64 x.y2, .int .i64 x.z2], .agg #[.func (.func 58) #[] #[], .func (.func 59) #[] #[], .int .i64 200, .int .i64 40, .func (.func 60) #[] #[]]] W (SoupE T B H er W)) :
    Calls Try.prog 8 #[.agg #[.int .i64 C.cl, .int .i64 C.cb, .int .i64 C.ht, .int .i64 C.ri, .int .i64 C.ru, .int .i64 C.wd, .int .i64 C.dp], .agg #[.slice S.a0 S.ts.length S.c0, .slice S.a1 S.bs.length S.c1, .slice S.a2 S.hs.length S.c2], .agg #[.int .i64 x.i, .int .i64 x.x0, .int .i64 x.y0, .int .i64 x.z0, .int .i64 x.x1, .int .i64 x.y1, .int .i64 x.z1, .int .i64 x.x2, .int .i64 x.y2, .int .i64 x.z2]] w (SoupE T B H er w) := by
  have HD := Lib.hid hD
  have HK := Lib.hid (fun W => t_kind W)
  clear hD
  go_enter Try.func8, Try.ntmps8
  go_upto_region 1 with fail
  generalize hW : World.alloc _ _ = W
  have hn : New w W := by subst hW; (repeat (first | (with_reducible exact New.refl _) | (with_reducible assumption) | ((with_reducible refine New.setB ?_ ?_ _); focus (first | omega | (simp; omega) | (simp; done))) | (with_reducible refine New.alloc ?_ _) | (with_reducible refine New.drew ?_) | (with_reducible refine New.drewN ?_ _) | (with_reducible refine New.hat ?_ _) | ((with_reducible apply New.snart); (with_reducible assumption))))
  ((have g0 : World.cell? (W) ⟨w.heap.size, 0, none⟩ = some (.int .i64 C.cl) := (by subst hW; go_simp)); (have g1 : World.cell? (W) ⟨w.heap.size, 1, none⟩ = some (.int .i64 C.cb) := (by subst hW; go_simp)); (have g2 : World.cell? (W) ⟨w.heap.size, 2, none⟩ = some (.int .i64 C.ht) := (by subst hW; go_simp)); (have g3 : World.cell? (W) ⟨w.heap.size, 3, none⟩ = some (.int .i64 C.ri) := (by subst hW; go_simp)); (have g4 : World.cell? (W) ⟨w.heap.size, 4, none⟩ = some (.int .i64 C.ru) := (by subst hW; go_simp)); (have g5 : World.cell? (W) ⟨w.heap.size, 5, none⟩ = some (.int .i64 C.wd) := (by subst hW; go_simp)); (have g6 : World.cell? (W) ⟨w.heap.size, 6, none⟩ = some (.int .i64 C.dp) := (by subst hW; go_simp)))
  have q0 : W.cell? ⟨w.heap.size + 1, 0, none⟩ = some (.slice S.a0 S.ts.length S.c0) := by subst hW; go_simp
  have q1 : W.cell? ⟨w.heap.size + 1, 1, none⟩ = some (.slice S.a1 S.bs.length S.c1) := by subst hW; go_simp
  have q2 : W.cell? ⟨w.heap.size + 1, 2, none⟩ = some (.slice S.a2 S.hs.length S.c2) := by subst hW; go_simp
  ((have x0 : World.cell? (W) ⟨w.heap.size + 1 + 1, 0, none⟩ = some (.int .i64 x.i) := (by subst hW; go_simp)); (have x1 : World.cell? (W) ⟨w.heap.size + 1 + 1, 1, none⟩ = some (.int .i64 x.x0) := (by subst hW; go_simp)); (have x2 : World.cell? (W) ⟨w.heap.size + 1 + 1, 2, none⟩ = some (.int .i64 x.y0) := (by subst hW; go_simp)); (have x3 : World.cell? (W) ⟨w.heap.size + 1 + 1, 3, none⟩ = some (.int .i64 x.z0) := (by subst hW; go_simp)); (have x4 : World.cell? (W) ⟨w.heap.size + 1 + 1, 4, none⟩ = some (.int .i64 x.x1) := (by subst hW; go_simp)); (have x5 : World.cell? (W) ⟨w.heap.size + 1 + 1, 5, none⟩ = some (.int .i64 x.y1) := (by subst hW; go_simp)); (have x6 : World.cell? (W) ⟨w.heap.size + 1 + 1, 6, none⟩ = some (.int .i64 x.z1) := (by subst hW; go_simp)); (have x7 : World.cell? (W) ⟨w.heap.size + 1 + 1, 7, none⟩ = some (.int .i64 x.x2) := (by subst hW; go_simp)); (have x8 : World.cell? (W) ⟨w.heap.size + 1 + 1, 8, none⟩ = some (.int .i64 x.y2) := (by subst hW; go_simp)); (have x9 : World.cell? (W) ⟨w.heap.size + 1 + 1, 9, none⟩ = some (.int .i64 x.z2) := (by subst hW; go_simp)))
  have fz : Thr W (w.heap.size + 1 + 1 + 1) 3 := by subst hW; exact Thr.new _ _ _ _ (by simp)
  clear hW
  refine wp_region_loose 7 (t_AdV C S x er T B H w.heap.size) (by kernel_rfl) (by kernel_rfl) t_AdV_keep ?_ ?_
  · intro i o hi ho a' w' nn hr hd
    rcases (show i = 0 ∨ i = 1 ∨ i = 2 ∨ i = 3 ∨ i = 4 ∨ i = 5 ∨ i = 6 by omega) with rfl | rfl | rfl | rfl | rfl | rfl | rfl <;> obtain rfl := Option.some.inj ho
    · have r3 : (a'.tmps[3]?).getD undef = .pointer (some ⟨w.heap.size, 0, none⟩) := (eval_get a' 3).symm.trans (hr 3 (by kernel_rfl))
      (replace g0 := New.keep (nn) g0; replace g1 := New.keep (nn) g1; replace g2 := New.keep (nn) g2; replace g3 := New.keep (nn) g3; replace g4 := New.keep (nn) g4; replace g5 := New.keep (nn) g5; replace g6 := New.keep (nn) g6)
      exact yields_value (.agg #[.int .i64 C.cl, .int .i64 C.cb, .int .i64 C.ht, .int .i64 C.ri, .int .i64 C.ru, .int .i64 C.wd, .int .i64 C.dp]) (by go_simp) ⟨New.refl _, rfl⟩
    · have r3 : (a'.tmps[4]?).getD undef = .pointer (some ⟨w.heap.size + 1, 0, none⟩) := (eval_get a' 4).symm.trans (hr 4 (by kernel_rfl))
      have y0 := nn.keep q0
      have y1 := nn.keep q1
      have y2 := nn.keep q2
      exact yields_value (.agg #[.slice S.a0 S.ts.length S.c0, .slice S.a1 S.bs.length S.c1, .slice S.a2 S.hs.length S.c2]) (by go_simp) ⟨New.refl _, rfl⟩
    · have r3 : (a'.tmps[5]?).getD undef = .pointer (some ⟨w.heap.size + 1 + 1, 0, none⟩) := (eval_get a' 5).symm.trans (hr 5 (by kernel_rfl))
      (replace x0 := New.keep (nn) x0; replace x1 := New.keep (nn) x1; replace x2 := New.keep (nn) x2; replace x3 := New.keep (nn) x3; replace x4 := New.keep (nn) x4; replace x5 := New.keep (nn) x5; replace x6 := New.keep (nn) x6; replace x7 := New.keep (nn) x7; replace x8 := New.keep (nn) x8; replace x9 := New.keep (nn) x9)
      exact yields_value (.agg #[.int .i64 x.i, .int .i64 x.x0, .int .i64 x.y0, .int .i64 x.z0, .int .i64 x.x1, .int .i64 x.y1, .int .i64 x.z1, .int .i64 x.x2, .int .i64 x.y2, .int .i64 x.z2]) (by go_simp) ⟨New.refl _, rfl⟩
    · exact yields_enter 23 #[] (by go_simp) ((HK.out _).mono fun e w'' ⟨he, hn⟩ => ⟨_, he, hn, rfl⟩)
    · have e0 : a'.eval (.tmp 8) = .agg #[.int .i64 C.cl, .int .i64 C.cb, .int .i64 C.ht, .int .i64 C.ri, .int .i64 C.ru, .int .i64 C.wd, .int .i64 C.dp] := hd 0 8 (by omega) (by kernel_rfl) (by kernel_rfl)
      have e1 : a'.eval (.tmp 9) = .agg #[.slice S.a0 S.ts.length S.c0, .slice S.a1 S.bs.length S.c1, .slice S.a2 S.hs.length S.c2] := hd 1 9 (by omega) (by kernel_rfl) (by kernel_rfl)
      have e2 : a'.eval (.tmp 10) = .agg #[.int .i64 x.i, .int .i64 x.x0, .int .i64 x.y0, .int .i64 x.z0, .int .i64 x.x1, .int .i64 x.y1, .int .i64 x.z1, .int .i64 x.x2, .int .i64 x.y2, .int .i64 x.z2] := hd 2 10 (by omega) (by kernel_rfl) (by kernel_rfl)
      have e3 : a'.eval (.tmp 11) = .agg #[.func (.func 58) #[] #[], .func (.func 59) #[] #[], .int .i64 200, .int .i64 40, .func (.func 60) #[] #[]] := hd 3 11 (by omega) (by kernel_rfl) (by kernel_rfl)
      have r0 : (a'.tmps[8]?).getD undef = _ := (eval_get a' 8).symm.trans e0
      have r1 : (a'.tmps[9]?).getD undef = _ := (eval_get a' 9).symm.trans e1
      have r2 : (a'.tmps[10]?).getD undef = _ := (eval_get a' 10).symm.trans e2
      have r3 : (a'.tmps[11]?).getD undef = _ := (eval_get a' 11).symm.trans e3
      refine yields_enter 22 #[.agg #[.int .i64 C.cl, .int .i64 C.cb, .int .i64 C.ht, .int .i64 C.ri, .int .i64 C.ru, .int .i64 C.wd, .int .i64 C.dp], .agg #[.slice S.a0 S.ts.length S.c0, .slice S.a1 S.bs.length S.c1, .slice S.a2 S.hs.length S.c2], .agg #[.int .i64 x.i, .int .i64 x.x0, .int .i64 x.y0, .int .i64 x.z0, .int .i64 x.x1, .int .i64 x.y1, .int .i64 x.z1, .int .i64 x.x2, .int .i64 x.y2, .int .i64 x.z2], .agg #[.func (.func 58) #[] #[], .func (.func 59) #[] #[], .int .i64 200, .int .i64 40, .func (.func 60) #[] #[]]] (by go_simp) ((HD.out _ (hn.trans nn)).mono ?_)
      rintro e w'' ⟨S', he, h1, h2, h3, h4, h5, h6⟩
      refine ⟨_, he, h6, S', rfl, h1, h5.mono ?_, h2, h3, h4⟩
      have := fz.lt (by omega)
      have := nn.size
      omega
    · obtain ⟨S', e3, h1⟩ : ∃ S' : SoupV, a'.eval (.tmp 12) = .tuple #[.agg #[.slice S'.a0 S'.ts.length S'.c0, .slice S'.a1 S'.bs.length S'.c1, .slice S'.a2 S'.hs.length S'.c2], .int .i64 er] ∧ S'.ok w' ∧ S'.own (w.heap.size + 1 + 1 + 1 + 1) ∧ S'.ts = T ∧ S'.bs = B ∧ S'.hs = H := hd 4 12 (by omega) (by kernel_rfl) (by kernel_rfl)
      have r3 : (a'.tmps[12]?).getD undef = _ := (eval_get a' 12).symm.trans e3
      exact yields_value (.agg #[.slice S'.a0 S'.ts.length S'.c0, .slice S'.a1 S'.bs.length S'.c1, .slice S'.a2 S'.hs.length S'.c2]) (by go_simp) ⟨New.refl _, S', rfl, h1⟩
    · obtain ⟨S', e3, h1⟩ : ∃ S' : SoupV, a'.eval (.tmp 12) = .tuple #[.agg #[.slice S'.a0 S'.ts.length S'.c0, .slice S'.a1 S'.bs.length S'.c1, .slice S'.a2 S'.hs.length S'.c2], .int .i64 er] ∧ S'.ok w' ∧ S'.own (w.heap.size + 1 + 1 + 1 + 1) ∧ S'.ts = T ∧ S'.bs = B ∧ S'.hs = H := hd 4 12 (by omega) (by kernel_rfl) (by kernel_rfl)
      have r3 : (a'.tmps[12]?).getD undef = _ := (eval_get a' 12).symm.trans e3
      exact yields_value (.int .i64 er) (by go_simp) ⟨New.refl _, rfl⟩
  · intro vs w' nn hv
    obtain ⟨S', e4, h1, h2, h3⟩ : ∃ S' : SoupV, vs 5 = .agg #[.slice S'.a0 S'.ts.length S'.c0, .slice S'.a1 S'.bs.length S'.c1, .slice S'.a2 S'.hs.length S'.c2] ∧ S'.ok w' ∧ S'.own (w.heap.size + 1 + 1 + 1 + 1) ∧ S'.ts = T ∧ S'.bs = B ∧ S'.hs = H := hv 5 (by omega)
    have e5 : vs 6 = .int .i64 er := hv 6 (by omega)
    simp only [List.take_succ_cons, List.take_zero, List.drop_succ_cons, List.drop_zero, putL, Act.put, List.setIfInBounds_toArray, List.set_cons_zero, List.set_cons_succ, Nat.reduceAdd, Nat.zero_add]
    rw [e4, e5]
    have H1 := Lib.hid (And.intro h1 (And.intro h2 h3))
    clear hv e4 e5 q0 q1 q2 h1 h2 h3 HD HK
    clear x0 x1 x2 x3 x4 x5 x6 x7 x8 x9
    clear g0 g1 g2 g3 g4 g5 g6
    go_wp2_with (refine wpList_store_row rfl 28 _ _ rfl _ _ rfl rfl (fz.keep nn) (by kernel_rfl) (by intro v hv; simp at hv; rcases hv with rfl | rfl | rfl <;> rfl) (fun Z nZ kZ cZ => ?_))
    have nz := nZ w (hn.trans nn) (by omega)
    have okz := SoupV.ok_but H1.out.1 H1.out.2.1 (by omega) kZ
    have r0 := cZ 0 (by simp)
    have r1 := cZ 1 (by simp)
    have r2 := cZ 2 (by simp)
    simp only [Nat.zero_add, List.getElem_cons_zero, List.getElem_cons_succ] at r0 r1 r2
    clear nZ kZ cZ
    refine bodyPost_ret (v := .tuple #[.agg #[.slice S'.a0 S'.ts.length S'.c0, .slice S'.a1 S'.bs.length S'.c1, .slice S'.a2 S'.hs.length S'.c2], .int .i64 er]) (by simp [results, Try.results8, go_sem, r0, r1, r2]) rfl ?_
    exact ⟨S', rfl, okz, H1.out.2.2.1, H1.out.2.2.2.1, H1.out.2.2.2.2, H1.out.2.1.mono (by omega), nz⟩

end Go.Proofs.Ytonngfogbnfbnaa
