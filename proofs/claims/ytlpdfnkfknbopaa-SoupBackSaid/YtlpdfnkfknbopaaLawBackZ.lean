import Derived.Test.YtlpdfnkfknbopaaLawOthersZ
import Derived.Test.YtlpdfnkfknbopaaWholeJ
import Derived.Test.YtlpdfnkfknbopaaRows
import Derived.WalkKit
import Derived.ProofKit
import Derived.OpenShut
import Derived.ShutString
import Derived.ChangeOld
import Derived.Below
import Derived.Carry
import Derived.Outline
import Derived.Deep.DeepCutAuto
import Derived.Deep.LoopGhost

/- Package soup: two added in either order. No walk. -/
namespace Go.Proofs.Ytlpdfnkfknbopaa
open Go.RowKit
set_option linter.unusedVariables false

theorem AddT.zero_iff {C : CfgR} {S : SoupV} {x : TriR} {T : List TriR} {B : List BoxR} {H : List HopR} {er : Int} (h : AddT C S x T B H er) : er = 0 ↔ (S.err C = 0 ∧ x.may C = true ∧ (∀ y ∈ S.ts, y.i ≠ x.i) ∧ S.ts.length ≠ 200) := by
  cases h with
  | err h => exact ⟨fun h0 => absurd h0 h, fun h0 => absurd h0.1 h⟩
  | wrong h hm => exact ⟨fun h0 => by omega, fun h0 => by rw [hm] at h0; exact absurd h0.2.1 (by simp)⟩
  | twice h hm p hp hh =>
    refine ⟨fun h0 => by omega, fun h0 => ?_⟩
    have hr := (TriR.listB_iff.1 (SoupV.err_zero h).2.1).2.2
    obtain ⟨y, hy, he⟩ := (TriR.hit_iff hr hp).1 hh
    exact absurd he (h0.2.2.1 y hy)
  | full h hm p hp hh hf => exact ⟨fun h0 => by omega, fun h0 => absurd hf h0.2.2.2⟩
  | ok h hm p hp hh hf =>
    refine ⟨fun _ => ⟨h, hm, fun y hy he => ?_, hf⟩, fun _ => rfl⟩
    have hr := (TriR.listB_iff.1 (SoupV.err_zero h).2.1).2.2
    rw [(TriR.hit_iff hr hp).2 ⟨y, hy, he⟩] at hh
    cases hh

/-- What is added well. -/
theorem AddT.lists {C : CfgR} {S : SoupV} {x : TriR} {T : List TriR} {B : List BoxR} {H : List HopR} {er : Int} (h : AddT C S x T B H er) (h0 : er = 0) : T.Perm (x :: S.ts) ∧ TriR.Rise T ∧ B = S.bs ∧ H = S.hs ∧ ∀ S1 : SoupV, S1.ts = T → S1.bs = B → S1.hs = H → S1.err C = 0 := by
  cases h with
  | err h => exact absurd h0 h
  | wrong h hm => omega
  | twice h hm p hp hh => omega
  | full h hm p hp hh hf => omega
  | ok h hm p hp hh hf =>
    obtain ⟨e1, e2, e3, e4⟩ := SoupV.err_zero h
    obtain ⟨l1, l2, l3⟩ := TriR.listB_iff.1 e2
    have hr := TriR.put_rise l3 hp hh
    refine ⟨TriR.put_perm _ _ _, hr, rfl, rfl, fun S1 h1 h2 h3 => SoupV.err_mk ⟨e1, ?_, by rw [h2]; exact e3, by rw [h3]; exact e4⟩⟩
    rw [h1]
    refine TriR.listB_iff.2 ⟨by rw [TriR.put_len hp.le]; omega, fun y hy => ?_, hr⟩
    rcases TriR.put_mem.1 hy with rfl | hy
    · exact hm
    · exact l2 y hy

theorem back_refused {C : CfgR} {S S1 : SoupV} {t u : TriR} {T T1 T2 : List TriR} {B B1 B2 : List BoxR} {H H1 H2 : List HopR} {g h : Int} (ht : AddT C S t T B H 0) (e1 : S1.ts = T) (hg : AddT C S1 u T1 B1 H1 g) (hh : AddT C S u T2 B2 H2 h) (h0 : h ≠ 0) : g ≠ 0 := fun hg0 => by
  have k := ht.zero_iff.1 rfl
  have kg := hg.zero_iff.1 hg0
  have hp := (ht.lists rfl).1
  rw [e1] at kg
  refine h0 (hh.zero_iff.2 ⟨k.1, kg.2.1, fun y hy => kg.2.2.1 y (hp.mem_iff.2 (List.mem_cons_of_mem _ hy)), k.2.2.2⟩)

theorem back_either {C : CfgR} {S S1 S2 : SoupV} {t u : TriR} {T T1 T2 R : List TriR} {B B1 B2 B3 : List BoxR} {H H1 H2 H3 : List HopR} {g i : Int} (ht : AddT C S t T B H 0) (e1 : S1.ts = T) (f1 : S1.bs = B) (k1 : S1.hs = H)
    (hg : AddT C S1 u T1 B1 H1 g) (hh : AddT C S u T2 B2 H2 0) (e2 : S2.ts = T2) (f2 : S2.bs = B2) (k2 : S2.hs = H2) (hi : AddT C S2 t R B3 H3 i) : (g = 0 ↔ i = 0) ∧ (g = 0 → T1 = R ∧ B1 = B3 ∧ H1 = H3) := by
  obtain ⟨a1, a2, a3, a4, a5⟩ := ht.lists rfl
  obtain ⟨b1, b2, b3, b4, b5⟩ := hh.lists rfl
  have zt := ht.zero_iff.1 rfl
  have zu := hh.zero_iff.1 rfl
  have l1 : T.length = S.ts.length + 1 := a1.length_eq
  have l2 : T2.length = S.ts.length + 1 := b1.length_eq
  have m1 : ∀ y, y ∈ S1.ts ↔ y = t ∨ y ∈ S.ts := fun y => by rw [e1, a1.mem_iff, List.mem_cons]
  have m2 : ∀ y, y ∈ S2.ts ↔ y = u ∨ y ∈ S.ts := fun y => by rw [e2, b1.mem_iff, List.mem_cons]
  have hiff : g = 0 ↔ i = 0 := by
    rw [hg.zero_iff, hi.zero_iff]
    constructor
    · rintro ⟨_, _, q, r⟩
      refine ⟨b5 S2 e2 f2 k2, zt.2.1, fun y hy => ?_, by rw [e2, l2]; rw [e1, l1] at r; exact r⟩
      rcases (m2 y).1 hy with rfl | hy
      · exact fun x => q t ((m1 t).2 (Or.inl rfl)) x.symm
      · exact zt.2.2.1 y hy
    · rintro ⟨_, _, q, r⟩
      refine ⟨a5 S1 e1 f1 k1, zu.2.1, fun y hy => ?_, by rw [e1, l1]; rw [e2, l2] at r; exact r⟩
      rcases (m1 y).1 hy with rfl | hy
      · exact fun x => q u ((m2 u).2 (Or.inl rfl)) x.symm
      · exact zu.2.2.1 y hy
  refine ⟨hiff, fun hg0 => ?_⟩
  obtain ⟨c1, c2, c3, c4, _⟩ := hg.lists hg0
  obtain ⟨d1, d2, d3, d4, _⟩ := hi.lists (hiff.1 hg0)
  refine ⟨TriR.rise_eq c2 d2 ?_, by rw [c3, d3, f1, f2, a3, b3], by rw [c4, d4, k1, k2, a4, b4]⟩
  rw [e1] at c1
  rw [e2] at d1
  exact (c1.trans (List.Perm.cons u a1)).trans ((List.Perm.swap t u S.ts).trans ((List.Perm.cons t b1).symm.trans d1.symm))

end Go.Proofs.Ytlpdfnkfknbopaa

/- Package soup: the law of what comes back, over values. -/
namespace Go.Proofs.Ytlpdfnkfknbopaa
open Go.RowKit
set_option linter.unusedVariables false

set_option maxHeartbeats 4000000 in
set_option maxRecDepth 100000 in
theorem l_back_idle (C : CfgR) (S : SoupV) (x u : TriR) (w : World) (hS : S.ok w) (hno : S.great = true ∨ C.err ≠ 0) :
    Calls Try.prog 4 #[.agg #[.int .i64 C.cl, .int .i64 C.cb, .int .i64 C.ht, .int .i64 C.ri, .int .i64 C.ru, .int .i64 C.wd, .int .i64 C.dp], .agg #[.slice S.a0 S.ts.length S.c0, .slice S.a1 S.bs.length S.c1, .slice S.a2 S.hs.length S.c2], .agg #[.int .i64 x.i, .int .i64 x.x0, .int .i64 x.y0, .int .i64 x.z0, .int .i64 x.x1, .int .i64 x.y1, .int .i64 x.z1, .int .i64 x.x2, .int .i64 x.y2, .int .i64 x.z2], .agg #[.int .i64 u.i, .int .i64 u.x0, .int .i64 u.y0, .int .i64 u.z0, .int .i64 u.x1, .int .i64 u.y1, .int .i64 u.z1, .int .i64 u.x2, .int .i64 u.y2, .int .i64 u.z2]] w fun e w' => e = .returned (.bool true) ∧ New w w' := by
  have HG := Lib.hid (fun W (n : New w W) => s_great S W (hS.keep n))
  have HW := Lib.hid s_wakes
  cases hg : S.great
  · have hce : C.err ≠ 0 := by
      rcases hno with h | h
      · rw [hg] at h; cases h
      · exact h
    have HC := Lib.hid (fun W => rcheck_any C.cl C.cb C.ht C.ri C.ru C.wd C.dp W)
    have hx : checkE C.cl C.cb C.ht C.ri C.ru C.wd C.dp = 20 := (checkE_two _ _ _ _ _ _ _).resolve_left hce
    rw [hx] at HC
    rw [hg] at HG
    clear hg hS hce hx hno
    go_enter Try.func4, Try.ntmps4
    go_wp2_with fail
    generalize hW : World.alloc _ _ = W
    have hn : New w W := by subst hW; (repeat (first | (with_reducible exact New.refl _) | (with_reducible assumption) | ((with_reducible refine New.setB ?_ ?_ _); focus (first | omega | (simp; omega) | (simp; done))) | (with_reducible refine New.alloc ?_ _) | (with_reducible refine New.drew ?_) | (with_reducible refine New.drewN ?_ _) | (with_reducible refine New.hat ?_ _) | ((with_reducible apply New.snart); (with_reducible assumption))))
    ((have g0 : World.cell? (W) ⟨w.heap.size, 0, none⟩ = some (.int .i64 C.cl) := (by subst hW; go_simp)); (have g1 : World.cell? (W) ⟨w.heap.size, 1, none⟩ = some (.int .i64 C.cb) := (by subst hW; go_simp)); (have g2 : World.cell? (W) ⟨w.heap.size, 2, none⟩ = some (.int .i64 C.ht) := (by subst hW; go_simp)); (have g3 : World.cell? (W) ⟨w.heap.size, 3, none⟩ = some (.int .i64 C.ri) := (by subst hW; go_simp)); (have g4 : World.cell? (W) ⟨w.heap.size, 4, none⟩ = some (.int .i64 C.ru) := (by subst hW; go_simp)); (have g5 : World.cell? (W) ⟨w.heap.size, 5, none⟩ = some (.int .i64 C.wd) := (by subst hW; go_simp)); (have g6 : World.cell? (W) ⟨w.heap.size, 6, none⟩ = some (.int .i64 C.dp) := (by subst hW; go_simp)))
    have q0 : W.cell? ⟨w.heap.size + 1, 0, none⟩ = some (.slice S.a0 S.ts.length S.c0) := by subst hW; go_simp
    have q1 : W.cell? ⟨w.heap.size + 1, 1, none⟩ = some (.slice S.a1 S.bs.length S.c1) := by subst hW; go_simp
    have q2 : W.cell? ⟨w.heap.size + 1, 2, none⟩ = some (.slice S.a2 S.hs.length S.c2) := by subst hW; go_simp
    ((have x0 : World.cell? (W) ⟨w.heap.size + 1 + 1, 0, none⟩ = some (.int .i64 x.i) := (by subst hW; go_simp)); (have x1 : World.cell? (W) ⟨w.heap.size + 1 + 1, 1, none⟩ = some (.int .i64 x.x0) := (by subst hW; go_simp)); (have x2 : World.cell? (W) ⟨w.heap.size + 1 + 1, 2, none⟩ = some (.int .i64 x.y0) := (by subst hW; go_simp)); (have x3 : World.cell? (W) ⟨w.heap.size + 1 + 1, 3, none⟩ = some (.int .i64 x.z0) := (by subst hW; go_simp)); (have x4 : World.cell? (W) ⟨w.heap.size + 1 + 1, 4, none⟩ = some (.int .i64 x.x1) := (by subst hW; go_simp)); (have x5 : World.cell? (W) ⟨w.heap.size + 1 + 1, 5, none⟩ = some (.int .i64 x.y1) := (by subst hW; go_simp)); (have x6 : World.cell? (W) ⟨w.heap.size + 1 + 1, 6, none⟩ = some (.int .i64 x.z1) := (by subst hW; go_simp)); (have x7 : World.cell? (W) ⟨w.heap.size + 1 + 1, 7, none⟩ = some (.int .i64 x.x2) := (by subst hW; go_simp)); (have x8 : World.cell? (W) ⟨w.heap.size + 1 + 1, 8, none⟩ = some (.int .i64 x.y2) := (by subst hW; go_simp)); (have x9 : World.cell? (W) ⟨w.heap.size + 1 + 1, 9, none⟩ = some (.int .i64 x.z2) := (by subst hW; go_simp)))
    ((have v0 : World.cell? (W) ⟨w.heap.size + 1 + 1 + 1, 0, none⟩ = some (.int .i64 u.i) := (by subst hW; go_simp)); (have v1 : World.cell? (W) ⟨w.heap.size + 1 + 1 + 1, 1, none⟩ = some (.int .i64 u.x0) := (by subst hW; go_simp)); (have v2 : World.cell? (W) ⟨w.heap.size + 1 + 1 + 1, 2, none⟩ = some (.int .i64 u.y0) := (by subst hW; go_simp)); (have v3 : World.cell? (W) ⟨w.heap.size + 1 + 1 + 1, 3, none⟩ = some (.int .i64 u.z0) := (by subst hW; go_simp)); (have v4 : World.cell? (W) ⟨w.heap.size + 1 + 1 + 1, 4, none⟩ = some (.int .i64 u.x1) := (by subst hW; go_simp)); (have v5 : World.cell? (W) ⟨w.heap.size + 1 + 1 + 1, 5, none⟩ = some (.int .i64 u.y1) := (by subst hW; go_simp)); (have v6 : World.cell? (W) ⟨w.heap.size + 1 + 1 + 1, 6, none⟩ = some (.int .i64 u.z1) := (by subst hW; go_simp)); (have v7 : World.cell? (W) ⟨w.heap.size + 1 + 1 + 1, 7, none⟩ = some (.int .i64 u.x2) := (by subst hW; go_simp)); (have v8 : World.cell? (W) ⟨w.heap.size + 1 + 1 + 1, 8, none⟩ = some (.int .i64 u.y2) := (by subst hW; go_simp)); (have v9 : World.cell? (W) ⟨w.heap.size + 1 + 1 + 1, 9, none⟩ = some (.int .i64 u.z2) := (by subst hW; go_simp)))
    clear hW
    refine (HG.out _ hn).mono ?_
    rintro e W1 ⟨rfl, n1⟩
    (replace hn := hn.trans n1; replace q0 := n1.keep q0; replace q1 := n1.keep q1; replace q2 := n1.keep q2; replace g0 := New.keep (n1) g0; replace g1 := New.keep (n1) g1; replace g2 := New.keep (n1) g2; replace g3 := New.keep (n1) g3; replace g4 := New.keep (n1) g4; replace g5 := New.keep (n1) g5; replace g6 := New.keep (n1) g6; replace x0 := New.keep (n1) x0; replace x1 := New.keep (n1) x1; replace x2 := New.keep (n1) x2; replace x3 := New.keep (n1) x3; replace x4 := New.keep (n1) x4; replace x5 := New.keep (n1) x5; replace x6 := New.keep (n1) x6; replace x7 := New.keep (n1) x7; replace x8 := New.keep (n1) x8; replace x9 := New.keep (n1) x9; replace v0 := New.keep (n1) v0; replace v1 := New.keep (n1) v1; replace v2 := New.keep (n1) v2; replace v3 := New.keep (n1) v3; replace v4 := New.keep (n1) v4; replace v5 := New.keep (n1) v5; replace v6 := New.keep (n1) v6; replace v7 := New.keep (n1) v7; replace v8 := New.keep (n1) v8; replace v9 := New.keep (n1) v9; clear n1)
    go_wp2_with fail
    refine (HC.out _).mono ?_
    rintro e W2 ⟨rfl, n2', -⟩
    have n2 : New W1 W2 := n2'
    clear n2'
    go_wp2_with fail
    refine (HW.out _).mono ?_
    rintro e W3 ⟨rfl, n3⟩
    go_wp2_with fail
    go_ret
    exact ⟨rfl, (hn.trans n2).trans n3⟩
  · rw [hg] at HG
    clear hg hS hno
    go_enter Try.func4, Try.ntmps4
    go_wp2_with fail
    generalize hW : World.alloc _ _ = W
    have hn : New w W := by subst hW; (repeat (first | (with_reducible exact New.refl _) | (with_reducible assumption) | ((with_reducible refine New.setB ?_ ?_ _); focus (first | omega | (simp; omega) | (simp; done))) | (with_reducible refine New.alloc ?_ _) | (with_reducible refine New.drew ?_) | (with_reducible refine New.drewN ?_ _) | (with_reducible refine New.hat ?_ _) | ((with_reducible apply New.snart); (with_reducible assumption))))
    ((have g0 : World.cell? (W) ⟨w.heap.size, 0, none⟩ = some (.int .i64 C.cl) := (by subst hW; go_simp)); (have g1 : World.cell? (W) ⟨w.heap.size, 1, none⟩ = some (.int .i64 C.cb) := (by subst hW; go_simp)); (have g2 : World.cell? (W) ⟨w.heap.size, 2, none⟩ = some (.int .i64 C.ht) := (by subst hW; go_simp)); (have g3 : World.cell? (W) ⟨w.heap.size, 3, none⟩ = some (.int .i64 C.ri) := (by subst hW; go_simp)); (have g4 : World.cell? (W) ⟨w.heap.size, 4, none⟩ = some (.int .i64 C.ru) := (by subst hW; go_simp)); (have g5 : World.cell? (W) ⟨w.heap.size, 5, none⟩ = some (.int .i64 C.wd) := (by subst hW; go_simp)); (have g6 : World.cell? (W) ⟨w.heap.size, 6, none⟩ = some (.int .i64 C.dp) := (by subst hW; go_simp)))
    have q0 : W.cell? ⟨w.heap.size + 1, 0, none⟩ = some (.slice S.a0 S.ts.length S.c0) := by subst hW; go_simp
    have q1 : W.cell? ⟨w.heap.size + 1, 1, none⟩ = some (.slice S.a1 S.bs.length S.c1) := by subst hW; go_simp
    have q2 : W.cell? ⟨w.heap.size + 1, 2, none⟩ = some (.slice S.a2 S.hs.length S.c2) := by subst hW; go_simp
    ((have x0 : World.cell? (W) ⟨w.heap.size + 1 + 1, 0, none⟩ = some (.int .i64 x.i) := (by subst hW; go_simp)); (have x1 : World.cell? (W) ⟨w.heap.size + 1 + 1, 1, none⟩ = some (.int .i64 x.x0) := (by subst hW; go_simp)); (have x2 : World.cell? (W) ⟨w.heap.size + 1 + 1, 2, none⟩ = some (.int .i64 x.y0) := (by subst hW; go_simp)); (have x3 : World.cell? (W) ⟨w.heap.size + 1 + 1, 3, none⟩ = some (.int .i64 x.z0) := (by subst hW; go_simp)); (have x4 : World.cell? (W) ⟨w.heap.size + 1 + 1, 4, none⟩ = some (.int .i64 x.x1) := (by subst hW; go_simp)); (have x5 : World.cell? (W) ⟨w.heap.size + 1 + 1, 5, none⟩ = some (.int .i64 x.y1) := (by subst hW; go_simp)); (have x6 : World.cell? (W) ⟨w.heap.size + 1 + 1, 6, none⟩ = some (.int .i64 x.z1) := (by subst hW; go_simp)); (have x7 : World.cell? (W) ⟨w.heap.size + 1 + 1, 7, none⟩ = some (.int .i64 x.x2) := (by subst hW; go_simp)); (have x8 : World.cell? (W) ⟨w.heap.size + 1 + 1, 8, none⟩ = some (.int .i64 x.y2) := (by subst hW; go_simp)); (have x9 : World.cell? (W) ⟨w.heap.size + 1 + 1, 9, none⟩ = some (.int .i64 x.z2) := (by subst hW; go_simp)))
    ((have v0 : World.cell? (W) ⟨w.heap.size + 1 + 1 + 1, 0, none⟩ = some (.int .i64 u.i) := (by subst hW; go_simp)); (have v1 : World.cell? (W) ⟨w.heap.size + 1 + 1 + 1, 1, none⟩ = some (.int .i64 u.x0) := (by subst hW; go_simp)); (have v2 : World.cell? (W) ⟨w.heap.size + 1 + 1 + 1, 2, none⟩ = some (.int .i64 u.y0) := (by subst hW; go_simp)); (have v3 : World.cell? (W) ⟨w.heap.size + 1 + 1 + 1, 3, none⟩ = some (.int .i64 u.z0) := (by subst hW; go_simp)); (have v4 : World.cell? (W) ⟨w.heap.size + 1 + 1 + 1, 4, none⟩ = some (.int .i64 u.x1) := (by subst hW; go_simp)); (have v5 : World.cell? (W) ⟨w.heap.size + 1 + 1 + 1, 5, none⟩ = some (.int .i64 u.y1) := (by subst hW; go_simp)); (have v6 : World.cell? (W) ⟨w.heap.size + 1 + 1 + 1, 6, none⟩ = some (.int .i64 u.z1) := (by subst hW; go_simp)); (have v7 : World.cell? (W) ⟨w.heap.size + 1 + 1 + 1, 7, none⟩ = some (.int .i64 u.x2) := (by subst hW; go_simp)); (have v8 : World.cell? (W) ⟨w.heap.size + 1 + 1 + 1, 8, none⟩ = some (.int .i64 u.y2) := (by subst hW; go_simp)); (have v9 : World.cell? (W) ⟨w.heap.size + 1 + 1 + 1, 9, none⟩ = some (.int .i64 u.z2) := (by subst hW; go_simp)))
    clear hW
    refine (HG.out _ hn).mono ?_
    rintro e W1 ⟨rfl, n1⟩
    (replace hn := hn.trans n1; replace q0 := n1.keep q0; replace q1 := n1.keep q1; replace q2 := n1.keep q2; replace g0 := New.keep (n1) g0; replace g1 := New.keep (n1) g1; replace g2 := New.keep (n1) g2; replace g3 := New.keep (n1) g3; replace g4 := New.keep (n1) g4; replace g5 := New.keep (n1) g5; replace g6 := New.keep (n1) g6; replace x0 := New.keep (n1) x0; replace x1 := New.keep (n1) x1; replace x2 := New.keep (n1) x2; replace x3 := New.keep (n1) x3; replace x4 := New.keep (n1) x4; replace x5 := New.keep (n1) x5; replace x6 := New.keep (n1) x6; replace x7 := New.keep (n1) x7; replace x8 := New.keep (n1) x8; replace x9 := New.keep (n1) x9; replace v0 := New.keep (n1) v0; replace v1 := New.keep (n1) v1; replace v2 := New.keep (n1) v2; replace v3 := New.keep (n1) v3; replace v4 := New.keep (n1) v4; replace v5 := New.keep (n1) v5; replace v6 := New.keep (n1) v6; replace v7 := New.keep (n1) v7; replace v8 := New.keep (n1) v8; replace v9 := New.keep (n1) v9; clear n1)
    go_wp2_with fail
    refine (HW.out _).mono ?_
    rintro e W3 ⟨rfl, n3⟩
    go_wp2_with fail
    go_ret
    exact ⟨rfl, hn.trans n3⟩

set_option maxHeartbeats 4000000 in
set_option maxRecDepth 100000 in
theorem l_back (C : CfgR) (S : SoupV) (x u : TriR) (w : World) (hS : S.ok w) :
    Calls Try.prog 4 #[.agg #[.int .i64 C.cl, .int .i64 C.cb, .int .i64 C.ht, .int .i64 C.ri, .int .i64 C.ru, .int .i64 C.wd, .int .i64 C.dp], .agg #[.slice S.a0 S.ts.length S.c0, .slice S.a1 S.bs.length S.c1, .slice S.a2 S.hs.length S.c2], .agg #[.int .i64 x.i, .int .i64 x.x0, .int .i64 x.y0, .int .i64 x.z0, .int .i64 x.x1, .int .i64 x.y1, .int .i64 x.z1, .int .i64 x.x2, .int .i64 x.y2, .int .i64 x.z2], .agg #[.int .i64 u.i, .int .i64 u.x0, .int .i64 u.y0, .int .i64 u.z0, .int .i64 u.x1, .int .i64 u.y1, .int .i64 u.z1, .int .i64 u.x2, .int .i64 u.y2, .int .i64 u.z2]] w fun e w' => e = .returned (.bool true) ∧ New w w' := by
  cases hg : S.great
  rotate_left
  · exact l_back_idle C S x u w hS (Or.inl hg)
  by_cases hce : C.err = 0
  rotate_left
  · exact l_back_idle C S x u w hS (Or.inr hce)
  have HG := Lib.hid (fun W (n : New w W) => by have q := s_great S W (hS.keep n); rw [hg] at q; exact q : ∀ W, New w W → Calls Try.prog 6 #[.agg #[.slice S.a0 S.ts.length S.c0, .slice S.a1 S.bs.length S.c1, .slice S.a2 S.hs.length S.c2]] W fun e w' => e = .returned (.bool false) ∧ New W w')
  have HC := Lib.hid (fun W => by have q := rcheck_any C.cl C.cb C.ht C.ri C.ru C.wd C.dp W; rw [show checkE C.cl C.cb C.ht C.ri C.ru C.wd C.dp = 0 from hce] at q; exact q : ∀ W, Calls Try.prog 15 #[.agg #[.int .i64 C.cl, .int .i64 C.cb, .int .i64 C.ht, .int .i64 C.ri, .int .i64 C.ru, .int .i64 C.wd, .int .i64 C.dp]] W fun e w' => e = .returned (.int .i64 0) ∧ Calm W w')
  have HW := Lib.hid s_wakes
  have hf := SoupV.few_of hg
  have hf2 : S.ts.length ≤ 220 ∧ S.bs.length ≤ 20 ∧ S.hs.length ≤ 20 := by
    simp only [SoupV.great, Bool.or_eq_false_iff, decide_eq_false_iff_not] at hg
    omega
  clear hg hce
  obtain ⟨T, B, H, er, hadd, hA⟩ := addT_any C S x hf
  have HA := Lib.hid (fun W (n : New w W) => hA W (hS.keep n))
  clear hA
  have hdone := hadd.done
  rcases hdone with ⟨he, rfl, rfl, rfl⟩ | ⟨rfl, he, hm, hlen, p, hp, hh, rfl, rfl, rfl⟩
  · have hb : (er != 0) = true := by simpa using he
    clear hadd he hS hf hf2
    go_enter Try.func4, Try.ntmps4
    go_wp2_with fail
    generalize hW : World.alloc _ _ = W
    have hn : New w W := by subst hW; (repeat (first | (with_reducible exact New.refl _) | (with_reducible assumption) | ((with_reducible refine New.setB ?_ ?_ _); focus (first | omega | (simp; omega) | (simp; done))) | (with_reducible refine New.alloc ?_ _) | (with_reducible refine New.drew ?_) | (with_reducible refine New.drewN ?_ _) | (with_reducible refine New.hat ?_ _) | ((with_reducible apply New.snart); (with_reducible assumption))))
    ((have g0 : World.cell? (W) ⟨w.heap.size, 0, none⟩ = some (.int .i64 C.cl) := (by subst hW; go_simp)); (have g1 : World.cell? (W) ⟨w.heap.size, 1, none⟩ = some (.int .i64 C.cb) := (by subst hW; go_simp)); (have g2 : World.cell? (W) ⟨w.heap.size, 2, none⟩ = some (.int .i64 C.ht) := (by subst hW; go_simp)); (have g3 : World.cell? (W) ⟨w.heap.size, 3, none⟩ = some (.int .i64 C.ri) := (by subst hW; go_simp)); (have g4 : World.cell? (W) ⟨w.heap.size, 4, none⟩ = some (.int .i64 C.ru) := (by subst hW; go_simp)); (have g5 : World.cell? (W) ⟨w.heap.size, 5, none⟩ = some (.int .i64 C.wd) := (by subst hW; go_simp)); (have g6 : World.cell? (W) ⟨w.heap.size, 6, none⟩ = some (.int .i64 C.dp) := (by subst hW; go_simp)))
    have q0 : W.cell? ⟨w.heap.size + 1, 0, none⟩ = some (.slice S.a0 S.ts.length S.c0) := by subst hW; go_simp
    have q1 : W.cell? ⟨w.heap.size + 1, 1, none⟩ = some (.slice S.a1 S.bs.length S.c1) := by subst hW; go_simp
    have q2 : W.cell? ⟨w.heap.size + 1, 2, none⟩ = some (.slice S.a2 S.hs.length S.c2) := by subst hW; go_simp
    ((have x0 : World.cell? (W) ⟨w.heap.size + 1 + 1, 0, none⟩ = some (.int .i64 x.i) := (by subst hW; go_simp)); (have x1 : World.cell? (W) ⟨w.heap.size + 1 + 1, 1, none⟩ = some (.int .i64 x.x0) := (by subst hW; go_simp)); (have x2 : World.cell? (W) ⟨w.heap.size + 1 + 1, 2, none⟩ = some (.int .i64 x.y0) := (by subst hW; go_simp)); (have x3 : World.cell? (W) ⟨w.heap.size + 1 + 1, 3, none⟩ = some (.int .i64 x.z0) := (by subst hW; go_simp)); (have x4 : World.cell? (W) ⟨w.heap.size + 1 + 1, 4, none⟩ = some (.int .i64 x.x1) := (by subst hW; go_simp)); (have x5 : World.cell? (W) ⟨w.heap.size + 1 + 1, 5, none⟩ = some (.int .i64 x.y1) := (by subst hW; go_simp)); (have x6 : World.cell? (W) ⟨w.heap.size + 1 + 1, 6, none⟩ = some (.int .i64 x.z1) := (by subst hW; go_simp)); (have x7 : World.cell? (W) ⟨w.heap.size + 1 + 1, 7, none⟩ = some (.int .i64 x.x2) := (by subst hW; go_simp)); (have x8 : World.cell? (W) ⟨w.heap.size + 1 + 1, 8, none⟩ = some (.int .i64 x.y2) := (by subst hW; go_simp)); (have x9 : World.cell? (W) ⟨w.heap.size + 1 + 1, 9, none⟩ = some (.int .i64 x.z2) := (by subst hW; go_simp)))
    ((have v0 : World.cell? (W) ⟨w.heap.size + 1 + 1 + 1, 0, none⟩ = some (.int .i64 u.i) := (by subst hW; go_simp)); (have v1 : World.cell? (W) ⟨w.heap.size + 1 + 1 + 1, 1, none⟩ = some (.int .i64 u.x0) := (by subst hW; go_simp)); (have v2 : World.cell? (W) ⟨w.heap.size + 1 + 1 + 1, 2, none⟩ = some (.int .i64 u.y0) := (by subst hW; go_simp)); (have v3 : World.cell? (W) ⟨w.heap.size + 1 + 1 + 1, 3, none⟩ = some (.int .i64 u.z0) := (by subst hW; go_simp)); (have v4 : World.cell? (W) ⟨w.heap.size + 1 + 1 + 1, 4, none⟩ = some (.int .i64 u.x1) := (by subst hW; go_simp)); (have v5 : World.cell? (W) ⟨w.heap.size + 1 + 1 + 1, 5, none⟩ = some (.int .i64 u.y1) := (by subst hW; go_simp)); (have v6 : World.cell? (W) ⟨w.heap.size + 1 + 1 + 1, 6, none⟩ = some (.int .i64 u.z1) := (by subst hW; go_simp)); (have v7 : World.cell? (W) ⟨w.heap.size + 1 + 1 + 1, 7, none⟩ = some (.int .i64 u.x2) := (by subst hW; go_simp)); (have v8 : World.cell? (W) ⟨w.heap.size + 1 + 1 + 1, 8, none⟩ = some (.int .i64 u.y2) := (by subst hW; go_simp)); (have v9 : World.cell? (W) ⟨w.heap.size + 1 + 1 + 1, 9, none⟩ = some (.int .i64 u.z2) := (by subst hW; go_simp)))
    clear hW
    refine (HG.out _ hn).mono ?_
    rintro e W1 ⟨rfl, n1⟩
    (replace hn := hn.trans n1; replace q0 := n1.keep q0; replace q1 := n1.keep q1; replace q2 := n1.keep q2; replace g0 := New.keep (n1) g0; replace g1 := New.keep (n1) g1; replace g2 := New.keep (n1) g2; replace g3 := New.keep (n1) g3; replace g4 := New.keep (n1) g4; replace g5 := New.keep (n1) g5; replace g6 := New.keep (n1) g6; replace x0 := New.keep (n1) x0; replace x1 := New.keep (n1) x1; replace x2 := New.keep (n1) x2; replace x3 := New.keep (n1) x3; replace x4 := New.keep (n1) x4; replace x5 := New.keep (n1) x5; replace x6 := New.keep (n1) x6; replace x7 := New.keep (n1) x7; replace x8 := New.keep (n1) x8; replace x9 := New.keep (n1) x9; replace v0 := New.keep (n1) v0; replace v1 := New.keep (n1) v1; replace v2 := New.keep (n1) v2; replace v3 := New.keep (n1) v3; replace v4 := New.keep (n1) v4; replace v5 := New.keep (n1) v5; replace v6 := New.keep (n1) v6; replace v7 := New.keep (n1) v7; replace v8 := New.keep (n1) v8; replace v9 := New.keep (n1) v9; clear n1)
    go_wp2_with fail
    refine (HC.out _).mono ?_
    rintro e W2 ⟨rfl, n2', -⟩
    have n2 : New W1 W2 := n2'
    clear n2'
    (replace hn := hn.trans n2; replace q0 := n2.keep q0; replace q1 := n2.keep q1; replace q2 := n2.keep q2; replace g0 := New.keep (n2) g0; replace g1 := New.keep (n2) g1; replace g2 := New.keep (n2) g2; replace g3 := New.keep (n2) g3; replace g4 := New.keep (n2) g4; replace g5 := New.keep (n2) g5; replace g6 := New.keep (n2) g6; replace x0 := New.keep (n2) x0; replace x1 := New.keep (n2) x1; replace x2 := New.keep (n2) x2; replace x3 := New.keep (n2) x3; replace x4 := New.keep (n2) x4; replace x5 := New.keep (n2) x5; replace x6 := New.keep (n2) x6; replace x7 := New.keep (n2) x7; replace x8 := New.keep (n2) x8; replace x9 := New.keep (n2) x9; replace v0 := New.keep (n2) v0; replace v1 := New.keep (n2) v1; replace v2 := New.keep (n2) v2; replace v3 := New.keep (n2) v3; replace v4 := New.keep (n2) v4; replace v5 := New.keep (n2) v5; replace v6 := New.keep (n2) v6; replace v7 := New.keep (n2) v7; replace v8 := New.keep (n2) v8; replace v9 := New.keep (n2) v9)
    go_wp2_with fail
    refine (HA.out _ hn).mono ?_
    rintro e W3 ⟨⟨ts, bs, hs, b0, b1, b2, d0, d1, d2⟩, rfl, k1, k2, k3, k4, k5, n3⟩
    simp only at k2 k3 k4
    subst k2 k3 k4
    replace hn := hn.trans n3
    clear k1 k5 n2 n3 HA HG HC
    go_wp2_with fail
    refine (HW.out _).mono ?_
    rintro e W4 ⟨rfl, n4⟩
    have hn4 : New w W4 := New.trans (by (repeat (first | (with_reducible exact New.refl _) | (with_reducible assumption) | ((with_reducible refine New.setB ?_ ?_ _); focus (first | omega | (simp; omega) | (simp; done))) | (with_reducible refine New.alloc ?_ _) | (with_reducible refine New.drew ?_) | (with_reducible refine New.drewN ?_ _) | (with_reducible refine New.hat ?_ _) | ((with_reducible apply New.snart); (with_reducible assumption))))) n4
    go_wp2_with fail
    go_ret
    exact ⟨rfl, hn4⟩
  · have hrise := (TriR.listB_iff.1 (SoupV.err_zero he).2.1).2.2
    have hlists := hadd.lists rfl
    have hulen : (TriR.put S.ts p x).length = S.ts.length + 1 := TriR.put_len hp.le
    have hfirst := TriR.put_first hp
    have hback := TriR.put_back (x := x) hp.le
    obtain ⟨U, hU⟩ : ∃ U, U = TriR.put S.ts p x := ⟨_, rfl⟩
    rw [← hU] at HA hulen hfirst hback hlists hadd
    have HDR : Hid (∀ (Y : SoupV) (W : World), Y.ok W → Y.ts = U → Y.bs = S.bs → Y.hs = S.hs → Calls Try.prog 16 #[.agg #[.slice Y.a0 Y.ts.length Y.c0, .slice Y.a1 Y.bs.length Y.c1, .slice Y.a2 Y.hs.length Y.c2], .int .i64 0, .int .i64 x.i] W (SoupE S.ts S.bs S.hs 0 W)) := fun Y W hok h1 h2 h3 => by
      have hpl := hp.le
      have := t_Drop Y x.i 0 (Y.ts.take p ++ Y.ts.drop (p + 1)) Y.bs Y.hs W fun V n => t_drop_some Y x.i p (by rw [h1]; omega) (by rw [h1]; exact hfirst) V (hok.keep n) (by rw [h1]; omega) (by rw [h2]; omega) (by rw [h3]; omega)
      rw [h2, h3] at this ⊢
      rw [h1] at this ⊢
      rw [hback] at this
      exact this
    have HSA : Hid (∀ (Y Z : SoupV) (W : World), Y.ok W → Z.ok W → Y.ts = Z.ts → Y.bs = Z.bs → Y.hs = Z.hs → Y.ts.length ≤ 300 → Y.bs.length ≤ 300 → Y.hs.length ≤ 300 → Calls Try.prog 17 #[.agg #[.slice Y.a0 Y.ts.length Y.c0, .slice Y.a1 Y.bs.length Y.c1, .slice Y.a2 Y.hs.length Y.c2], .agg #[.slice Z.a0 Z.ts.length Z.c0, .slice Z.a1 Z.bs.length Z.c1, .slice Z.a2 Z.hs.length Z.c2]] W fun e w' => e = .returned (.bool true) ∧ New W w') := fun Y Z W hY hZ h1 h2 h3 l1 l2 l3 => by
      have := s_same Y Z W hY hZ ⟨by omega, by omega, by omega⟩ ⟨by rw [← h1]; omega, by rw [← h2]; omega, by rw [← h3]; omega⟩
      rwa [sameS_iff.2 ⟨h1, h2, h3⟩] at this
    have HCK : Hid (∀ (Y : SoupV) (W : World), Y.ok W → Y.ts = U → Y.bs = S.bs → Y.hs = S.hs → Calls Try.prog 18 #[.agg #[.int .i64 C.cl, .int .i64 C.cb, .int .i64 C.ht, .int .i64 C.ri, .int .i64 C.ru, .int .i64 C.wd, .int .i64 C.dp], .agg #[.slice Y.a0 Y.ts.length Y.c0, .slice Y.a1 Y.bs.length Y.c1, .slice Y.a2 Y.hs.length Y.c2]] W fun e w' => e = .returned (.int .i64 0) ∧ New W w') := fun Y W hY h1 h2 h3 => by
      have := s_check C Y W hY
      rwa [hlists.2.2.2.2 Y h1 h2 h3] at this
    have hule : U.length ≤ 221 := by omega
    obtain ⟨T2, B2, H2, h, hadd2, hA2⟩ := addT_any C S u hf
    have HA2 := Lib.hid (fun W (n : New w W) => hA2 W (hS.keep n))
    have HADD := Lib.hid hadd
    have HADD2 := Lib.hid hadd2
    have HS := Lib.hid hS
    clear hA2 hlists hfirst hback hrise hm hh hp hU he hlen hulen hadd hadd2 hS hf
    go_enter Try.func4, Try.ntmps4
    go_wp2_with fail
    generalize hW : World.alloc _ _ = W
    have hn : New w W := by subst hW; (repeat (first | (with_reducible exact New.refl _) | (with_reducible assumption) | ((with_reducible refine New.setB ?_ ?_ _); focus (first | omega | (simp; omega) | (simp; done))) | (with_reducible refine New.alloc ?_ _) | (with_reducible refine New.drew ?_) | (with_reducible refine New.drewN ?_ _) | (with_reducible refine New.hat ?_ _) | ((with_reducible apply New.snart); (with_reducible assumption))))
    ((have g0 : World.cell? (W) ⟨w.heap.size, 0, none⟩ = some (.int .i64 C.cl) := (by subst hW; go_simp)); (have g1 : World.cell? (W) ⟨w.heap.size, 1, none⟩ = some (.int .i64 C.cb) := (by subst hW; go_simp)); (have g2 : World.cell? (W) ⟨w.heap.size, 2, none⟩ = some (.int .i64 C.ht) := (by subst hW; go_simp)); (have g3 : World.cell? (W) ⟨w.heap.size, 3, none⟩ = some (.int .i64 C.ri) := (by subst hW; go_simp)); (have g4 : World.cell? (W) ⟨w.heap.size, 4, none⟩ = some (.int .i64 C.ru) := (by subst hW; go_simp)); (have g5 : World.cell? (W) ⟨w.heap.size, 5, none⟩ = some (.int .i64 C.wd) := (by subst hW; go_simp)); (have g6 : World.cell? (W) ⟨w.heap.size, 6, none⟩ = some (.int .i64 C.dp) := (by subst hW; go_simp)))
    have q0 : W.cell? ⟨w.heap.size + 1, 0, none⟩ = some (.slice S.a0 S.ts.length S.c0) := by subst hW; go_simp
    have q1 : W.cell? ⟨w.heap.size + 1, 1, none⟩ = some (.slice S.a1 S.bs.length S.c1) := by subst hW; go_simp
    have q2 : W.cell? ⟨w.heap.size + 1, 2, none⟩ = some (.slice S.a2 S.hs.length S.c2) := by subst hW; go_simp
    ((have x0 : World.cell? (W) ⟨w.heap.size + 1 + 1, 0, none⟩ = some (.int .i64 x.i) := (by subst hW; go_simp)); (have x1 : World.cell? (W) ⟨w.heap.size + 1 + 1, 1, none⟩ = some (.int .i64 x.x0) := (by subst hW; go_simp)); (have x2 : World.cell? (W) ⟨w.heap.size + 1 + 1, 2, none⟩ = some (.int .i64 x.y0) := (by subst hW; go_simp)); (have x3 : World.cell? (W) ⟨w.heap.size + 1 + 1, 3, none⟩ = some (.int .i64 x.z0) := (by subst hW; go_simp)); (have x4 : World.cell? (W) ⟨w.heap.size + 1 + 1, 4, none⟩ = some (.int .i64 x.x1) := (by subst hW; go_simp)); (have x5 : World.cell? (W) ⟨w.heap.size + 1 + 1, 5, none⟩ = some (.int .i64 x.y1) := (by subst hW; go_simp)); (have x6 : World.cell? (W) ⟨w.heap.size + 1 + 1, 6, none⟩ = some (.int .i64 x.z1) := (by subst hW; go_simp)); (have x7 : World.cell? (W) ⟨w.heap.size + 1 + 1, 7, none⟩ = some (.int .i64 x.x2) := (by subst hW; go_simp)); (have x8 : World.cell? (W) ⟨w.heap.size + 1 + 1, 8, none⟩ = some (.int .i64 x.y2) := (by subst hW; go_simp)); (have x9 : World.cell? (W) ⟨w.heap.size + 1 + 1, 9, none⟩ = some (.int .i64 x.z2) := (by subst hW; go_simp)))
    ((have v0 : World.cell? (W) ⟨w.heap.size + 1 + 1 + 1, 0, none⟩ = some (.int .i64 u.i) := (by subst hW; go_simp)); (have v1 : World.cell? (W) ⟨w.heap.size + 1 + 1 + 1, 1, none⟩ = some (.int .i64 u.x0) := (by subst hW; go_simp)); (have v2 : World.cell? (W) ⟨w.heap.size + 1 + 1 + 1, 2, none⟩ = some (.int .i64 u.y0) := (by subst hW; go_simp)); (have v3 : World.cell? (W) ⟨w.heap.size + 1 + 1 + 1, 3, none⟩ = some (.int .i64 u.z0) := (by subst hW; go_simp)); (have v4 : World.cell? (W) ⟨w.heap.size + 1 + 1 + 1, 4, none⟩ = some (.int .i64 u.x1) := (by subst hW; go_simp)); (have v5 : World.cell? (W) ⟨w.heap.size + 1 + 1 + 1, 5, none⟩ = some (.int .i64 u.y1) := (by subst hW; go_simp)); (have v6 : World.cell? (W) ⟨w.heap.size + 1 + 1 + 1, 6, none⟩ = some (.int .i64 u.z1) := (by subst hW; go_simp)); (have v7 : World.cell? (W) ⟨w.heap.size + 1 + 1 + 1, 7, none⟩ = some (.int .i64 u.x2) := (by subst hW; go_simp)); (have v8 : World.cell? (W) ⟨w.heap.size + 1 + 1 + 1, 8, none⟩ = some (.int .i64 u.y2) := (by subst hW; go_simp)); (have v9 : World.cell? (W) ⟨w.heap.size + 1 + 1 + 1, 9, none⟩ = some (.int .i64 u.z2) := (by subst hW; go_simp)))
    clear hW
    refine (HG.out _ hn).mono ?_
    rintro e W1 ⟨rfl, n1⟩
    (replace hn := hn.trans n1; replace q0 := n1.keep q0; replace q1 := n1.keep q1; replace q2 := n1.keep q2; replace g0 := New.keep (n1) g0; replace g1 := New.keep (n1) g1; replace g2 := New.keep (n1) g2; replace g3 := New.keep (n1) g3; replace g4 := New.keep (n1) g4; replace g5 := New.keep (n1) g5; replace g6 := New.keep (n1) g6; replace x0 := New.keep (n1) x0; replace x1 := New.keep (n1) x1; replace x2 := New.keep (n1) x2; replace x3 := New.keep (n1) x3; replace x4 := New.keep (n1) x4; replace x5 := New.keep (n1) x5; replace x6 := New.keep (n1) x6; replace x7 := New.keep (n1) x7; replace x8 := New.keep (n1) x8; replace x9 := New.keep (n1) x9; replace v0 := New.keep (n1) v0; replace v1 := New.keep (n1) v1; replace v2 := New.keep (n1) v2; replace v3 := New.keep (n1) v3; replace v4 := New.keep (n1) v4; replace v5 := New.keep (n1) v5; replace v6 := New.keep (n1) v6; replace v7 := New.keep (n1) v7; replace v8 := New.keep (n1) v8; replace v9 := New.keep (n1) v9; clear n1)
    go_wp2_with fail
    refine (HC.out _).mono ?_
    rintro e W2 ⟨rfl, n2', -⟩
    have n2 : New W1 W2 := n2'
    clear n2'
    (replace q0 := n2.keep q0; replace q1 := n2.keep q1; replace q2 := n2.keep q2; replace g0 := New.keep (n2) g0; replace g1 := New.keep (n2) g1; replace g2 := New.keep (n2) g2; replace g3 := New.keep (n2) g3; replace g4 := New.keep (n2) g4; replace g5 := New.keep (n2) g5; replace g6 := New.keep (n2) g6; replace x0 := New.keep (n2) x0; replace x1 := New.keep (n2) x1; replace x2 := New.keep (n2) x2; replace x3 := New.keep (n2) x3; replace x4 := New.keep (n2) x4; replace x5 := New.keep (n2) x5; replace x6 := New.keep (n2) x6; replace x7 := New.keep (n2) x7; replace x8 := New.keep (n2) x8; replace x9 := New.keep (n2) x9; replace v0 := New.keep (n2) v0; replace v1 := New.keep (n2) v1; replace v2 := New.keep (n2) v2; replace v3 := New.keep (n2) v3; replace v4 := New.keep (n2) v4; replace v5 := New.keep (n2) v5; replace v6 := New.keep (n2) v6; replace v7 := New.keep (n2) v7; replace v8 := New.keep (n2) v8; replace v9 := New.keep (n2) v9; replace hn := hn.trans n2)
    clear n2 HC HG
    go_wp2_with fail
    refine (HA.out _ hn).mono ?_
    rintro e W3 ⟨⟨us, vs, zs, b0, b1, b2, d0, d1, d2⟩, rfl, k1, k2, k3, k4, k5, n3⟩
    simp only at k2 k3 k4
    subst k2 k3 k4
    have OK := Lib.hid k1
    (replace q0 := n3.keep q0; replace q1 := n3.keep q1; replace q2 := n3.keep q2; replace g0 := New.keep (n3) g0; replace g1 := New.keep (n3) g1; replace g2 := New.keep (n3) g2; replace g3 := New.keep (n3) g3; replace g4 := New.keep (n3) g4; replace g5 := New.keep (n3) g5; replace g6 := New.keep (n3) g6; replace x0 := New.keep (n3) x0; replace x1 := New.keep (n3) x1; replace x2 := New.keep (n3) x2; replace x3 := New.keep (n3) x3; replace x4 := New.keep (n3) x4; replace x5 := New.keep (n3) x5; replace x6 := New.keep (n3) x6; replace x7 := New.keep (n3) x7; replace x8 := New.keep (n3) x8; replace x9 := New.keep (n3) x9; replace v0 := New.keep (n3) v0; replace v1 := New.keep (n3) v1; replace v2 := New.keep (n3) v2; replace v3 := New.keep (n3) v3; replace v4 := New.keep (n3) v4; replace v5 := New.keep (n3) v5; replace v6 := New.keep (n3) v6; replace v7 := New.keep (n3) v7; replace v8 := New.keep (n3) v8; replace v9 := New.keep (n3) v9; replace hn := hn.trans n3)
    (have hz0 : w.heap.size < W3.heap.size := World.block_lt_of_cell? _ _ g0); (have hz1 : w.heap.size + 1 < W3.heap.size := World.block_lt_of_cell? _ _ q0); (have hz2 : w.heap.size + 1 + 1 < W3.heap.size := World.block_lt_of_cell? _ _ x0); (have hz3 : w.heap.size + 1 + 1 + 1 < W3.heap.size := World.block_lt_of_cell? _ _ v0)
    clear n3 k1 k5 HA
    go_wp2_with fail
    generalize hX : World.alloc _ _ = X
    have nX : New W3 X := by subst hX; (repeat (first | (with_reducible exact New.refl _) | (with_reducible assumption) | ((with_reducible refine New.setB ?_ ?_ _); focus (first | omega | (simp; omega) | (simp; done))) | (with_reducible refine New.alloc ?_ _) | (with_reducible refine New.drew ?_) | (with_reducible refine New.drewN ?_ _) | (with_reducible refine New.hat ?_ _) | ((with_reducible apply New.snart); (with_reducible assumption))))
    have p0 : World.cell? X ⟨W3.heap.size, 0, none⟩ = some (.slice b0 us.length d0) := by subst hX; go_simp
    have p1 : World.cell? X ⟨W3.heap.size, 1, none⟩ = some (.slice b1 S.bs.length d1) := by subst hX; go_simp
    have p2 : World.cell? X ⟨W3.heap.size, 2, none⟩ = some (.slice b2 S.hs.length d2) := by subst hX; go_simp
    clear hX
    clear hz0 hz1 hz2 hz3
    (replace q0 := nX.keep q0; replace q1 := nX.keep q1; replace q2 := nX.keep q2; replace g0 := New.keep (nX) g0; replace g1 := New.keep (nX) g1; replace g2 := New.keep (nX) g2; replace g3 := New.keep (nX) g3; replace g4 := New.keep (nX) g4; replace g5 := New.keep (nX) g5; replace g6 := New.keep (nX) g6; replace x0 := New.keep (nX) x0; replace x1 := New.keep (nX) x1; replace x2 := New.keep (nX) x2; replace x3 := New.keep (nX) x3; replace x4 := New.keep (nX) x4; replace x5 := New.keep (nX) x5; replace x6 := New.keep (nX) x6; replace x7 := New.keep (nX) x7; replace x8 := New.keep (nX) x8; replace x9 := New.keep (nX) x9; replace v0 := New.keep (nX) v0; replace v1 := New.keep (nX) v1; replace v2 := New.keep (nX) v2; replace v3 := New.keep (nX) v3; replace v4 := New.keep (nX) v4; replace v5 := New.keep (nX) v5; replace v6 := New.keep (nX) v6; replace v7 := New.keep (nX) v7; replace v8 := New.keep (nX) v8; replace v9 := New.keep (nX) v9; replace hn := hn.trans nX)
    replace OK := Lib.hid (OK.out.keep nX)
    clear nX
    refine (HDR.out ⟨us, S.bs, S.hs, b0, b1, b2, d0, d1, d2⟩ X OK.out rfl rfl rfl).mono ?_
    rintro e W4 ⟨⟨ys, ybs, yhs, e0, e1, e2, f0, f1, f2⟩, rfl, j1, j2, j3, j4, j5, n4⟩
    simp only at j2 j3 j4
    subst j2 j3 j4
    have OY := Lib.hid j1
    (replace q0 := n4.keep q0; replace q1 := n4.keep q1; replace q2 := n4.keep q2; replace p0 := n4.keep p0; replace p1 := n4.keep p1; replace p2 := n4.keep p2; replace g0 := New.keep (n4) g0; replace g1 := New.keep (n4) g1; replace g2 := New.keep (n4) g2; replace g3 := New.keep (n4) g3; replace g4 := New.keep (n4) g4; replace g5 := New.keep (n4) g5; replace g6 := New.keep (n4) g6; replace x0 := New.keep (n4) x0; replace x1 := New.keep (n4) x1; replace x2 := New.keep (n4) x2; replace x3 := New.keep (n4) x3; replace x4 := New.keep (n4) x4; replace x5 := New.keep (n4) x5; replace x6 := New.keep (n4) x6; replace x7 := New.keep (n4) x7; replace x8 := New.keep (n4) x8; replace x9 := New.keep (n4) x9; replace v0 := New.keep (n4) v0; replace v1 := New.keep (n4) v1; replace v2 := New.keep (n4) v2; replace v3 := New.keep (n4) v3; replace v4 := New.keep (n4) v4; replace v5 := New.keep (n4) v5; replace v6 := New.keep (n4) v6; replace v7 := New.keep (n4) v7; replace v8 := New.keep (n4) v8; replace v9 := New.keep (n4) v9; replace hn := hn.trans n4)
    (have hz0 : w.heap.size < W4.heap.size := World.block_lt_of_cell? _ _ g0); (have hz1 : w.heap.size + 1 < W4.heap.size := World.block_lt_of_cell? _ _ q0); (have hz2 : w.heap.size + 1 + 1 < W4.heap.size := World.block_lt_of_cell? _ _ x0); (have hz3 : w.heap.size + 1 + 1 + 1 < W4.heap.size := World.block_lt_of_cell? _ _ v0)
    have hz4 : W3.heap.size < W4.heap.size := World.block_lt_of_cell? _ _ p0
    replace OK := Lib.hid (OK.out.keep n4)
    clear n4 j1 j5 HDR
    go_wp2_with fail
    generalize hX : World.alloc _ _ = Y
    have nX : New W4 Y := by subst hX; (repeat (first | (with_reducible exact New.refl _) | (with_reducible assumption) | ((with_reducible refine New.setB ?_ ?_ _); focus (first | omega | (simp; omega) | (simp; done))) | (with_reducible refine New.alloc ?_ _) | (with_reducible refine New.drew ?_) | (with_reducible refine New.drewN ?_ _) | (with_reducible refine New.hat ?_ _) | ((with_reducible apply New.snart); (with_reducible assumption))))
    have y0 : World.cell? Y ⟨W4.heap.size, 0, none⟩ = some (.slice e0 S.ts.length f0) := by subst hX; go_simp
    have y1 : World.cell? Y ⟨W4.heap.size, 1, none⟩ = some (.slice e1 S.bs.length f1) := by subst hX; go_simp
    have y2 : World.cell? Y ⟨W4.heap.size, 2, none⟩ = some (.slice e2 S.hs.length f2) := by subst hX; go_simp
    clear hX
    clear hz0 hz1 hz2 hz3
    clear hz4
    (replace q0 := nX.keep q0; replace q1 := nX.keep q1; replace q2 := nX.keep q2; replace p0 := nX.keep p0; replace p1 := nX.keep p1; replace p2 := nX.keep p2; replace g0 := New.keep (nX) g0; replace g1 := New.keep (nX) g1; replace g2 := New.keep (nX) g2; replace g3 := New.keep (nX) g3; replace g4 := New.keep (nX) g4; replace g5 := New.keep (nX) g5; replace g6 := New.keep (nX) g6; replace x0 := New.keep (nX) x0; replace x1 := New.keep (nX) x1; replace x2 := New.keep (nX) x2; replace x3 := New.keep (nX) x3; replace x4 := New.keep (nX) x4; replace x5 := New.keep (nX) x5; replace x6 := New.keep (nX) x6; replace x7 := New.keep (nX) x7; replace x8 := New.keep (nX) x8; replace x9 := New.keep (nX) x9; replace v0 := New.keep (nX) v0; replace v1 := New.keep (nX) v1; replace v2 := New.keep (nX) v2; replace v3 := New.keep (nX) v3; replace v4 := New.keep (nX) v4; replace v5 := New.keep (nX) v5; replace v6 := New.keep (nX) v6; replace v7 := New.keep (nX) v7; replace v8 := New.keep (nX) v8; replace v9 := New.keep (nX) v9; replace hn := hn.trans nX)
    replace OK := Lib.hid (OK.out.keep nX)
    replace OY := Lib.hid (OY.out.keep nX)
    clear nX
    refine (HSA.out ⟨S.ts, S.bs, S.hs, e0, e1, e2, f0, f1, f2⟩ S Y OY.out (HS.out.keep hn) rfl rfl rfl (by show S.ts.length ≤ 300; omega) (by show S.bs.length ≤ 300; omega) (by show S.hs.length ≤ 300; omega)).mono ?_
    rintro e W5 ⟨rfl, n5⟩
    (replace q0 := n5.keep q0; replace q1 := n5.keep q1; replace q2 := n5.keep q2; replace p0 := n5.keep p0; replace p1 := n5.keep p1; replace p2 := n5.keep p2; replace g0 := New.keep (n5) g0; replace g1 := New.keep (n5) g1; replace g2 := New.keep (n5) g2; replace g3 := New.keep (n5) g3; replace g4 := New.keep (n5) g4; replace g5 := New.keep (n5) g5; replace g6 := New.keep (n5) g6; replace x0 := New.keep (n5) x0; replace x1 := New.keep (n5) x1; replace x2 := New.keep (n5) x2; replace x3 := New.keep (n5) x3; replace x4 := New.keep (n5) x4; replace x5 := New.keep (n5) x5; replace x6 := New.keep (n5) x6; replace x7 := New.keep (n5) x7; replace x8 := New.keep (n5) x8; replace x9 := New.keep (n5) x9; replace v0 := New.keep (n5) v0; replace v1 := New.keep (n5) v1; replace v2 := New.keep (n5) v2; replace v3 := New.keep (n5) v3; replace v4 := New.keep (n5) v4; replace v5 := New.keep (n5) v5; replace v6 := New.keep (n5) v6; replace v7 := New.keep (n5) v7; replace v8 := New.keep (n5) v8; replace v9 := New.keep (n5) v9; replace hn := hn.trans n5)
    replace OK := Lib.hid (OK.out.keep n5)
    clear n5 y0 y1 y2 OY
    go_wp2_with fail
    refine (HCK.out ⟨us, S.bs, S.hs, b0, b1, b2, d0, d1, d2⟩ W5 OK.out rfl rfl rfl).mono ?_
    rintro e W6 ⟨rfl, n6⟩
    (replace q0 := n6.keep q0; replace q1 := n6.keep q1; replace q2 := n6.keep q2; replace p0 := n6.keep p0; replace p1 := n6.keep p1; replace p2 := n6.keep p2; replace g0 := New.keep (n6) g0; replace g1 := New.keep (n6) g1; replace g2 := New.keep (n6) g2; replace g3 := New.keep (n6) g3; replace g4 := New.keep (n6) g4; replace g5 := New.keep (n6) g5; replace g6 := New.keep (n6) g6; replace x0 := New.keep (n6) x0; replace x1 := New.keep (n6) x1; replace x2 := New.keep (n6) x2; replace x3 := New.keep (n6) x3; replace x4 := New.keep (n6) x4; replace x5 := New.keep (n6) x5; replace x6 := New.keep (n6) x6; replace x7 := New.keep (n6) x7; replace x8 := New.keep (n6) x8; replace x9 := New.keep (n6) x9; replace v0 := New.keep (n6) v0; replace v1 := New.keep (n6) v1; replace v2 := New.keep (n6) v2; replace v3 := New.keep (n6) v3; replace v4 := New.keep (n6) v4; replace v5 := New.keep (n6) v5; replace v6 := New.keep (n6) v6; replace v7 := New.keep (n6) v7; replace v8 := New.keep (n6) v8; replace v9 := New.keep (n6) v9; replace hn := hn.trans n6)
    replace OK := Lib.hid (OK.out.keep n6)
    clear n6 HCK
    obtain ⟨T1, B1, H1, g, hadd1, hA1⟩ := addT_any C ⟨us, S.bs, S.hs, b0, b1, b2, d0, d1, d2⟩ u ⟨by show us.length ≤ 900; omega, by show S.bs.length ≤ 900; omega, by show S.hs.length ≤ 900; omega⟩
    have HA1 := Lib.hid (hA1 W6 OK.out)
    have HADD1 := Lib.hid hadd1
    clear hA1 hadd1
    go_wp2_with fail
    refine HA1.out.mono ?_
    rintro e W7 ⟨⟨ps, pbs, phs, a0, a1, a2, c0, c1, c2⟩, rfl, k1, k2, k3, k4, k5, n7⟩
    simp only at k2 k3 k4
    subst k2 k3 k4
    have OP := Lib.hid k1
    (replace q0 := n7.keep q0; replace q1 := n7.keep q1; replace q2 := n7.keep q2; replace g0 := New.keep (n7) g0; replace g1 := New.keep (n7) g1; replace g2 := New.keep (n7) g2; replace g3 := New.keep (n7) g3; replace g4 := New.keep (n7) g4; replace g5 := New.keep (n7) g5; replace g6 := New.keep (n7) g6; replace x0 := New.keep (n7) x0; replace x1 := New.keep (n7) x1; replace x2 := New.keep (n7) x2; replace x3 := New.keep (n7) x3; replace x4 := New.keep (n7) x4; replace x5 := New.keep (n7) x5; replace x6 := New.keep (n7) x6; replace x7 := New.keep (n7) x7; replace x8 := New.keep (n7) x8; replace x9 := New.keep (n7) x9; replace v0 := New.keep (n7) v0; replace v1 := New.keep (n7) v1; replace v2 := New.keep (n7) v2; replace v3 := New.keep (n7) v3; replace v4 := New.keep (n7) v4; replace v5 := New.keep (n7) v5; replace v6 := New.keep (n7) v6; replace v7 := New.keep (n7) v7; replace v8 := New.keep (n7) v8; replace v9 := New.keep (n7) v9; replace hn := hn.trans n7)
    (have hz0 : w.heap.size < W7.heap.size := World.block_lt_of_cell? _ _ g0); (have hz1 : w.heap.size + 1 < W7.heap.size := World.block_lt_of_cell? _ _ q0); (have hz2 : w.heap.size + 1 + 1 < W7.heap.size := World.block_lt_of_cell? _ _ x0); (have hz3 : w.heap.size + 1 + 1 + 1 < W7.heap.size := World.block_lt_of_cell? _ _ v0)
    clear n7 k1 k5 HA1 OK p0 p1 p2
    go_wp2_with fail
    generalize hX : World.alloc _ _ = P1
    have nX : New W7 P1 := by subst hX; (repeat (first | (with_reducible exact New.refl _) | (with_reducible assumption) | ((with_reducible refine New.setB ?_ ?_ _); focus (first | omega | (simp; omega) | (simp; done))) | (with_reducible refine New.alloc ?_ _) | (with_reducible refine New.drew ?_) | (with_reducible refine New.drewN ?_ _) | (with_reducible refine New.hat ?_ _) | ((with_reducible apply New.snart); (with_reducible assumption))))
    have r0 : World.cell? P1 ⟨W7.heap.size, 0, none⟩ = some (.slice a0 ps.length c0) := by subst hX; go_simp
    have r1 : World.cell? P1 ⟨W7.heap.size, 1, none⟩ = some (.slice a1 pbs.length c1) := by subst hX; go_simp
    have r2 : World.cell? P1 ⟨W7.heap.size, 2, none⟩ = some (.slice a2 phs.length c2) := by subst hX; go_simp
    clear hX
    clear hz0 hz1 hz2 hz3
    (replace q0 := nX.keep q0; replace q1 := nX.keep q1; replace q2 := nX.keep q2; replace g0 := New.keep (nX) g0; replace g1 := New.keep (nX) g1; replace g2 := New.keep (nX) g2; replace g3 := New.keep (nX) g3; replace g4 := New.keep (nX) g4; replace g5 := New.keep (nX) g5; replace g6 := New.keep (nX) g6; replace x0 := New.keep (nX) x0; replace x1 := New.keep (nX) x1; replace x2 := New.keep (nX) x2; replace x3 := New.keep (nX) x3; replace x4 := New.keep (nX) x4; replace x5 := New.keep (nX) x5; replace x6 := New.keep (nX) x6; replace x7 := New.keep (nX) x7; replace x8 := New.keep (nX) x8; replace x9 := New.keep (nX) x9; replace v0 := New.keep (nX) v0; replace v1 := New.keep (nX) v1; replace v2 := New.keep (nX) v2; replace v3 := New.keep (nX) v3; replace v4 := New.keep (nX) v4; replace v5 := New.keep (nX) v5; replace v6 := New.keep (nX) v6; replace v7 := New.keep (nX) v7; replace v8 := New.keep (nX) v8; replace v9 := New.keep (nX) v9; replace hn := hn.trans nX)
    replace OP := Lib.hid (OP.out.keep nX)
    clear nX
    refine (HA2.out P1 hn).mono ?_
    rintro e W8 ⟨⟨qs, qbs, qhs, m0, m1, m2, l0, l1, l2⟩, rfl, k1, k2, k3, k4, k5, n8⟩
    simp only at k2 k3 k4
    subst k2 k3 k4
    have OQ := Lib.hid k1
    (replace q0 := n8.keep q0; replace q1 := n8.keep q1; replace q2 := n8.keep q2; replace r0 := n8.keep r0; replace r1 := n8.keep r1; replace r2 := n8.keep r2; replace g0 := New.keep (n8) g0; replace g1 := New.keep (n8) g1; replace g2 := New.keep (n8) g2; replace g3 := New.keep (n8) g3; replace g4 := New.keep (n8) g4; replace g5 := New.keep (n8) g5; replace g6 := New.keep (n8) g6; replace x0 := New.keep (n8) x0; replace x1 := New.keep (n8) x1; replace x2 := New.keep (n8) x2; replace x3 := New.keep (n8) x3; replace x4 := New.keep (n8) x4; replace x5 := New.keep (n8) x5; replace x6 := New.keep (n8) x6; replace x7 := New.keep (n8) x7; replace x8 := New.keep (n8) x8; replace x9 := New.keep (n8) x9; replace v0 := New.keep (n8) v0; replace v1 := New.keep (n8) v1; replace v2 := New.keep (n8) v2; replace v3 := New.keep (n8) v3; replace v4 := New.keep (n8) v4; replace v5 := New.keep (n8) v5; replace v6 := New.keep (n8) v6; replace v7 := New.keep (n8) v7; replace v8 := New.keep (n8) v8; replace v9 := New.keep (n8) v9; replace hn := hn.trans n8)
    (have hz0 : w.heap.size < W8.heap.size := World.block_lt_of_cell? _ _ g0); (have hz1 : w.heap.size + 1 < W8.heap.size := World.block_lt_of_cell? _ _ q0); (have hz2 : w.heap.size + 1 + 1 < W8.heap.size := World.block_lt_of_cell? _ _ x0); (have hz3 : w.heap.size + 1 + 1 + 1 < W8.heap.size := World.block_lt_of_cell? _ _ v0)
    have hz4 : W7.heap.size < W8.heap.size := World.block_lt_of_cell? _ _ r0
    replace OP := Lib.hid (OP.out.keep n8)
    clear n8 k1 k5 HA2
    by_cases h0 : h = 0
    rotate_left
    · have hb : (h != 0) = true := by simpa using h0
      have hgb : (g != 0) = true := by simpa using back_refused HADD.out rfl HADD1.out HADD2.out h0
      clear h0
      have hn8 := hn
      clear r0 r1 r2 OP OQ HADD HADD1 HADD2 HSA HS
      go_wp2_with fail
      refine (HW.out _).mono ?_
      rintro e W9 ⟨rfl, n9⟩
      have hn9 : New w W9 := New.trans (by (repeat (first | (with_reducible exact New.refl _) | (with_reducible assumption) | ((with_reducible refine New.setB ?_ ?_ _); focus (first | omega | (simp; omega) | (simp; done))) | (with_reducible refine New.alloc ?_ _) | (with_reducible refine New.drew ?_) | (with_reducible refine New.drewN ?_ _) | (with_reducible refine New.hat ?_ _) | ((with_reducible apply New.snart); (with_reducible assumption))))) n9
      go_wp2_with fail
      go_ret
      exact ⟨rfl, hn9⟩
    · subst h0
      go_wp2_with fail
      generalize hX : World.alloc _ _ = Q1
      have nX : New W8 Q1 := by subst hX; (repeat (first | (with_reducible exact New.refl _) | (with_reducible assumption) | ((with_reducible refine New.setB ?_ ?_ _); focus (first | omega | (simp; omega) | (simp; done))) | (with_reducible refine New.alloc ?_ _) | (with_reducible refine New.drew ?_) | (with_reducible refine New.drewN ?_ _) | (with_reducible refine New.hat ?_ _) | ((with_reducible apply New.snart); (with_reducible assumption))))
      have s0 : World.cell? Q1 ⟨W8.heap.size, 0, none⟩ = some (.slice m0 qs.length l0) := by subst hX; go_simp
      have s1 : World.cell? Q1 ⟨W8.heap.size, 1, none⟩ = some (.slice m1 qbs.length l1) := by subst hX; go_simp
      have s2 : World.cell? Q1 ⟨W8.heap.size, 2, none⟩ = some (.slice m2 qhs.length l2) := by subst hX; go_simp
      clear hX
      clear hz0 hz1 hz2 hz3
      clear hz4
      (replace q0 := nX.keep q0; replace q1 := nX.keep q1; replace q2 := nX.keep q2; replace r0 := nX.keep r0; replace r1 := nX.keep r1; replace r2 := nX.keep r2; replace g0 := New.keep (nX) g0; replace g1 := New.keep (nX) g1; replace g2 := New.keep (nX) g2; replace g3 := New.keep (nX) g3; replace g4 := New.keep (nX) g4; replace g5 := New.keep (nX) g5; replace g6 := New.keep (nX) g6; replace x0 := New.keep (nX) x0; replace x1 := New.keep (nX) x1; replace x2 := New.keep (nX) x2; replace x3 := New.keep (nX) x3; replace x4 := New.keep (nX) x4; replace x5 := New.keep (nX) x5; replace x6 := New.keep (nX) x6; replace x7 := New.keep (nX) x7; replace x8 := New.keep (nX) x8; replace x9 := New.keep (nX) x9; replace v0 := New.keep (nX) v0; replace v1 := New.keep (nX) v1; replace v2 := New.keep (nX) v2; replace v3 := New.keep (nX) v3; replace v4 := New.keep (nX) v4; replace v5 := New.keep (nX) v5; replace v6 := New.keep (nX) v6; replace v7 := New.keep (nX) v7; replace v8 := New.keep (nX) v8; replace v9 := New.keep (nX) v9; replace hn := hn.trans nX)
      replace OP := Lib.hid (OP.out.keep nX)
      replace OQ := Lib.hid (OQ.out.keep nX)
      clear nX
      have hql : qs.length = S.ts.length + 1 := (HADD2.out.lists rfl).1.length_eq
      have hqb : qbs = S.bs := (HADD2.out.lists rfl).2.2.1
      have hqh : qhs = S.hs := (HADD2.out.lists rfl).2.2.2.1
      obtain ⟨R, B3, H3, i, hadd3, hA3⟩ := addT_any C ⟨qs, qbs, qhs, m0, m1, m2, l0, l1, l2⟩ x ⟨by show qs.length ≤ 900; omega, by show qbs.length ≤ 900; rw [hqb]; omega, by show qhs.length ≤ 900; rw [hqh]; omega⟩
      have HA3 := Lib.hid (hA3 Q1 OQ.out)
      have HE := Lib.hid (back_either (S1 := ⟨us, S.bs, S.hs, b0, b1, b2, d0, d1, d2⟩) (S2 := ⟨qs, qbs, qhs, m0, m1, m2, l0, l1, l2⟩) HADD.out rfl rfl rfl HADD1.out HADD2.out rfl rfl rfl hadd3)
      clear hA3 hadd3 hql hqb hqh s0 s1 s2 OQ
      refine HA3.out.mono ?_
      rintro e W9 ⟨⟨rs, rbs, rhs, t0, t1, t2, o0, o1, o2⟩, rfl, k1, k2, k3, k4, k5, n9⟩
      simp only at k2 k3 k4
      subst k2 k3 k4
      have OR := Lib.hid k1
      (replace q0 := n9.keep q0; replace q1 := n9.keep q1; replace q2 := n9.keep q2; replace r0 := n9.keep r0; replace r1 := n9.keep r1; replace r2 := n9.keep r2; replace g0 := New.keep (n9) g0; replace g1 := New.keep (n9) g1; replace g2 := New.keep (n9) g2; replace g3 := New.keep (n9) g3; replace g4 := New.keep (n9) g4; replace g5 := New.keep (n9) g5; replace g6 := New.keep (n9) g6; replace x0 := New.keep (n9) x0; replace x1 := New.keep (n9) x1; replace x2 := New.keep (n9) x2; replace x3 := New.keep (n9) x3; replace x4 := New.keep (n9) x4; replace x5 := New.keep (n9) x5; replace x6 := New.keep (n9) x6; replace x7 := New.keep (n9) x7; replace x8 := New.keep (n9) x8; replace x9 := New.keep (n9) x9; replace v0 := New.keep (n9) v0; replace v1 := New.keep (n9) v1; replace v2 := New.keep (n9) v2; replace v3 := New.keep (n9) v3; replace v4 := New.keep (n9) v4; replace v5 := New.keep (n9) v5; replace v6 := New.keep (n9) v6; replace v7 := New.keep (n9) v7; replace v8 := New.keep (n9) v8; replace v9 := New.keep (n9) v9; replace hn := hn.trans n9)
      (have hz0 : w.heap.size < W9.heap.size := World.block_lt_of_cell? _ _ g0); (have hz1 : w.heap.size + 1 < W9.heap.size := World.block_lt_of_cell? _ _ q0); (have hz2 : w.heap.size + 1 + 1 < W9.heap.size := World.block_lt_of_cell? _ _ x0); (have hz3 : w.heap.size + 1 + 1 + 1 < W9.heap.size := World.block_lt_of_cell? _ _ v0)
      have hz4 : W7.heap.size < W9.heap.size := World.block_lt_of_cell? _ _ r0
      replace OP := Lib.hid (OP.out.keep n9)
      clear n9 k1 k5 HA3
      by_cases g0 : g = 0
      · have hi0 : i = 0 := HE.out.1.1 g0
        have hsm := HE.out.2 g0
        have hpl := (HADD1.out.lists g0).1.length_eq
        have hpb := (HADD1.out.lists g0).2.2.1
        have hph := (HADD1.out.lists g0).2.2.2.1
        have l1 : ps.length ≤ 300 := by rw [hpl]; show us.length + 1 ≤ 300; omega
        have l2 : pbs.length ≤ 300 := by rw [hpb]; show S.bs.length ≤ 300; omega
        have l3 : phs.length ≤ 300 := by rw [hph]; show S.hs.length ≤ 300; omega
        have HSX := Lib.hid (fun V (n : New W9 V) => HSA.out ⟨ps, pbs, phs, a0, a1, a2, c0, c1, c2⟩ ⟨rs, rbs, rhs, t0, t1, t2, o0, o1, o2⟩ V (OP.out.keep n) (OR.out.keep n) hsm.1 hsm.2.1 hsm.2.2 l1 l2 l3)
        subst g0 hi0
        clear hsm hpl hpb hph HE HADD HADD1 HADD2 HSA OP OR
        go_wp2_with fail
        refine (HSX.out _ (by (repeat (first | (with_reducible exact New.refl _) | (with_reducible assumption) | ((with_reducible refine New.setB ?_ ?_ _); focus (first | omega | (simp; omega) | (simp; done))) | (with_reducible refine New.alloc ?_ _) | (with_reducible refine New.drew ?_) | (with_reducible refine New.drewN ?_ _) | (with_reducible refine New.hat ?_ _) | ((with_reducible apply New.snart); (with_reducible assumption)))))).mono ?_
        rintro e V ⟨rfl, nv⟩
        have hnv : New w V := New.trans (by (repeat (first | (with_reducible exact New.refl _) | (with_reducible assumption) | ((with_reducible refine New.setB ?_ ?_ _); focus (first | omega | (simp; omega) | (simp; done))) | (with_reducible refine New.alloc ?_ _) | (with_reducible refine New.drew ?_) | (with_reducible refine New.drewN ?_ _) | (with_reducible refine New.hat ?_ _) | ((with_reducible apply New.snart); (with_reducible assumption))))) nv
        clear nv HSX
        go_wp2_with fail
        refine (HW.out _).mono ?_
        rintro e V2 ⟨rfl, nv⟩
        go_wp2_with fail
        go_ret
        exact ⟨rfl, hnv.trans nv⟩
      · have hi0 : i ≠ 0 := fun x => g0 (HE.out.1.2 x)
        have z1 : (g == 0) = false := by simpa using g0
        have z2 : (i == 0) = false := by simpa using hi0
        have z3 : (g != 0) = true := by simpa using g0
        clear g0 hi0 HE HADD HADD1 HADD2 HSA OP OR
        go_wp2_with fail
        refine (HW.out _).mono ?_
        rintro e V2 ⟨rfl, nv⟩
        have hnv : New w V2 := New.trans (by (repeat (first | (with_reducible exact New.refl _) | (with_reducible assumption) | ((with_reducible refine New.setB ?_ ?_ _); focus (first | omega | (simp; omega) | (simp; done))) | (with_reducible refine New.alloc ?_ _) | (with_reducible refine New.drew ?_) | (with_reducible refine New.drewN ?_ _) | (with_reducible refine New.hat ?_ _) | ((with_reducible apply New.snart); (with_reducible assumption))))) nv
        go_wp2_with fail
        go_ret
        exact ⟨rfl, hnv⟩

end Go.Proofs.Ytlpdfnkfknbopaa

/-
  Proved here: whatever the input, the call of footpath/footpathlaw05.SoupBack of the landed code returns true and leaves its arguments as they were. Conditions: none.
-/
namespace Go.Proofs.Ytlpdfnkfknbopaa.soupBack
open Go.ChangeShapes Go.WideShapes Go.ChangeAt Go.RowKit
set_option linter.unusedVariables false

theorem own : ownKnob Try.prog.godebug = none := by kernel_rfl
theorem laidOut : laidOutB Try.prog = true := by kernel_rfl

/-! The walk: the Go text returns true, and writes nothing that was there. -/
set_option maxRecDepth 100000 in
set_option maxHeartbeats 4000000 in
theorem walk (H : Type) (enc : TypeId × Value → H) (base : Nat) (w : World) (v0 : Value) (d0 : DataW H) (p0 : List MemPlace) (v1 : Value) (d1 : DataW H) (p1 : List MemPlace) (v2 : Value) (d2 : DataW H) (p2 : List MemPlace) (v3 : Value) (d3 : DataW H) (p3 : List MemPlace) (k0 : Value.okWide Try.prog w .any base 23 v0) (h0 : DataW.Trod enc Try.prog w 0 (fun _ => true) true 23 v0 d0 p0) (k1 : Value.okWide Try.prog w .any base 28 v1) (h1 : DataW.Trod enc Try.prog w 0 (fun _ => true) true 28 v1 d1 p1) (k2 : Value.okWide Try.prog w .any base 33 v2) (h2 : DataW.Trod enc Try.prog w 0 (fun _ => true) true 33 v2 d2 p2) (k3 : Value.okWide Try.prog w .any base 33 v3) (h3 : DataW.Trod enc Try.prog w 0 (fun _ => true) true 33 v3 d3 p3) :
    Calls Try.prog 4 #[v0, v1, v2, v3] w fun e w' => e = .returned (.bool true) ∧ Below w.heap.size w w' := by
  obtain ⟨cs, rfl, hc⟩ := open_flat Try.underlying23 64 (ks := [.num .i64, .num .i64, .num .i64, .num .i64, .num .i64, .num .i64, .num .i64]) (by kernel_rfl) k0 h0
  obtain ⟨cl, cb, ht, ri, ru, wd, dp, rfl⟩ := fits7 hc
  clear hc h0 k0
  obtain ⟨S, rfl, hS⟩ := open_soup k1 h1
  clear h1 k1
  obtain ⟨cs, rfl, hc⟩ := open_flat Try.underlying33 64 (ks := [.num .i64, .num .i64, .num .i64, .num .i64, .num .i64, .num .i64, .num .i64, .num .i64, .num .i64, .num .i64]) (by kernel_rfl) k2 h2
  obtain ⟨i, x0, y0, z0, x1, y1, z1, x2, y2, z2, rfl⟩ := fits10 hc
  clear hc h2 k2
  obtain ⟨cs, rfl, hc⟩ := open_flat Try.underlying33 64 (ks := [.num .i64, .num .i64, .num .i64, .num .i64, .num .i64, .num .i64, .num .i64, .num .i64, .num .i64, .num .i64]) (by kernel_rfl) k3 h3
  obtain ⟨i', x0', y0', z0', x1', y1', z1', x2', y2', z2', rfl⟩ := fits10 hc
  clear hc h3 k3
  exact (l_back ⟨cl, cb, ht, ri, ru, wd, dp⟩ S ⟨i, x0, y0, z0, x1, y1, z1, x2, y2, z2⟩ ⟨i', x0', y0', z0', x1', y1', z1', x2', y2', z2'⟩ w hS).mono fun e w' ⟨he, hn⟩ => ⟨he, hn⟩

/-! The row over the walk: the arguments are read again behind the call. -/
set_option maxRecDepth 100000 in
theorem lifted (os : Os) (started : os.Started) (H : Type) (enc : TypeId × Value → H) :
    ReturnsInHanded {} Try.checked os 4 .any (Rows.soupBackSpec.pre6 enc Try.prog Try.f4 Rows.soupBackRow.domain false) (Rows.soupBackSpec.post enc Try.prog Try.f4 false true false false) := by
  refine returnsInHanded_of_change (C := Try.checked) own started (by kernel_rfl) Try.func4
    (ChangeSpec.witness6 (enc := enc) (C := Try.checked) false ⟨#[], #[.agg #[.int .i64 0, .int .i64 0, .int .i64 0, .int .i64 0, .int .i64 0, .int .i64 0, .int .i64 0], .agg #[.slice none 0 0, .slice none 0 0, .slice none 0 0], .agg #[.int .i64 0, .int .i64 0, .int .i64 0, .int .i64 0, .int .i64 0, .int .i64 0, .int .i64 0, .int .i64 0, .int .i64 0, .int .i64 0], .agg #[.int .i64 0, .int .i64 0, .int .i64 0, .int .i64 0, .int .i64 0, .int .i64 0, .int .i64 0, .int .i64 0, .int .i64 0, .int .i64 0]], []⟩ 8 (by kernel_rfl) (by kernel_rfl) (by kernel_rfl) (by kernel_rfl)) ?_
  intro W base args ds gs before hval0 hW hcnd _
  have hval : ∀ (j : Nat) t v, Try.f4.params[j]? = some t → args[j]? = some v → Value.okWide Try.prog W .any base t v := hval0
  have hW' := hW
  obtain ⟨p, q, hA0, hV, rfl, hfz, hnd⟩ := hW
  have hA : DataW.TrodAll enc Try.prog W 0 (fun _ => true) true Try.f4.params.toList args.toList ds p := hA0
  rw [Try.params4] at hA hval
  obtain ⟨v0, vs0, d0, ds0, p0, q0, hargs, rfl, rfl, h0, r0⟩ := trodAll_cons hA
  obtain ⟨v1, vs1, d1, ds1, p1, q1, rfl, rfl, rfl, h1, r1⟩ := trodAll_cons r0
  obtain ⟨v2, vs2, d2, ds2, p2, q2, rfl, rfl, rfl, h2, r2⟩ := trodAll_cons r1
  obtain ⟨v3, vs3, d3, ds3, p3, q3, rfl, rfl, rfl, h3, r3⟩ := trodAll_cons r2
  obtain ⟨rfl, rfl, rfl⟩ := trodAll_nil r3
  obtain rfl : args = #[v0, v1, v2, v3] := by cases args; simp_all
  obtain ⟨rfl, rfl⟩ := trodVars_none hV
  have lt0 : ∀ x ∈ p0, x.block < W.heap.size := by obtain ⟨m, hm⟩ := h0; exact DataW.trod_lt m _ _ _ hm
  have lt1 : ∀ x ∈ p1, x.block < W.heap.size := by obtain ⟨m, hm⟩ := h1; exact DataW.trod_lt m _ _ _ hm
  have lt2 : ∀ x ∈ p2, x.block < W.heap.size := by obtain ⟨m, hm⟩ := h2; exact DataW.trod_lt m _ _ _ hm
  have lt3 : ∀ x ∈ p3, x.block < W.heap.size := by obtain ⟨m, hm⟩ := h3; exact DataW.trod_lt m _ _ _ hm
  clear hA0
  refine (walk H enc base W v0 d0 p0 v1 d1 p1 v2 d2 p2 v3 d3 p3 (hval 0 23 v0 rfl rfl) h0 (hval 1 28 v1 rfl rfl) h1 (hval 2 33 v2 rfl rfl) h2 (hval 3 33 v3 rfl rfl) h3).mono fun e W' ⟨he, bel⟩ => ?_
  subst he
  exact ⟨_, rfl, _, _, _, [], _, [], hW', trodAll_mk1 (shut_bool Try.underlying4 _), (trodAll_cons_mk (Below.trod laidOut (by kernel_rfl) (of_decide_eq_true (by kernel_rfl)) h0 bel lt0) (trodAll_cons_mk (Below.trod laidOut (by kernel_rfl) (of_decide_eq_true (by kernel_rfl)) h1 bel lt1) (trodAll_cons_mk (Below.trod laidOut (by kernel_rfl) (of_decide_eq_true (by kernel_rfl)) h2 bel lt2) (trodAll_cons_mk (Below.trod laidOut (by kernel_rfl) (of_decide_eq_true (by kernel_rfl)) h3 bel lt3) trodAll_mk0)))), rfl, bel.frame _, fun h => by cases h⟩

theorem over : Rows.soupBackRow.holds Try.pinned (OpenSpec.ofChange Rows.soupBackSpec) :=
  OpenClaim.holds_of_wide 4 Try.f4 rfl rfl rfl rfl rfl rfl rfl ⟨rfl, rfl, rfl, rfl, rfl⟩ rfl rfl rfl rfl rfl (by kernel_rfl) Try.func4 (by kernel_rfl)
    (of_decide_eq_true (by kernel_rfl)) (by unfold Func.isWrapper; first | (rw [if_pos (by decide +kernel)]; kernel_rfl) | (rw [if_neg (by decide +kernel)]; exact ⟨rfl, rfl⟩))
    (fun os started H enc _ => lifted os started H enc)

/-- The given statement. -/
theorem proved : Rows.SoupBackSaid := over
#print axioms proved
end Go.Proofs.Ytlpdfnkfknbopaa.soupBack
