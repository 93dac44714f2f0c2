import Derived.Test.YtonngfogbnfbnaaGreatSoMTZ8
import Derived.Test.YtonngfogbnfbnaaGreatSoPTZ8
import Derived.Test.YtonngfogbnfbnaaGreatSoGZ8

/- Package soup: one added that may be. -/
namespace Go.Proofs.YtonngfogbnfbnaaGreat
open Go.RowKit
set_option linter.unusedVariables false

def t_adV (S : SoupV) (a : Option Addr) (l : List TriR) (c p : Nat) (x : TriR) (b : Nat) : Nat → World → Value → Prop
  | 0, _, v => v = .agg #[.slice S.a0 S.ts.length S.c0, .slice S.a1 S.bs.length S.c1, .slice S.a2 S.hs.length S.c2]
  | 1, _, v => v = .slice a l.length c
  | 2, _, v => v = .int .i64 p
  | 3, w, v => ∃ a1 c1, v = .slice a1 (l.take p).length c1 ∧ Sl TriR.enc 10 w (.slice a1 (l.take p).length c1) (l.take p)
  | 4, _, v => v = .agg #[.int .i64 x.i, .int .i64 x.x0, .int .i64 x.y0, .int .i64 x.z0, .int .i64 x.x1, .int .i64 x.y1, .int .i64 x.z1, .int .i64 x.x2, .int .i64 x.y2, .int .i64 x.z2]
  | 5, w, v => ∃ g, v = .slice (some ⟨g, 0, none⟩) 1 1 ∧ Sl TriR.enc 10 w (.slice (some ⟨g, 0, none⟩) 1 1) [x]
  | 6, _, v => v = .slice a l.length c
  | 7, _, v => v = .int .i64 p
  | 8, w, v => ∃ a1 c1, v = .slice a1 (l.drop p).length c1 ∧ Sl TriR.enc 10 w (.slice a1 (l.drop p).length c1) (l.drop p)
  | 9, w, v => ∃ g q0 q1 q2, v = .slice (some ⟨g, 0, none⟩) 3 3 ∧ PartsAt TriR.enc 10 w g [q0, q1, q2] ∧ q0.l = l.take p ∧ q1.l = [x] ∧ q2.l = l.drop p
  | 10, w, v => ∃ a1 c1, ∃ l1 : List TriR, v = .slice a1 l1.length c1 ∧ l1 = l.take p ++ [x] ++ l.drop p ∧ Sl TriR.enc 10 w (.slice a1 l1.length c1) l1
  | 11, _, v => v = .agg #[.func (.func 49) #[] #[], .func (.func 50) #[] #[], .int .i64 200, .int .i64 40, .func (.func 51) #[] #[]]
  | _, w, v => ∃ S' : SoupV, v = .agg #[.slice S'.a0 S'.ts.length S'.c0, .slice S'.a1 S'.bs.length S'.c1, .slice S'.a2 S'.hs.length S'.c2] ∧ S'.ok w ∧ S'.own (b + 1 + 1 + 1 + 1 + 1) ∧ S'.ts = l.take p ++ [x] ++ l.drop p ∧ S'.bs = S.bs ∧ S'.hs = S.hs
theorem t_adV_keep {S : SoupV} {a : Option Addr} {l : List TriR} {c p : Nat} {x : TriR} {b : Nat} : ∀ i w w' v, t_adV S a l c p x b i w v → New w w' → t_adV S a l c p x b i w' v := by
  intro i w w' v h hn
  rcases (show i = 0 ∨ i = 1 ∨ i = 2 ∨ i = 3 ∨ i = 4 ∨ i = 5 ∨ i = 6 ∨ i = 7 ∨ i = 8 ∨ i = 9 ∨ i = 10 ∨ i = 11 ∨ 12 ≤ i by omega) with rfl | rfl | rfl | rfl | rfl | rfl | rfl | rfl | rfl | rfl | rfl | rfl | hi
  · exact h
  · exact h
  · exact h
  · obtain ⟨a1, c1, e, p⟩ := h; exact ⟨a1, c1, e, p.keep hn⟩
  · exact h
  · obtain ⟨g, e, p⟩ := h; exact ⟨g, e, p.keep hn⟩
  · exact h
  · exact h
  · obtain ⟨a1, c1, e, p⟩ := h; exact ⟨a1, c1, e, p.keep hn⟩
  · obtain ⟨g, p, q, r, e, h1, h2⟩ := h; exact ⟨g, p, q, r, e, h1.keep hn, h2⟩
  · obtain ⟨a1, c1, l1, e, h1, h2⟩ := h; exact ⟨a1, c1, l1, e, h1, h2.keep hn⟩
  · exact h
  · obtain ⟨k, rfl⟩ : ∃ k, i = k + 12 := ⟨i - 12, by omega⟩
    obtain ⟨S', e, h1, h2⟩ := h
    exact ⟨S', e, h1.keep hn, h2⟩

theorem t_three {w : World} {g : Nat} {p q r : Part TriR} (c0 : w.cell? ⟨g, 0, none⟩ = some (.slice p.a p.l.length p.c)) (c1 : w.cell? ⟨g, 1, none⟩ = some (.slice q.a q.l.length q.c)) (c2 : w.cell? ⟨g, 2, none⟩ = some (.slice r.a r.l.length r.c)) (h0 : Sl TriR.enc 10 w (.slice p.a p.l.length p.c) p.l) (h1 : Sl TriR.enc 10 w (.slice q.a q.l.length q.c) q.l) (h2 : Sl TriR.enc 10 w (.slice r.a r.l.length r.c) r.l) : PartsAt TriR.enc 10 w g [p, q, r]
  | 0, _ => ⟨c0, h0⟩
  | 1, _ => ⟨c1, h1⟩
  | 2, _ => ⟨c2, h2⟩
  | _ + 3, hj => absurd hj (by simp)

/-- What a slice's address can be. -/
theorem t_addr {w : World} {a : Option Addr} {l : List TriR} {c : Nat} (h : Sl TriR.enc 10 w (.slice a l.length c) l) : (a = none ∧ l = [] ∧ c = 0) ∨ (∃ ad, a = some ad ∧ l = []) ∨ (∃ b off, a = some ⟨b, off, none⟩ ∧ 0 < l.length ∧ RowAt TriR.enc 10 w b off l) := by
  obtain ⟨-, h1, h2, h3, h4⟩ := h.row
  rcases Nat.eq_zero_or_pos l.length with q | q
  · have hl := List.eq_nil_of_length_eq_zero q
    cases a with
    | none => exact Or.inl ⟨rfl, hl, h3 rfl⟩
    | some ad => exact Or.inr (Or.inl ⟨ad, rfl, hl⟩)
  · obtain ⟨b, off, e, hA⟩ := h4 q
    exact Or.inr (Or.inr ⟨b, off, e, q, hA⟩)

theorem t_one (w : World) (x : TriR) (T : TypeId) : Sl TriR.enc 10 (w.alloc (.cells x.enc.toArray T)) (.slice (some ⟨w.heap.size, 0, none⟩) 1 1) [x] :=
  ⟨_, _, rfl, Nat.le_refl _, by unfold maxLen; omega, fun h => (by cases h), fun _ => ⟨_, 0, rfl, fun j hj => by
    obtain rfl : j = 0 := by simpa using hj
    rw [Nat.zero_mul, Nat.add_zero]
    exact cells_new w x.enc.toArray T⟩⟩

set_option maxHeartbeats 4000000 in
set_option maxRecDepth 100000 in
theorem t_add_ok (C : CfgR) (S : SoupV) (x : TriR) (w : World) (hS : S.ok w) (he : S.err C = 0) (hm : x.may C = true) (ht : S.ts.length ≤ 900) (hb : S.bs.length ≤ 900) (hh : S.hs.length ≤ 900) (p : Nat) (hp : TriR.Place S.ts x.i p) (hit : TriR.hit S.ts x.i p = false) (hf : S.ts.length ≠ 200) :
    Calls Tryz.prog 47 #[.agg #[.int .i64 C.cl, .int .i64 C.cb, .int .i64 C.ht, .int .i64 C.ri, .int .i64 C.ru, .int .i64 C.wd, .int .i64 C.dp], .agg #[.slice S.a0 S.ts.length S.c0, .slice S.a1 S.bs.length S.c1, .slice S.a2 S.hs.length S.c2], .agg #[.int .i64 x.i, .int .i64 x.x0, .int .i64 x.y0, .int .i64 x.z0, .int .i64 x.x1, .int .i64 x.y1, .int .i64 x.z1, .int .i64 x.x2, .int .i64 x.y2, .int .i64 x.z2], .agg #[.func (.func 49) #[] #[], .func (.func 50) #[] #[], .int .i64 200, .int .i64 40, .func (.func 51) #[] #[]]] w (SoupE (S.ts.take p ++ [x] ++ S.ts.drop p) S.bs S.hs 0 w) := by
  have HK := Lib.hid (fun W (n : New w W) => by have q := s_check C S W (hS.keep n); rw [he] at q; exact q : ∀ W, New w W → Calls Tryz.prog 15 #[.agg #[.int .i64 C.cl, .int .i64 C.cb, .int .i64 C.ht, .int .i64 C.ri, .int .i64 C.ru, .int .i64 C.wd, .int .i64 C.dp], .agg #[.slice S.a0 S.ts.length S.c0, .slice S.a1 S.bs.length S.c1, .slice S.a2 S.hs.length S.c2]] W fun e w' => e = .returned (.int .i64 0) ∧ New W w')
  have hC : C.fine := CfgR.fine_of (by by_cases h : C.err = 0; exact h; unfold SoupV.err at he; rw [if_pos h] at he; cases he)
  have HM := Lib.hid (fun W => by have q := t_may C hC x W; rw [hm] at q; exact q : ∀ W, Calls Tryz.prog 79 #[.agg #[.int .i64 C.cl, .int .i64 C.cb, .int .i64 C.ht, .int .i64 C.ri, .int .i64 C.ru, .int .i64 C.wd, .int .i64 C.dp], .agg #[.int .i64 x.i, .int .i64 x.x0, .int .i64 x.y0, .int .i64 x.z0, .int .i64 x.x1, .int .i64 x.y1, .int .i64 x.z1, .int .i64 x.x2, .int .i64 x.y2, .int .i64 x.z2], .agg #[.func (.func 49) #[] #[], .func (.func 50) #[] #[], .int .i64 200, .int .i64 40, .func (.func 51) #[] #[]]] W fun e w' => e = .returned (.bool true) ∧ New W w')
  have hL := Lib.hid (fun b W => t_list b W)
  have hI := Lib.hid (fun W => t_id x W)
  have HSL := Lib.hid hS.t
  have HR := Lib.hid (hS.t.row.2.2.2.2)
  have hc1 := hS.t.row.2.1
  have hc2 := hS.t.row.2.2.1
  unfold maxLen at hc2
  have hlen := ht
  have hple := hp.le
  have HS := Lib.hid (fun B W (n : New w W) k1 => by have q := t_search S.a0 S.ts S.c0 (by omega) x.i p hp B W (HR.out.keep n) k1; rw [hit] at q; exact q : ∀ B W, New w W → World.cell? W ⟨B, 1, none⟩ = some (.func (.func 50) #[] #[]) → Calls Tryz.prog 87 #[.slice S.a0 S.ts.length S.c0, .int .i64 x.i, .func (.func 88) #[] #[.pointer (some ⟨B, 0, none⟩)]] W fun e w' => e = .returned (.tuple #[.int .i64 p, .bool false]) ∧ New W w')
  have hfd : ((S.ts.length : Int) == 200) = false := by simp; omega
  have HX := Lib.hid (fun a l c W (n : New w W) hl hll => t_exchange S a l c W (hS.keep n) hl (by omega) (by omega) (by omega) hll)
  clear he hC hm hS hit hp hf ht hb hh
  go_enter Tryz.func47, Tryz.ntmps47
  go_wp2_with fail
  generalize hW : World.alloc _ _ = W
  have hn : New w W := by subst hW; (repeat (first | (with_reducible exact New.refl _) | (with_reducible assumption) | ((with_reducible refine New.setB ?_ ?_ _); focus (first | omega | (simp; omega) | (simp; done))) | (with_reducible refine New.alloc ?_ _) | (with_reducible refine New.drew ?_) | (with_reducible refine New.drewN ?_ _) | (with_reducible refine New.hat ?_ _) | ((with_reducible apply New.snart); (with_reducible assumption))))
  ((have g0 : World.cell? (W) ⟨w.heap.size, 0, none⟩ = some (.int .i64 C.cl) := (by subst hW; go_simp)); (have g1 : World.cell? (W) ⟨w.heap.size, 1, none⟩ = some (.int .i64 C.cb) := (by subst hW; go_simp)); (have g2 : World.cell? (W) ⟨w.heap.size, 2, none⟩ = some (.int .i64 C.ht) := (by subst hW; go_simp)); (have g3 : World.cell? (W) ⟨w.heap.size, 3, none⟩ = some (.int .i64 C.ri) := (by subst hW; go_simp)); (have g4 : World.cell? (W) ⟨w.heap.size, 4, none⟩ = some (.int .i64 C.ru) := (by subst hW; go_simp)); (have g5 : World.cell? (W) ⟨w.heap.size, 5, none⟩ = some (.int .i64 C.wd) := (by subst hW; go_simp)); (have g6 : World.cell? (W) ⟨w.heap.size, 6, none⟩ = some (.int .i64 C.dp) := (by subst hW; go_simp)))
  have q0 : W.cell? ⟨w.heap.size + 1, 0, none⟩ = some (.slice S.a0 S.ts.length S.c0) := by subst hW; go_simp
  have q1 : W.cell? ⟨w.heap.size + 1, 1, none⟩ = some (.slice S.a1 S.bs.length S.c1) := by subst hW; go_simp
  have q2 : W.cell? ⟨w.heap.size + 1, 2, none⟩ = some (.slice S.a2 S.hs.length S.c2) := by subst hW; go_simp
  ((have x0 : World.cell? (W) ⟨w.heap.size + 1 + 1, 0, none⟩ = some (.int .i64 x.i) := (by subst hW; go_simp)); (have x1 : World.cell? (W) ⟨w.heap.size + 1 + 1, 1, none⟩ = some (.int .i64 x.x0) := (by subst hW; go_simp)); (have x2 : World.cell? (W) ⟨w.heap.size + 1 + 1, 2, none⟩ = some (.int .i64 x.y0) := (by subst hW; go_simp)); (have x3 : World.cell? (W) ⟨w.heap.size + 1 + 1, 3, none⟩ = some (.int .i64 x.z0) := (by subst hW; go_simp)); (have x4 : World.cell? (W) ⟨w.heap.size + 1 + 1, 4, none⟩ = some (.int .i64 x.x1) := (by subst hW; go_simp)); (have x5 : World.cell? (W) ⟨w.heap.size + 1 + 1, 5, none⟩ = some (.int .i64 x.y1) := (by subst hW; go_simp)); (have x6 : World.cell? (W) ⟨w.heap.size + 1 + 1, 6, none⟩ = some (.int .i64 x.z1) := (by subst hW; go_simp)); (have x7 : World.cell? (W) ⟨w.heap.size + 1 + 1, 7, none⟩ = some (.int .i64 x.x2) := (by subst hW; go_simp)); (have x8 : World.cell? (W) ⟨w.heap.size + 1 + 1, 8, none⟩ = some (.int .i64 x.y2) := (by subst hW; go_simp)); (have x9 : World.cell? (W) ⟨w.heap.size + 1 + 1, 9, none⟩ = some (.int .i64 x.z2) := (by subst hW; go_simp)))
  have k0 : W.cell? ⟨w.heap.size + 1 + 1 + 1, 0, none⟩ = some (.func (.func 49) #[] #[]) := by subst hW; go_simp
  have k1 : W.cell? ⟨w.heap.size + 1 + 1 + 1, 1, none⟩ = some (.func (.func 50) #[] #[]) := by subst hW; go_simp
  have k2 : W.cell? ⟨w.heap.size + 1 + 1 + 1, 2, none⟩ = some (.int .i64 200) := by subst hW; go_simp
  have k3 : W.cell? ⟨w.heap.size + 1 + 1 + 1, 3, none⟩ = some (.int .i64 40) := by subst hW; go_simp
  have k4 : W.cell? ⟨w.heap.size + 1 + 1 + 1, 4, none⟩ = some (.func (.func 51) #[] #[]) := by subst hW; go_simp
  have fz : Thr W (w.heap.size + 1 + 1 + 1 + 1) 3 := by subst hW; exact Thr.new _ _ _ _ (by simp)
  clear hW
  refine (HK.out _ hn).mono ?_
  rintro e W1 ⟨rfl, n1⟩
  replace fz := fz.keep n1
  replace hn := hn.trans n1
  replace q0 := n1.keep q0
  replace q1 := n1.keep q1
  replace q2 := n1.keep q2
  (replace g0 := New.keep (n1) g0; replace g1 := New.keep (n1) g1; replace g2 := New.keep (n1) g2; replace g3 := New.keep (n1) g3; replace g4 := New.keep (n1) g4; replace g5 := New.keep (n1) g5; replace g6 := New.keep (n1) g6)
  (replace x0 := New.keep (n1) x0; replace x1 := New.keep (n1) x1; replace x2 := New.keep (n1) x2; replace x3 := New.keep (n1) x3; replace x4 := New.keep (n1) x4; replace x5 := New.keep (n1) x5; replace x6 := New.keep (n1) x6; replace x7 := New.keep (n1) x7; replace x8 := New.keep (n1) x8; replace x9 := New.keep (n1) x9)
  (replace k0 := New.keep (n1) k0; replace k1 := New.keep (n1) k1; replace k2 := New.keep (n1) k2; replace k3 := New.keep (n1) k3; replace k4 := New.keep (n1) k4)
  clear n1
  go_wp2_with fail
  refine (HM.out _).mono ?_
  rintro e W2 ⟨rfl, n1⟩
  replace fz := fz.keep n1
  replace hn := hn.trans n1
  replace q0 := n1.keep q0
  replace q1 := n1.keep q1
  replace q2 := n1.keep q2
  (replace g0 := New.keep (n1) g0; replace g1 := New.keep (n1) g1; replace g2 := New.keep (n1) g2; replace g3 := New.keep (n1) g3; replace g4 := New.keep (n1) g4; replace g5 := New.keep (n1) g5; replace g6 := New.keep (n1) g6)
  (replace x0 := New.keep (n1) x0; replace x1 := New.keep (n1) x1; replace x2 := New.keep (n1) x2; replace x3 := New.keep (n1) x3; replace x4 := New.keep (n1) x4; replace x5 := New.keep (n1) x5; replace x6 := New.keep (n1) x6; replace x7 := New.keep (n1) x7; replace x8 := New.keep (n1) x8; replace x9 := New.keep (n1) x9)
  (replace k0 := New.keep (n1) k0; replace k1 := New.keep (n1) k1; replace k2 := New.keep (n1) k2; replace k3 := New.keep (n1) k3; replace k4 := New.keep (n1) k4)
  clear n1
  go_wp2_with fail
  refine (hL.out _ _).mono ?_
  rintro e w' ⟨rfl, rfl⟩
  go_wp2_with fail
  refine (hI.out _).mono ?_
  rintro e W3 ⟨rfl, n1⟩
  replace fz := fz.keep n1
  replace hn := hn.trans n1
  replace q0 := n1.keep q0
  replace q1 := n1.keep q1
  replace q2 := n1.keep q2
  (replace g0 := New.keep (n1) g0; replace g1 := New.keep (n1) g1; replace g2 := New.keep (n1) g2; replace g3 := New.keep (n1) g3; replace g4 := New.keep (n1) g4; replace g5 := New.keep (n1) g5; replace g6 := New.keep (n1) g6)
  (replace x0 := New.keep (n1) x0; replace x1 := New.keep (n1) x1; replace x2 := New.keep (n1) x2; replace x3 := New.keep (n1) x3; replace x4 := New.keep (n1) x4; replace x5 := New.keep (n1) x5; replace x6 := New.keep (n1) x6; replace x7 := New.keep (n1) x7; replace x8 := New.keep (n1) x8; replace x9 := New.keep (n1) x9)
  (replace k0 := New.keep (n1) k0; replace k1 := New.keep (n1) k1; replace k2 := New.keep (n1) k2; replace k3 := New.keep (n1) k3; replace k4 := New.keep (n1) k4)
  clear n1
  go_wp2_with fail
  refine (HS.out _ _ hn k1).mono ?_
  rintro e W4 ⟨rfl, n1⟩
  replace fz := fz.keep n1
  replace hn := hn.trans n1
  replace q0 := n1.keep q0
  replace q1 := n1.keep q1
  replace q2 := n1.keep q2
  (replace g0 := New.keep (n1) g0; replace g1 := New.keep (n1) g1; replace g2 := New.keep (n1) g2; replace g3 := New.keep (n1) g3; replace g4 := New.keep (n1) g4; replace g5 := New.keep (n1) g5; replace g6 := New.keep (n1) g6)
  (replace x0 := New.keep (n1) x0; replace x1 := New.keep (n1) x1; replace x2 := New.keep (n1) x2; replace x3 := New.keep (n1) x3; replace x4 := New.keep (n1) x4; replace x5 := New.keep (n1) x5; replace x6 := New.keep (n1) x6; replace x7 := New.keep (n1) x7; replace x8 := New.keep (n1) x8; replace x9 := New.keep (n1) x9)
  (replace k0 := New.keep (n1) k0; replace k1 := New.keep (n1) k1; replace k2 := New.keep (n1) k2; replace k3 := New.keep (n1) k3; replace k4 := New.keep (n1) k4)
  clear n1
  clear HS hI hL HM HK
  clear g0 g1 g2 g3 g4 g5 g6
  go_upto_region 12 with fail
  clear hfd
  have HSL4 := Lib.hid (HSL.out.keep hn)
  have hdl : (S.ts.drop p).length = S.ts.length - p := List.length_drop ..
  have htl : (S.ts.take p).length = p := by rw [List.length_take]; omega
  have HDL := Lib.hid hdl
  have HTL := Lib.hid htl
  clear hdl htl HSL HR
  refine wp_region_loose 13 (t_adV S S.a0 S.ts S.c0 p x w.heap.size) (by kernel_rfl) (by kernel_rfl) t_adV_keep ?_ ?_
  · intro i o hi ho a' w' nn hr hd
    rcases (show i = 0 ∨ i = 1 ∨ i = 2 ∨ i = 3 ∨ i = 4 ∨ i = 5 ∨ i = 6 ∨ i = 7 ∨ i = 8 ∨ i = 9 ∨ i = 10 ∨ i = 11 ∨ i = 12 by omega) with rfl | rfl | rfl | rfl | rfl | rfl | rfl | rfl | rfl | rfl | rfl | rfl | rfl <;> obtain rfl := Option.some.inj ho
    · have r : (a'.tmps[5]?).getD undef = .pointer (some ⟨w.heap.size + 1, 0, none⟩) := (eval_get a' 5).symm.trans (hr 5 (by kernel_rfl))
      have y0 := nn.keep q0
      have y1 := nn.keep q1
      have y2 := nn.keep q2
      exact yields_value (.agg #[.slice S.a0 S.ts.length S.c0, .slice S.a1 S.bs.length S.c1, .slice S.a2 S.hs.length S.c2]) (by go_simp) ⟨New.refl _, rfl⟩
    · have r : (a'.tmps[11]?).getD undef = .slice S.a0 S.ts.length S.c0 := (eval_get a' 11).symm.trans (hr 11 (by kernel_rfl))
      exact yields_value (.slice S.a0 S.ts.length S.c0) (by go_simp) ⟨New.refl _, rfl⟩
    · have r : (a'.tmps[12]?).getD undef = .int .i64 p := (eval_get a' 12).symm.trans (hr 12 (by kernel_rfl))
      exact yields_value (.int .i64 p) (by go_simp) ⟨New.refl _, rfl⟩
    · have r1 : (a'.tmps[55]?).getD undef = .slice S.a0 S.ts.length S.c0 := (eval_get a' 55).symm.trans (hd 1 55 (by omega) (by kernel_rfl) (by kernel_rfl))
      have r2 : (a'.tmps[56]?).getD undef = .int .i64 p := (eval_get a' 56).symm.trans (hd 2 56 (by omega) (by kernel_rfl) (by kernel_rfl))
      have hs := HSL4.out.keep nn
      refine yields_value (.slice S.a0 p S.c0) ?_ ⟨New.refl _, S.a0, S.c0, by rw [HTL.out], ?_⟩
      · rcases t_addr hs with ⟨ha, hl, hc⟩ | ⟨ad, ha, hl⟩ | ⟨b, off, ha, h0, hA⟩
        · have hp0 : p = 0 := by rw [hl] at hple; simpa using hple
          rw [ha, hl, hc] at r1
          rw [hp0] at r2
          rw [ha, hc, hp0]
          simp only [List.length_nil] at r1
          go_simp
        · have hp0 : p = 0 := by rw [hl] at hple; simpa using hple
          rw [ha, hl] at r1
          rw [hp0] at r2
          rw [ha, hp0]
          simp only [List.length_nil] at r1
          obtain ⟨ab, ao, asp⟩ := ad
          clear ha hl hs HX HSL4
          go_simp
          all_goals (intro h; exfalso; omega)
        · rw [ha] at r1
          rw [ha]
          go_simp
          all_goals (intro h; exfalso; omega)
      · obtain ⟨-, h1, h2, h3, h4⟩ := hs.row
        exact ⟨_, _, by rw [HTL.out], by rw [HTL.out]; omega, h2, h3, h4.take p⟩
    · have r : (a'.tmps[6]?).getD undef = .pointer (some ⟨w.heap.size + 1 + 1, 0, none⟩) := (eval_get a' 6).symm.trans (hr 6 (by kernel_rfl))
      (replace x0 := New.keep (nn) x0; replace x1 := New.keep (nn) x1; replace x2 := New.keep (nn) x2; replace x3 := New.keep (nn) x3; replace x4 := New.keep (nn) x4; replace x5 := New.keep (nn) x5; replace x6 := New.keep (nn) x6; replace x7 := New.keep (nn) x7; replace x8 := New.keep (nn) x8; replace x9 := New.keep (nn) x9)
      exact yields_value (.agg #[.int .i64 x.i, .int .i64 x.x0, .int .i64 x.y0, .int .i64 x.z0, .int .i64 x.x1, .int .i64 x.y1, .int .i64 x.z1, .int .i64 x.x2, .int .i64 x.y2, .int .i64 x.z2]) (by go_simp) ⟨New.refl _, rfl⟩
    · have r : (a'.tmps[58]?).getD undef = .agg #[.int .i64 x.i, .int .i64 x.x0, .int .i64 x.y0, .int .i64 x.z0, .int .i64 x.x1, .int .i64 x.y1, .int .i64 x.z1, .int .i64 x.x2, .int .i64 x.y2, .int .i64 x.z2] := (eval_get a' 58).symm.trans (hd 4 58 (by omega) (by kernel_rfl) (by kernel_rfl))
      have hnew := (New.refl w').alloc (.cells x.enc.toArray 35)
      exact yields_value (w' := w'.alloc (.cells x.enc.toArray 35)) (.slice (some ⟨w'.heap.size, 0, none⟩) 1 1) (by show _ = Result.ok (Next.value _) (w'.alloc (.cells #[.int .i64 x.i, .int .i64 x.x0, .int .i64 x.y0, .int .i64 x.z0, .int .i64 x.x1, .int .i64 x.y1, .int .i64 x.z1, .int .i64 x.x2, .int .i64 x.y2, .int .i64 x.z2] 35)); go_simp)
        ⟨hnew, _, rfl, t_one w' x _⟩
    · have r : (a'.tmps[11]?).getD undef = .slice S.a0 S.ts.length S.c0 := (eval_get a' 11).symm.trans (hr 11 (by kernel_rfl))
      exact yields_value (.slice S.a0 S.ts.length S.c0) (by go_simp) ⟨New.refl _, rfl⟩
    · have r : (a'.tmps[12]?).getD undef = .int .i64 p := (eval_get a' 12).symm.trans (hr 12 (by kernel_rfl))
      exact yields_value (.int .i64 p) (by go_simp) ⟨New.refl _, rfl⟩
    · have r1 : (a'.tmps[60]?).getD undef = .slice S.a0 S.ts.length S.c0 := (eval_get a' 60).symm.trans (hd 6 60 (by omega) (by kernel_rfl) (by kernel_rfl))
      have r2 : (a'.tmps[61]?).getD undef = .int .i64 p := (eval_get a' 61).symm.trans (hd 7 61 (by omega) (by kernel_rfl) (by kernel_rfl))
      have hs := HSL4.out.keep nn
      rcases t_addr hs with ⟨ha, hl, hc⟩ | ⟨ad, ha, hl⟩ | ⟨b, off, ha, h0, hA⟩
      · have hp0 : p = 0 := by rw [hl] at hple; simpa using hple
        rw [ha, hl, hc] at r1
        rw [hp0] at r2
        simp only [List.length_nil] at r1
        refine yields_value (.slice none 0 0) ?_ ⟨New.refl _, none, 0, by rw [hl]; simp, by rw [hl]; simpa using Sl.nil⟩
        clear ha hl hs HX HSL4
        go_simp
      · have hp0 : p = 0 := by rw [hl] at hple; simpa using hple
        rw [ha, hl] at r1
        rw [hp0] at r2
        simp only [List.length_nil] at r1
        obtain ⟨-, h1, h2, h3, h4⟩ := hs.row
        refine yields_value (.slice (some ad) 0 S.c0) ?_ ⟨New.refl _, some ad, S.c0, by rw [hl]; simp, by rw [hl, hp0]; exact ⟨_, _, rfl, Nat.zero_le _, h2, fun h => (by cases h), RowIn.nil⟩⟩
        obtain ⟨ab, ao, asp⟩ := ad
        clear ha hl hs HX HSL4
        go_simp
      · rw [ha] at r1
        obtain ⟨-, h1, h2, h3, h4⟩ := hs.row
        by_cases hcp : S.c0 = p
        · refine yields_value (.slice (some ⟨b, off, none⟩) (S.ts.length - p) (S.c0 - p)) (by go_simp; all_goals (intro h; exfalso; omega)) ⟨New.refl _, some ⟨b, off, none⟩, S.c0 - p, by rw [HDL.out], ?_⟩
          exact ⟨_, _, rfl, by rw [HDL.out]; omega, by unfold maxLen; omega, fun h => (by cases h), fun h0 => by rw [HDL.out] at h0; omega⟩
        · refine yields_value (.slice (some ⟨b, off + p * 10, none⟩) (S.ts.length - p) (S.c0 - p)) (by go_simp; all_goals (intro h; exfalso; omega)) ⟨New.refl _, some ⟨b, off + p * 10, none⟩, S.c0 - p, by rw [HDL.out], ?_⟩
          exact ⟨_, _, rfl, by rw [HDL.out]; omega, by unfold maxLen; omega, fun h => (by cases h), fun _ => ⟨b, _, rfl, hA.drop p⟩⟩
    · obtain ⟨a1, c1, e1, s1⟩ : ∃ a1 c1, a'.eval (.tmp 57) = .slice a1 (S.ts.take p).length c1 ∧ Sl TriR.enc 10 w' (.slice a1 (S.ts.take p).length c1) (S.ts.take p) := hd 3 57 (by omega) (by kernel_rfl) (by kernel_rfl)
      obtain ⟨g2, e2, s2⟩ : ∃ g, a'.eval (.tmp 59) = .slice (some ⟨g, 0, none⟩) 1 1 ∧ Sl TriR.enc 10 w' (.slice (some ⟨g, 0, none⟩) 1 1) [x] := hd 5 59 (by omega) (by kernel_rfl) (by kernel_rfl)
      obtain ⟨a3, c3, e3, s3⟩ : ∃ a1 c1, a'.eval (.tmp 62) = .slice a1 (S.ts.drop p).length c1 ∧ Sl TriR.enc 10 w' (.slice a1 (S.ts.drop p).length c1) (S.ts.drop p) := hd 8 62 (by omega) (by kernel_rfl) (by kernel_rfl)
      have r1 : (a'.tmps[57]?).getD undef = _ := (eval_get a' 57).symm.trans e1
      have r2 : (a'.tmps[59]?).getD undef = _ := (eval_get a' 59).symm.trans e2
      have r3 : (a'.tmps[62]?).getD undef = _ := (eval_get a' 62).symm.trans e3
      generalize hL1 : S.ts.take p = L1 at *
      generalize hL2 : S.ts.drop p = L2 at *
      have hnew := (New.refl w').alloc (.cells #[.slice a1 L1.length c1, .slice (some ⟨g2, 0, none⟩) 1 1, .slice a3 L2.length c3] 24)
      exact yields_value (w' := w'.alloc (.cells #[.slice a1 L1.length c1, .slice (some ⟨g2, 0, none⟩) 1 1, .slice a3 L2.length c3] 24)) (.slice (some ⟨w'.heap.size, 0, none⟩) 3 3) (by go_simp)
        ⟨hnew, _, ⟨a1, L1, c1⟩, ⟨some ⟨g2, 0, none⟩, [x], 1⟩, ⟨a3, L2, c3⟩, rfl, t_three (by go_simp) (by go_simp) (by go_simp) (s1.keep hnew) (s2.keep hnew) (s3.keep hnew), hL1.symm, rfl, hL2.symm⟩
    · obtain ⟨g, q0, q1, q2, eg, hp, h1, h2, h3⟩ : ∃ g q0 q1 q2, a'.eval (.tmp 63) = .slice (some ⟨g, 0, none⟩) 3 3 ∧ PartsAt TriR.enc 10 w' g [q0, q1, q2] ∧ q0.l = S.ts.take p ∧ q1.l = [x] ∧ q2.l = S.ts.drop p := hd 9 63 (by omega) (by kernel_rfl) (by kernel_rfl)
      have r : (a'.tmps[63]?).getD undef = _ := (eval_get a' 63).symm.trans eg
      have hfl : ([q0, q1, q2] : List (Part TriR)).flatMap (·.l) = S.ts.take p ++ [x] ++ S.ts.drop p := by simp [h1, h2, h3]
      refine yields_enter 73 #[.slice (some ⟨g, 0, none⟩) 3 3] (by go_simp) ((t_concat g 3 [q0, q1, q2] (by simp) (by rw [hfl, List.length_append, List.length_append, HTL.out, HDL.out, List.length_singleton]; omega) w' hp).mono ?_)
      rintro e w'' ⟨v, he, hs, ho, hn2⟩
      rw [hfl] at hs
      have hs' := hs
      obtain ⟨a1, c1, rfl, hh⟩ := hs'
      exact ⟨_, he, hn2, a1, c1, _, rfl, rfl, hs⟩
    · have r : (a'.tmps[7]?).getD undef = .pointer (some ⟨w.heap.size + 1 + 1 + 1, 0, none⟩) := (eval_get a' 7).symm.trans (hr 7 (by kernel_rfl))
      (replace k0 := New.keep (nn) k0; replace k1 := New.keep (nn) k1; replace k2 := New.keep (nn) k2; replace k3 := New.keep (nn) k3; replace k4 := New.keep (nn) k4)
      exact yields_value (.agg #[.func (.func 49) #[] #[], .func (.func 50) #[] #[], .int .i64 200, .int .i64 40, .func (.func 51) #[] #[]]) (by go_simp) ⟨New.refl _, rfl⟩
    · have e0 : a'.eval (.tmp 54) = .agg #[.slice S.a0 S.ts.length S.c0, .slice S.a1 S.bs.length S.c1, .slice S.a2 S.hs.length S.c2] := hd 0 54 (by omega) (by kernel_rfl) (by kernel_rfl)
      obtain ⟨a1, c1, l1, e1, hl1, hs⟩ : ∃ a1 c1, ∃ l1 : List TriR, a'.eval (.tmp 64) = .slice a1 l1.length c1 ∧ l1 = S.ts.take p ++ [x] ++ S.ts.drop p ∧ Sl TriR.enc 10 w' (.slice a1 l1.length c1) l1 := hd 10 64 (by omega) (by kernel_rfl) (by kernel_rfl)
      have e2 : a'.eval (.tmp 65) = .agg #[.func (.func 49) #[] #[], .func (.func 50) #[] #[], .int .i64 200, .int .i64 40, .func (.func 51) #[] #[]] := hd 11 65 (by omega) (by kernel_rfl) (by kernel_rfl)
      have r54 : (a'.tmps[54]?).getD undef = _ := (eval_get a' 54).symm.trans e0
      have r64 : (a'.tmps[64]?).getD undef = _ := (eval_get a' 64).symm.trans e1
      have r65 : (a'.tmps[65]?).getD undef = _ := (eval_get a' 65).symm.trans e2
      have hll : l1.length ≤ 1000 := by rw [hl1, List.length_append, List.length_append, HTL.out, HDL.out, List.length_singleton]; omega
      refine yields_enter 72 #[.agg #[.slice S.a0 S.ts.length S.c0, .slice S.a1 S.bs.length S.c1, .slice S.a2 S.hs.length S.c2], .slice a1 l1.length c1, .agg #[.func (.func 49) #[] #[], .func (.func 50) #[] #[], .int .i64 200, .int .i64 40, .func (.func 51) #[] #[]]] (by go_simp) ((HX.out a1 l1 c1 w' (hn.trans nn) hs hll).mono ?_)
      rintro e w'' ⟨S', he, h1, h2, h3, h4, h5, h6⟩
      refine ⟨_, he, h6, S', rfl, h1, h5.mono ?_, h2.trans hl1, h3, h4⟩
      have := fz.lt (by omega)
      have := nn.size
      omega
  · intro vs w' nn hv
    obtain ⟨S', e11, h1, h2, h3, h4, h5⟩ : ∃ S' : SoupV, vs 12 = .agg #[.slice S'.a0 S'.ts.length S'.c0, .slice S'.a1 S'.bs.length S'.c1, .slice S'.a2 S'.hs.length S'.c2] ∧ S'.ok w' ∧ S'.own (w.heap.size + 1 + 1 + 1 + 1 + 1) ∧ S'.ts = S.ts.take p ++ [x] ++ S.ts.drop p ∧ S'.bs = S.bs ∧ S'.hs = S.hs := hv 12 (by omega)
    simp only [List.take_succ_cons, List.take_zero, List.drop_succ_cons, List.drop_zero, putL, Act.put, List.setIfInBounds_toArray, List.set_cons_zero, List.set_cons_succ, Nat.reduceAdd, Nat.zero_add]
    rw [e11]
    have H1 := Lib.hid (And.intro h1 (And.intro h2 (And.intro h3 (And.intro h4 h5))))
    clear hv e11 q0 q1 q2 k0 k1 k2 k3 k4 h1 h2 h3 h4 h5 HX HSL4
    clear x0 x1 x2 x3 x4 x5 x6 x7 x8 x9
    go_wp2_with (refine wpList_store_row rfl 28 _ _ rfl _ _ rfl rfl (fz.keep nn) (by kernel_rfl) (by intro v hv; simp at hv; rcases hv with rfl | rfl | rfl <;> rfl) (fun Z nZ kZ cZ => ?_))
    have nz := nZ w (hn.trans nn) (by omega)
    have okz := SoupV.ok_but H1.out.1 H1.out.2.1 (by omega) kZ
    have r0 := cZ 0 (by simp)
    have r1 := cZ 1 (by simp)
    have r2 := cZ 2 (by simp)
    simp only [Nat.zero_add, List.getElem_cons_zero, List.getElem_cons_succ] at r0 r1 r2
    clear nZ kZ cZ
    refine bodyPost_ret (v := .tuple #[.agg #[.slice S'.a0 S'.ts.length S'.c0, .slice S'.a1 S'.bs.length S'.c1, .slice S'.a2 S'.hs.length S'.c2], .int .i64 0]) (by simp [results, Tryz.results47, go_sem, r0, r1, r2]) rfl ?_
    exact ⟨S', rfl, okz, by have := H1.out.2.2.1; simpa using this, by have := H1.out.2.2.2.1; simpa using this, by have := H1.out.2.2.2.2; simpa using this, H1.out.2.1.mono (by omega), nz⟩

end Go.Proofs.YtonngfogbnfbnaaGreat
