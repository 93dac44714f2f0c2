import Derived.Test.YtonngfogbnfbnaaSoMBZ9
import Derived.Test.YtonngfogbnfbnaaSoPBZ9
import Derived.Test.YtonngfogbnfbnaaSoGZ9
import Derived.Test.YtonngfogbnfbnaaSoSZ9
import Derived.Test.YtonngfogbnfbnaaLoose
import Derived.Test.YtonngfogbnfbnaaSoFBZ9
import Derived.Test.YtonngfogbnfbnaaSoHBZ9
import Derived.Test.YtonngfogbnfbnaaSoAAZ9

/- Package soup: one added that may be. -/
namespace Go.Proofs.Ytonngfogbnfbnaa
open Go.RowKit
set_option linter.unusedVariables false

def b_adV (S : SoupV) (a : Option Addr) (l : List BoxR) (c p : Nat) (x : BoxR) (b : Nat) : Nat → World → Value → Prop
  | 0, _, v => v = .agg #[.slice S.a0 S.ts.length S.c0, .slice S.a1 S.bs.length S.c1, .slice S.a2 S.hs.length S.c2]
  | 1, _, v => v = .slice a l.length c
  | 2, _, v => v = .int .i64 p
  | 3, w, v => ∃ a1 c1, v = .slice a1 (l.take p).length c1 ∧ Sl BoxR.enc 8 w (.slice a1 (l.take p).length c1) (l.take p)
  | 4, _, v => v = .agg #[.int .i64 x.i, .int .i64 x.x0, .int .i64 x.z0, .int .i64 x.x1, .int .i64 x.z1, .int .i64 x.y0, .int .i64 x.y1, .int .i64 x.ar]
  | 5, w, v => ∃ g, v = .slice (some ⟨g, 0, none⟩) 1 1 ∧ Sl BoxR.enc 8 w (.slice (some ⟨g, 0, none⟩) 1 1) [x]
  | 6, _, v => v = .slice a l.length c
  | 7, _, v => v = .int .i64 p
  | 8, w, v => ∃ a1 c1, v = .slice a1 (l.drop p).length c1 ∧ Sl BoxR.enc 8 w (.slice a1 (l.drop p).length c1) (l.drop p)
  | 9, w, v => ∃ g q0 q1 q2, v = .slice (some ⟨g, 0, none⟩) 3 3 ∧ PartsAt BoxR.enc 8 w g [q0, q1, q2] ∧ q0.l = l.take p ∧ q1.l = [x] ∧ q2.l = l.drop p
  | 10, w, v => ∃ a1 c1, ∃ l1 : List BoxR, v = .slice a1 l1.length c1 ∧ l1 = l.take p ++ [x] ++ l.drop p ∧ Sl BoxR.enc 8 w (.slice a1 l1.length c1) l1
  | 11, _, v => v = .agg #[.func (.func 70) #[] #[], .func (.func 71) #[] #[], .int .i64 16, .int .i64 2, .func (.func 72) #[] #[]]
  | _, w, v => ∃ S' : SoupV, v = .agg #[.slice S'.a0 S'.ts.length S'.c0, .slice S'.a1 S'.bs.length S'.c1, .slice S'.a2 S'.hs.length S'.c2] ∧ S'.ok w ∧ S'.own (b + 1 + 1 + 1 + 1 + 1) ∧ S'.ts = S.ts ∧ S'.bs = l.take p ++ [x] ++ l.drop p ∧ S'.hs = S.hs
theorem b_adV_keep {S : SoupV} {a : Option Addr} {l : List BoxR} {c p : Nat} {x : BoxR} {b : Nat} : ∀ i w w' v, b_adV S a l c p x b i w v → New w w' → b_adV S a l c p x b i w' v := by
  intro i w w' v h hn
  rcases (show i = 0 ∨ i = 1 ∨ i = 2 ∨ i = 3 ∨ i = 4 ∨ i = 5 ∨ i = 6 ∨ i = 7 ∨ i = 8 ∨ i = 9 ∨ i = 10 ∨ i = 11 ∨ 12 ≤ i by omega) with rfl | rfl | rfl | rfl | rfl | rfl | rfl | rfl | rfl | rfl | rfl | rfl | hi
  · exact h
  · exact h
  · exact h
  · obtain ⟨a1, c1, e, p⟩ := h; exact ⟨a1, c1, e, p.keep hn⟩
  · exact h
  · obtain ⟨g, e, p⟩ := h; exact ⟨g, e, p.keep hn⟩
  · exact h
  · exact h
  · obtain ⟨a1, c1, e, p⟩ := h; exact ⟨a1, c1, e, p.keep hn⟩
  · obtain ⟨g, p, q, r, e, h1, h2⟩ := h; exact ⟨g, p, q, r, e, h1.keep hn, h2⟩
  · obtain ⟨a1, c1, l1, e, h1, h2⟩ := h; exact ⟨a1, c1, l1, e, h1, h2.keep hn⟩
  · exact h
  · obtain ⟨k, rfl⟩ : ∃ k, i = k + 12 := ⟨i - 12, by omega⟩
    obtain ⟨S', e, h1, h2⟩ := h
    exact ⟨S', e, h1.keep hn, h2⟩

theorem b_three {w : World} {g : Nat} {p q r : Part BoxR} (c0 : w.cell? ⟨g, 0, none⟩ = some (.slice p.a p.l.length p.c)) (c1 : w.cell? ⟨g, 1, none⟩ = some (.slice q.a q.l.length q.c)) (c2 : w.cell? ⟨g, 2, none⟩ = some (.slice r.a r.l.length r.c)) (h0 : Sl BoxR.enc 8 w (.slice p.a p.l.length p.c) p.l) (h1 : Sl BoxR.enc 8 w (.slice q.a q.l.length q.c) q.l) (h2 : Sl BoxR.enc 8 w (.slice r.a r.l.length r.c) r.l) : PartsAt BoxR.enc 8 w g [p, q, r]
  | 0, _ => ⟨c0, h0⟩
  | 1, _ => ⟨c1, h1⟩
  | 2, _ => ⟨c2, h2⟩
  | _ + 3, hj => absurd hj (by simp)

/-- What a slice's address can be. -/
theorem b_addr {w : World} {a : Option Addr} {l : List BoxR} {c : Nat} (h : Sl BoxR.enc 8 w (.slice a l.length c) l) : (a = none ∧ l = [] ∧ c = 0) ∨ (∃ ad, a = some ad ∧ l = []) ∨ (∃ b off, a = some ⟨b, off, none⟩ ∧ 0 < l.length ∧ RowAt BoxR.enc 8 w b off l) := by
  obtain ⟨-, h1, h2, h3, h4⟩ := h.row
  rcases Nat.eq_zero_or_pos l.length with q | q
  · have hl := List.eq_nil_of_length_eq_zero q
    cases a with
    | none => exact Or.inl ⟨rfl, hl, h3 rfl⟩
    | some ad => exact Or.inr (Or.inl ⟨ad, rfl, hl⟩)
  · obtain ⟨b, off, e, hA⟩ := h4 q
    exact Or.inr (Or.inr ⟨b, off, e, q, hA⟩)

theorem b_one (w : World) (x : BoxR) (T : TypeId) : Sl BoxR.enc 8 (w.alloc (.cells x.enc.toArray T)) (.slice (some ⟨w.heap.size, 0, none⟩) 1 1) [x] :=
  ⟨_, _, rfl, Nat.le_refl _, by unfold maxLen; omega, fun h => (by cases h), fun _ => ⟨_, 0, rfl, fun j hj => by
    obtain rfl : j = 0 := by simpa using hj
    rw [Nat.zero_mul, Nat.add_zero]
    exact cells_new w x.enc.toArray T⟩⟩

set_option maxHeartbeats 4000000 in
set_option maxRecDepth 100000 in
theorem b_add_ok (C : CfgR) (S : SoupV) (x : BoxR) (w : World) (hS : S.ok w) (he : S.err C = 0) (hm : x.may C = true) (ht : S.ts.length ≤ 900) (hb : S.bs.length ≤ 900) (hh : S.hs.length ≤ 900) (p : Nat) (hp : BoxR.Place S.bs x.i p) (hit : BoxR.hit S.bs x.i p = false) (hf : S.bs.length ≠ 16) :
    Calls Try.prog 29 #[.agg #[.int .i64 C.cl, .int .i64 C.cb, .int .i64 C.ht, .int .i64 C.ri, .int .i64 C.ru, .int .i64 C.wd, .int .i64 C.dp], .agg #[.slice S.a0 S.ts.length S.c0, .slice S.a1 S.bs.length S.c1, .slice S.a2 S.hs.length S.c2], .agg #[.int .i64 x.i, .int .i64 x.x0, .int .i64 x.z0, .int .i64 x.x1, .int .i64 x.z1, .int .i64 x.y0, .int .i64 x.y1, .int .i64 x.ar], .agg #[.func (.func 70) #[] #[], .func (.func 71) #[] #[], .int .i64 16, .int .i64 2, .func (.func 72) #[] #[]]] w (SoupE S.ts (S.bs.take p ++ [x] ++ S.bs.drop p) S.hs 0 w) := by
  have HK := Lib.hid (fun W (n : New w W) => by have q := s_check C S W (hS.keep n); rw [he] at q; exact q : ∀ W, New w W → Calls Try.prog 18 #[.agg #[.int .i64 C.cl, .int .i64 C.cb, .int .i64 C.ht, .int .i64 C.ri, .int .i64 C.ru, .int .i64 C.wd, .int .i64 C.dp], .agg #[.slice S.a0 S.ts.length S.c0, .slice S.a1 S.bs.length S.c1, .slice S.a2 S.hs.length S.c2]] W fun e w' => e = .returned (.int .i64 0) ∧ New W w')
  have hC : C.fine := CfgR.fine_of (by by_cases h : C.err = 0; exact h; unfold SoupV.err at he; rw [if_pos h] at he; cases he)
  have HM := Lib.hid (fun W => by have q := b_may C hC x W; rw [hm] at q; exact q : ∀ W, Calls Try.prog 65 #[.agg #[.int .i64 C.cl, .int .i64 C.cb, .int .i64 C.ht, .int .i64 C.ri, .int .i64 C.ru, .int .i64 C.wd, .int .i64 C.dp], .agg #[.int .i64 x.i, .int .i64 x.x0, .int .i64 x.z0, .int .i64 x.x1, .int .i64 x.z1, .int .i64 x.y0, .int .i64 x.y1, .int .i64 x.ar], .agg #[.func (.func 70) #[] #[], .func (.func 71) #[] #[], .int .i64 16, .int .i64 2, .func (.func 72) #[] #[]]] W fun e w' => e = .returned (.bool true) ∧ New W w')
  have hL := Lib.hid (fun b W => b_list b W)
  have hI := Lib.hid (fun W => b_id x W)
  have HSL := Lib.hid hS.b
  have HR := Lib.hid (hS.b.row.2.2.2.2)
  have hc1 := hS.b.row.2.1
  have hc2 := hS.b.row.2.2.1
  unfold maxLen at hc2
  have hlen := hb
  have hple := hp.le
  have HS := Lib.hid (fun B W (n : New w W) k1 => by have q := b_search S.a1 S.bs S.c1 (by omega) x.i p hp B W (HR.out.keep n) k1; rw [hit] at q; exact q : ∀ B W, New w W → World.cell? W ⟨B, 1, none⟩ = some (.func (.func 71) #[] #[]) → Calls Try.prog 66 #[.slice S.a1 S.bs.length S.c1, .int .i64 x.i, .func (.func 67) #[] #[.pointer (some ⟨B, 0, none⟩)]] W fun e w' => e = .returned (.tuple #[.int .i64 p, .bool false]) ∧ New W w')
  have hfd : ((S.bs.length : Int) == 16) = false := by simp; omega
  have HX := Lib.hid (fun a l c W (n : New w W) hl hll => b_exchange S a l c W (hS.keep n) hl (by omega) (by omega) (by omega) hll)
  clear he hC hm hS hit hp hf ht hb hh
  go_enter Try.func29, Try.ntmps29
  go_wp2_with fail
  generalize hW : World.alloc _ _ = W
  have hn : New w W := by subst hW; (repeat (first | (with_reducible exact New.refl _) | (with_reducible assumption) | ((with_reducible refine New.setB ?_ ?_ _); focus (first | omega | (simp; omega) | (simp; done))) | (with_reducible refine New.alloc ?_ _) | (with_reducible refine New.drew ?_) | (with_reducible refine New.drewN ?_ _) | (with_reducible refine New.hat ?_ _) | ((with_reducible apply New.snart); (with_reducible assumption))))
  ((have g0 : World.cell? (W) ⟨w.heap.size, 0, none⟩ = some (.int .i64 C.cl) := (by subst hW; go_simp)); (have g1 : World.cell? (W) ⟨w.heap.size, 1, none⟩ = some (.int .i64 C.cb) := (by subst hW; go_simp)); (have g2 : World.cell? (W) ⟨w.heap.size, 2, none⟩ = some (.int .i64 C.ht) := (by subst hW; go_simp)); (have g3 : World.cell? (W) ⟨w.heap.size, 3, none⟩ = some (.int .i64 C.ri) := (by subst hW; go_simp)); (have g4 : World.cell? (W) ⟨w.heap.size, 4, none⟩ = some (.int .i64 C.ru) := (by subst hW; go_simp)); (have g5 : World.cell? (W) ⟨w.heap.size, 5, none⟩ = some (.int .i64 C.wd) := (by subst hW; go_simp)); (have g6 : World.cell? (W) ⟨w.heap.size, 6, none⟩ = some (.int .i64 C.dp) := (by subst hW; go_simp)))
  have q0 : W.cell? ⟨w.heap.size + 1, 0, none⟩ = some (.slice S.a0 S.ts.length S.c0) := by subst hW; go_simp
  have q1 : W.cell? ⟨w.heap.size + 1, 1, none⟩ = some (.slice S.a1 S.bs.length S.c1) := by subst hW; go_simp
  have q2 : W.cell? ⟨w.heap.size + 1, 2, none⟩ = some (.slice S.a2 S.hs.length S.c2) := by subst hW; go_simp
  ((have x0 : World.cell? (W) ⟨w.heap.size + 1 + 1, 0, none⟩ = some (.int .i64 x.i) := (by subst hW; go_simp)); (have x1 : World.cell? (W) ⟨w.heap.size + 1 + 1, 1, none⟩ = some (.int .i64 x.x0) := (by subst hW; go_simp)); (have x2 : World.cell? (W) ⟨w.heap.size + 1 + 1, 2, none⟩ = some (.int .i64 x.z0) := (by subst hW; go_simp)); (have x3 : World.cell? (W) ⟨w.heap.size + 1 + 1, 3, none⟩ = some (.int .i64 x.x1) := (by subst hW; go_simp)); (have x4 : World.cell? (W) ⟨w.heap.size + 1 + 1, 4, none⟩ = some (.int .i64 x.z1) := (by subst hW; go_simp)); (have x5 : World.cell? (W) ⟨w.heap.size + 1 + 1, 5, none⟩ = some (.int .i64 x.y0) := (by subst hW; go_simp)); (have x6 : World.cell? (W) ⟨w.heap.size + 1 + 1, 6, none⟩ = some (.int .i64 x.y1) := (by subst hW; go_simp)); (have x7 : World.cell? (W) ⟨w.heap.size + 1 + 1, 7, none⟩ = some (.int .i64 x.ar) := (by subst hW; go_simp)))
  have k0 : W.cell? ⟨w.heap.size + 1 + 1 + 1, 0, none⟩ = some (.func (.func 70) #[] #[]) := by subst hW; go_simp
  have k1 : W.cell? ⟨w.heap.size + 1 + 1 + 1, 1, none⟩ = some (.func (.func 71) #[] #[]) := by subst hW; go_simp
  have k2 : W.cell? ⟨w.heap.size + 1 + 1 + 1, 2, none⟩ = some (.int .i64 16) := by subst hW; go_simp
  have k3 : W.cell? ⟨w.heap.size + 1 + 1 + 1, 3, none⟩ = some (.int .i64 2) := by subst hW; go_simp
  have k4 : W.cell? ⟨w.heap.size + 1 + 1 + 1, 4, none⟩ = some (.func (.func 72) #[] #[]) := by subst hW; go_simp
  have fz : Thr W (w.heap.size + 1 + 1 + 1 + 1) 3 := by subst hW; exact Thr.new _ _ _ _ (by simp)
  clear hW
  refine (HK.out _ hn).mono ?_
  rintro e W1 ⟨rfl, n1⟩
  replace fz := fz.keep n1
  replace hn := hn.trans n1
  replace q0 := n1.keep q0
  replace q1 := n1.keep q1
  replace q2 := n1.keep q2
  (replace g0 := New.keep (n1) g0; replace g1 := New.keep (n1) g1; replace g2 := New.keep (n1) g2; replace g3 := New.keep (n1) g3; replace g4 := New.keep (n1) g4; replace g5 := New.keep (n1) g5; replace g6 := New.keep (n1) g6)
  (replace x0 := New.keep (n1) x0; replace x1 := New.keep (n1) x1; replace x2 := New.keep (n1) x2; replace x3 := New.keep (n1) x3; replace x4 := New.keep (n1) x4; replace x5 := New.keep (n1) x5; replace x6 := New.keep (n1) x6; replace x7 := New.keep (n1) x7)
  (replace k0 := New.keep (n1) k0; replace k1 := New.keep (n1) k1; replace k2 := New.keep (n1) k2; replace k3 := New.keep (n1) k3; replace k4 := New.keep (n1) k4)
  clear n1
  go_wp2_with fail
  refine (HM.out _).mono ?_
  rintro e W2 ⟨rfl, n1⟩
  replace fz := fz.keep n1
  replace hn := hn.trans n1
  replace q0 := n1.keep q0
  replace q1 := n1.keep q1
  replace q2 := n1.keep q2
  (replace g0 := New.keep (n1) g0; replace g1 := New.keep (n1) g1; replace g2 := New.keep (n1) g2; replace g3 := New.keep (n1) g3; replace g4 := New.keep (n1) g4; replace g5 := New.keep (n1) g5; replace g6 := New.keep (n1) g6)
  (replace x0 := New.keep (n1) x0; replace x1 := New.keep (n1) x1; replace x2 := New.keep (n1) x2; replace x3 := New.keep (n1) x3; replace x4 := New.keep (n1) x4; replace x5 := New.keep (n1) x5; replace x6 := New.keep (n1) x6; replace x7 := New.keep (n1) x7)
  (replace k0 := New.keep (n1) k0; replace k1 := New.keep (n1) k1; replace k2 := New.keep (n1) k2; replace k3 := New.keep (n1) k3; replace k4 := New.keep (n1) k4)
  clear n1
  go_wp2_with fail
  refine (hL.out _ _).mono ?_
  rintro e w' ⟨rfl, rfl⟩
  go_wp2_with fail
  refine (hI.out _).mono ?_
  rintro e W3 ⟨rfl, n1⟩
  replace fz := fz.keep n1
  replace hn := hn.trans n1
  replace q0 := n1.keep q0
  replace q1 := n1.keep q1
  replace q2 := n1.keep q2
  (replace g0 := New.keep (n1) g0; replace g1 := New.keep (n1) g1; replace g2 := New.keep (n1) g2; replace g3 := New.keep (n1) g3; replace g4 := New.keep (n1) g4; replace g5 := New.keep (n1) g5; replace g6 := New.keep (n1) g6)
  (replace x0 := New.keep (n1) x0; replace x1 := New.keep (n1) x1; replace x2 := New.keep (n1) x2; replace x3 := New.keep (n1) x3; replace x4 := New.keep (n1) x4; replace x5 := New.keep (n1) x5; replace x6 := New.keep (n1) x6; replace x7 := New.keep (n1) x7)
  (replace k0 := New.keep (n1) k0; replace k1 := New.keep (n1) k1; replace k2 := New.keep (n1) k2; replace k3 := New.keep (n1) k3; replace k4 := New.keep (n1) k4)
  clear n1
  go_wp2_with fail
  refine (HS.out _ _ hn k1).mono ?_
  rintro e W4 ⟨rfl, n1⟩
  replace fz := fz.keep n1
  replace hn := hn.trans n1
  replace q0 := n1.keep q0
  replace q1 := n1.keep q1
  replace q2 := n1.keep q2
  (replace g0 := New.keep (n1) g0; replace g1 := New.keep (n1) g1; replace g2 := New.keep (n1) g2; replace g3 := New.keep (n1) g3; replace g4 := New.keep (n1) g4; replace g5 := New.keep (n1) g5; replace g6 := New.keep (n1) g6)
  (replace x0 := New.keep (n1) x0; replace x1 := New.keep (n1) x1; replace x2 := New.keep (n1) x2; replace x3 := New.keep (n1) x3; replace x4 := New.keep (n1) x4; replace x5 := New.keep (n1) x5; replace x6 := New.keep (n1) x6; replace x7 := New.keep (n1) x7)
  (replace k0 := New.keep (n1) k0; replace k1 := New.keep (n1) k1; replace k2 := New.keep (n1) k2; replace k3 := New.keep (n1) k3; replace k4 := New.keep (n1) k4)
  clear n1
  clear HS hI hL HM HK
  clear g0 g1 g2 g3 g4 g5 g6
  go_upto_region 12 with fail
  clear hfd
  have HSL4 := Lib.hid (HSL.out.keep hn)
  have hdl : (S.bs.drop p).length = S.bs.length - p := List.length_drop ..
  have htl : (S.bs.take p).length = p := by rw [List.length_take]; omega
  have HDL := Lib.hid hdl
  have HTL := Lib.hid htl
  clear hdl htl HSL HR
  refine wp_region_loose 13 (b_adV S S.a1 S.bs S.c1 p x w.heap.size) (by kernel_rfl) (by kernel_rfl) b_adV_keep ?_ ?_
  · intro i o hi ho a' w' nn hr hd
    rcases (show i = 0 ∨ i = 1 ∨ i = 2 ∨ i = 3 ∨ i = 4 ∨ i = 5 ∨ i = 6 ∨ i = 7 ∨ i = 8 ∨ i = 9 ∨ i = 10 ∨ i = 11 ∨ i = 12 by omega) with rfl | rfl | rfl | rfl | rfl | rfl | rfl | rfl | rfl | rfl | rfl | rfl | rfl <;> obtain rfl := Option.some.inj ho
    · have r : (a'.tmps[5]?).getD undef = .pointer (some ⟨w.heap.size + 1, 0, none⟩) := (eval_get a' 5).symm.trans (hr 5 (by kernel_rfl))
      have y0 := nn.keep q0
      have y1 := nn.keep q1
      have y2 := nn.keep q2
      exact yields_value (.agg #[.slice S.a0 S.ts.length S.c0, .slice S.a1 S.bs.length S.c1, .slice S.a2 S.hs.length S.c2]) (by go_simp) ⟨New.refl _, rfl⟩
    · have r : (a'.tmps[11]?).getD undef = .slice S.a1 S.bs.length S.c1 := (eval_get a' 11).symm.trans (hr 11 (by kernel_rfl))
      exact yields_value (.slice S.a1 S.bs.length S.c1) (by go_simp) ⟨New.refl _, rfl⟩
    · have r : (a'.tmps[12]?).getD undef = .int .i64 p := (eval_get a' 12).symm.trans (hr 12 (by kernel_rfl))
      exact yields_value (.int .i64 p) (by go_simp) ⟨New.refl _, rfl⟩
    · have r1 : (a'.tmps[55]?).getD undef = .slice S.a1 S.bs.length S.c1 := (eval_get a' 55).symm.trans (hd 1 55 (by omega) (by kernel_rfl) (by kernel_rfl))
      have r2 : (a'.tmps[56]?).getD undef = .int .i64 p := (eval_get a' 56).symm.trans (hd 2 56 (by omega) (by kernel_rfl) (by kernel_rfl))
      have hs := HSL4.out.keep nn
      refine yields_value (.slice S.a1 p S.c1) ?_ ⟨New.refl _, S.a1, S.c1, by rw [HTL.out], ?_⟩
      · rcases b_addr hs with ⟨ha, hl, hc⟩ | ⟨ad, ha, hl⟩ | ⟨b, off, ha, h0, hA⟩
        · have hp0 : p = 0 := by rw [hl] at hple; simpa using hple
          rw [ha, hl, hc] at r1
          rw [hp0] at r2
          rw [ha, hc, hp0]
          simp only [List.length_nil] at r1
          go_simp
        · have hp0 : p = 0 := by rw [hl] at hple; simpa using hple
          rw [ha, hl] at r1
          rw [hp0] at r2
          rw [ha, hp0]
          simp only [List.length_nil] at r1
          obtain ⟨ab, ao, asp⟩ := ad
          clear ha hl hs HX HSL4
          go_simp
          all_goals (intro h; exfalso; omega)
        · rw [ha] at r1
          rw [ha]
          go_simp
          all_goals (intro h; exfalso; omega)
      · obtain ⟨-, h1, h2, h3, h4⟩ := hs.row
        exact ⟨_, _, by rw [HTL.out], by rw [HTL.out]; omega, h2, h3, h4.take p⟩
    · have r : (a'.tmps[6]?).getD undef = .pointer (some ⟨w.heap.size + 1 + 1, 0, none⟩) := (eval_get a' 6).symm.trans (hr 6 (by kernel_rfl))
      (replace x0 := New.keep (nn) x0; replace x1 := New.keep (nn) x1; replace x2 := New.keep (nn) x2; replace x3 := New.keep (nn) x3; replace x4 := New.keep (nn) x4; replace x5 := New.keep (nn) x5; replace x6 := New.keep (nn) x6; replace x7 := New.keep (nn) x7)
      exact yields_value (.agg #[.int .i64 x.i, .int .i64 x.x0, .int .i64 x.z0, .int .i64 x.x1, .int .i64 x.z1, .int .i64 x.y0, .int .i64 x.y1, .int .i64 x.ar]) (by go_simp) ⟨New.refl _, rfl⟩
    · have r : (a'.tmps[58]?).getD undef = .agg #[.int .i64 x.i, .int .i64 x.x0, .int .i64 x.z0, .int .i64 x.x1, .int .i64 x.z1, .int .i64 x.y0, .int .i64 x.y1, .int .i64 x.ar] := (eval_get a' 58).symm.trans (hd 4 58 (by omega) (by kernel_rfl) (by kernel_rfl))
      have hnew := (New.refl w').alloc (.cells x.enc.toArray 35)
      exact yields_value (w' := w'.alloc (.cells x.enc.toArray 35)) (.slice (some ⟨w'.heap.size, 0, none⟩) 1 1) (by show _ = Result.ok (Next.value _) (w'.alloc (.cells #[.int .i64 x.i, .int .i64 x.x0, .int .i64 x.z0, .int .i64 x.x1, .int .i64 x.z1, .int .i64 x.y0, .int .i64 x.y1, .int .i64 x.ar] 35)); go_simp)
        ⟨hnew, _, rfl, b_one w' x _⟩
    · have r : (a'.tmps[11]?).getD undef = .slice S.a1 S.bs.length S.c1 := (eval_get a' 11).symm.trans (hr 11 (by kernel_rfl))
      exact yields_value (.slice S.a1 S.bs.length S.c1) (by go_simp) ⟨New.refl _, rfl⟩
    · have r : (a'.tmps[12]?).getD undef = .int .i64 p := (eval_get a' 12).symm.trans (hr 12 (by kernel_rfl))
      exact yields_value (.int .i64 p) (by go_simp) ⟨New.refl _, rfl⟩
    · have r1 : (a'.tmps[60]?).getD undef = .slice S.a1 S.bs.length S.c1 := (eval_get a' 60).symm.trans (hd 6 60 (by omega) (by kernel_rfl) (by kernel_rfl))
      have r2 : (a'.tmps[61]?).getD undef = .int .i64 p := (eval_get a' 61).symm.trans (hd 7 61 (by omega) (by kernel_rfl) (by kernel_rfl))
      have hs := HSL4.out.keep nn
      rcases b_addr hs with ⟨ha, hl, hc⟩ | ⟨ad, ha, hl⟩ | ⟨b, off, ha, h0, hA⟩
      · have hp0 : p = 0 := by rw [hl] at hple; simpa using hple
        rw [ha, hl, hc] at r1
        rw [hp0] at r2
        simp only [List.length_nil] at r1
        refine yields_value (.slice none 0 0) ?_ ⟨New.refl _, none, 0, by rw [hl]; simp, by rw [hl]; simpa using Sl.nil⟩
        clear ha hl hs HX HSL4
        go_simp
      · have hp0 : p = 0 := by rw [hl] at hple; simpa using hple
        rw [ha, hl] at r1
        rw [hp0] at r2
        simp only [List.length_nil] at r1
        obtain ⟨-, h1, h2, h3, h4⟩ := hs.row
        refine yields_value (.slice (some ad) 0 S.c1) ?_ ⟨New.refl _, some ad, S.c1, by rw [hl]; simp, by rw [hl, hp0]; exact ⟨_, _, rfl, Nat.zero_le _, h2, fun h => (by cases h), RowIn.nil⟩⟩
        obtain ⟨ab, ao, asp⟩ := ad
        clear ha hl hs HX HSL4
        go_simp
      · rw [ha] at r1
        obtain ⟨-, h1, h2, h3, h4⟩ := hs.row
        by_cases hcp : S.c1 = p
        · refine yields_value (.slice (some ⟨b, off, none⟩) (S.bs.length - p) (S.c1 - p)) (by go_simp; all_goals (intro h; exfalso; omega)) ⟨New.refl _, some ⟨b, off, none⟩, S.c1 - p, by rw [HDL.out], ?_⟩
          exact ⟨_, _, rfl, by rw [HDL.out]; omega, by unfold maxLen; omega, fun h => (by cases h), fun h0 => by rw [HDL.out] at h0; omega⟩
        · refine yields_value (.slice (some ⟨b, off + p * 8, none⟩) (S.bs.length - p) (S.c1 - p)) (by go_simp; all_goals (intro h; exfalso; omega)) ⟨New.refl _, some ⟨b, off + p * 8, none⟩, S.c1 - p, by rw [HDL.out], ?_⟩
          exact ⟨_, _, rfl, by rw [HDL.out]; omega, by unfold maxLen; omega, fun h => (by cases h), fun _ => ⟨b, _, rfl, hA.drop p⟩⟩
    · obtain ⟨a1, c1, e1, s1⟩ : ∃ a1 c1, a'.eval (.tmp 57) = .slice a1 (S.bs.take p).length c1 ∧ Sl BoxR.enc 8 w' (.slice a1 (S.bs.take p).length c1) (S.bs.take p) := hd 3 57 (by omega) (by kernel_rfl) (by kernel_rfl)
      obtain ⟨g2, e2, s2⟩ : ∃ g, a'.eval (.tmp 59) = .slice (some ⟨g, 0, none⟩) 1 1 ∧ Sl BoxR.enc 8 w' (.slice (some ⟨g, 0, none⟩) 1 1) [x] := hd 5 59 (by omega) (by kernel_rfl) (by kernel_rfl)
      obtain ⟨a3, c3, e3, s3⟩ : ∃ a1 c1, a'.eval (.tmp 62) = .slice a1 (S.bs.drop p).length c1 ∧ Sl BoxR.enc 8 w' (.slice a1 (S.bs.drop p).length c1) (S.bs.drop p) := hd 8 62 (by omega) (by kernel_rfl) (by kernel_rfl)
      have r1 : (a'.tmps[57]?).getD undef = _ := (eval_get a' 57).symm.trans e1
      have r2 : (a'.tmps[59]?).getD undef = _ := (eval_get a' 59).symm.trans e2
      have r3 : (a'.tmps[62]?).getD undef = _ := (eval_get a' 62).symm.trans e3
      generalize hL1 : S.bs.take p = L1 at *
      generalize hL2 : S.bs.drop p = L2 at *
      have hnew := (New.refl w').alloc (.cells #[.slice a1 L1.length c1, .slice (some ⟨g2, 0, none⟩) 1 1, .slice a3 L2.length c3] 25)
      exact yields_value (w' := w'.alloc (.cells #[.slice a1 L1.length c1, .slice (some ⟨g2, 0, none⟩) 1 1, .slice a3 L2.length c3] 25)) (.slice (some ⟨w'.heap.size, 0, none⟩) 3 3) (by go_simp)
        ⟨hnew, _, ⟨a1, L1, c1⟩, ⟨some ⟨g2, 0, none⟩, [x], 1⟩, ⟨a3, L2, c3⟩, rfl, b_three (by go_simp) (by go_simp) (by go_simp) (s1.keep hnew) (s2.keep hnew) (s3.keep hnew), hL1.symm, rfl, hL2.symm⟩
    · obtain ⟨g, q0, q1, q2, eg, hp, h1, h2, h3⟩ : ∃ g q0 q1 q2, a'.eval (.tmp 63) = .slice (some ⟨g, 0, none⟩) 3 3 ∧ PartsAt BoxR.enc 8 w' g [q0, q1, q2] ∧ q0.l = S.bs.take p ∧ q1.l = [x] ∧ q2.l = S.bs.drop p := hd 9 63 (by omega) (by kernel_rfl) (by kernel_rfl)
      have r : (a'.tmps[63]?).getD undef = _ := (eval_get a' 63).symm.trans eg
      have hfl : ([q0, q1, q2] : List (Part BoxR)).flatMap (·.l) = S.bs.take p ++ [x] ++ S.bs.drop p := by simp [h1, h2, h3]
      refine yields_enter 69 #[.slice (some ⟨g, 0, none⟩) 3 3] (by go_simp) ((b_concat g 3 [q0, q1, q2] (by simp) (by rw [hfl, List.length_append, List.length_append, HTL.out, HDL.out, List.length_singleton]; omega) w' hp).mono ?_)
      rintro e w'' ⟨v, he, hs, ho, hn2⟩
      rw [hfl] at hs
      have hs' := hs
      obtain ⟨a1, c1, rfl, hh⟩ := hs'
      exact ⟨_, he, hn2, a1, c1, _, rfl, rfl, hs⟩
    · have r : (a'.tmps[7]?).getD undef = .pointer (some ⟨w.heap.size + 1 + 1 + 1, 0, none⟩) := (eval_get a' 7).symm.trans (hr 7 (by kernel_rfl))
      (replace k0 := New.keep (nn) k0; replace k1 := New.keep (nn) k1; replace k2 := New.keep (nn) k2; replace k3 := New.keep (nn) k3; replace k4 := New.keep (nn) k4)
      exact yields_value (.agg #[.func (.func 70) #[] #[], .func (.func 71) #[] #[], .int .i64 16, .int .i64 2, .func (.func 72) #[] #[]]) (by go_simp) ⟨New.refl _, rfl⟩
    · have e0 : a'.eval (.tmp 54) = .agg #[.slice S.a0 S.ts.length S.c0, .slice S.a1 S.bs.length S.c1, .slice S.a2 S.hs.length S.c2] := hd 0 54 (by omega) (by kernel_rfl) (by kernel_rfl)
      obtain ⟨a1, c1, l1, e1, hl1, hs⟩ : ∃ a1 c1, ∃ l1 : List BoxR, a'.eval (.tmp 64) = .slice a1 l1.length c1 ∧ l1 = S.bs.take p ++ [x] ++ S.bs.drop p ∧ Sl BoxR.enc 8 w' (.slice a1 l1.length c1) l1 := hd 10 64 (by omega) (by kernel_rfl) (by kernel_rfl)
      have e2 : a'.eval (.tmp 65) = .agg #[.func (.func 70) #[] #[], .func (.func 71) #[] #[], .int .i64 16, .int .i64 2, .func (.func 72) #[] #[]] := hd 11 65 (by omega) (by kernel_rfl) (by kernel_rfl)
      have r54 : (a'.tmps[54]?).getD undef = _ := (eval_get a' 54).symm.trans e0
      have r64 : (a'.tmps[64]?).getD undef = _ := (eval_get a' 64).symm.trans e1
      have r65 : (a'.tmps[65]?).getD undef = _ := (eval_get a' 65).symm.trans e2
      have hll : l1.length ≤ 1000 := by rw [hl1, List.length_append, List.length_append, HTL.out, HDL.out, List.length_singleton]; omega
      refine yields_enter 68 #[.agg #[.slice S.a0 S.ts.length S.c0, .slice S.a1 S.bs.length S.c1, .slice S.a2 S.hs.length S.c2], .slice a1 l1.length c1, .agg #[.func (.func 70) #[] #[], .func (.func 71) #[] #[], .int .i64 16, .int .i64 2, .func (.func 72) #[] #[]]] (by go_simp) ((HX.out a1 l1 c1 w' (hn.trans nn) hs hll).mono ?_)
      rintro e w'' ⟨S', he, h1, h2, h3, h4, h5, h6⟩
      refine ⟨_, he, h6, S', rfl, h1, h5.mono ?_, h2, h3.trans hl1, h4⟩
      have := fz.lt (by omega)
      have := nn.size
      omega
  · intro vs w' nn hv
    obtain ⟨S', e11, h1, h2, h3, h4, h5⟩ : ∃ S' : SoupV, vs 12 = .agg #[.slice S'.a0 S'.ts.length S'.c0, .slice S'.a1 S'.bs.length S'.c1, .slice S'.a2 S'.hs.length S'.c2] ∧ S'.ok w' ∧ S'.own (w.heap.size + 1 + 1 + 1 + 1 + 1) ∧ S'.ts = S.ts ∧ S'.bs = S.bs.take p ++ [x] ++ S.bs.drop p ∧ S'.hs = S.hs := hv 12 (by omega)
    simp only [List.take_succ_cons, List.take_zero, List.drop_succ_cons, List.drop_zero, putL, Act.put, List.setIfInBounds_toArray, List.set_cons_zero, List.set_cons_succ, Nat.reduceAdd, Nat.zero_add]
    rw [e11]
    have H1 := Lib.hid (And.intro h1 (And.intro h2 (And.intro h3 (And.intro h4 h5))))
    clear hv e11 q0 q1 q2 k0 k1 k2 k3 k4 h1 h2 h3 h4 h5 HX HSL4
    clear x0 x1 x2 x3 x4 x5 x6 x7
    go_wp2_with (refine wpList_store_row rfl 28 _ _ rfl _ _ rfl rfl (fz.keep nn) (by kernel_rfl) (by intro v hv; simp at hv; rcases hv with rfl | rfl | rfl <;> rfl) (fun Z nZ kZ cZ => ?_))
    have nz := nZ w (hn.trans nn) (by omega)
    have okz := SoupV.ok_but H1.out.1 H1.out.2.1 (by omega) kZ
    have r0 := cZ 0 (by simp)
    have r1 := cZ 1 (by simp)
    have r2 := cZ 2 (by simp)
    simp only [Nat.zero_add, List.getElem_cons_zero, List.getElem_cons_succ] at r0 r1 r2
    clear nZ kZ cZ
    refine bodyPost_ret (v := .tuple #[.agg #[.slice S'.a0 S'.ts.length S'.c0, .slice S'.a1 S'.bs.length S'.c1, .slice S'.a2 S'.hs.length S'.c2], .int .i64 0]) (by simp [results, Try.results29, go_sem, r0, r1, r2]) rfl ?_
    exact ⟨S', rfl, okz, by have := H1.out.2.2.1; simpa using this, by have := H1.out.2.2.2.1; simpa using this, by have := H1.out.2.2.2.2; simpa using this, H1.out.2.1.mono (by omega), nz⟩

end Go.Proofs.Ytonngfogbnfbnaa

/- Package soup: one added that is there, or where there is no room. -/
namespace Go.Proofs.Ytonngfogbnfbnaa
open Go.RowKit
set_option linter.unusedVariables false

set_option maxHeartbeats 4000000 in
set_option maxRecDepth 100000 in
theorem b_add_twice (C : CfgR) (S : SoupV) (x : BoxR) (w : World) (hS : S.ok w) (he : S.err C = 0) (hm : x.may C = true) (hlen : S.bs.length ≤ 1000) (p : Nat) (hp : BoxR.Place S.bs x.i p) (hh : BoxR.hit S.bs x.i p = true) :
    Calls Try.prog 29 #[.agg #[.int .i64 C.cl, .int .i64 C.cb, .int .i64 C.ht, .int .i64 C.ri, .int .i64 C.ru, .int .i64 C.wd, .int .i64 C.dp], .agg #[.slice S.a0 S.ts.length S.c0, .slice S.a1 S.bs.length S.c1, .slice S.a2 S.hs.length S.c2], .agg #[.int .i64 x.i, .int .i64 x.x0, .int .i64 x.z0, .int .i64 x.x1, .int .i64 x.z1, .int .i64 x.y0, .int .i64 x.y1, .int .i64 x.ar], .agg #[.func (.func 70) #[] #[], .func (.func 71) #[] #[], .int .i64 16, .int .i64 2, .func (.func 72) #[] #[]]] w (SoupE [] [] [] 50 w) := by
  have HK := Lib.hid (fun W (n : New w W) => by have q := s_check C S W (hS.keep n); rw [he] at q; exact q : ∀ W, New w W → Calls Try.prog 18 #[.agg #[.int .i64 C.cl, .int .i64 C.cb, .int .i64 C.ht, .int .i64 C.ri, .int .i64 C.ru, .int .i64 C.wd, .int .i64 C.dp], .agg #[.slice S.a0 S.ts.length S.c0, .slice S.a1 S.bs.length S.c1, .slice S.a2 S.hs.length S.c2]] W fun e w' => e = .returned (.int .i64 0) ∧ New W w')
  have hC : C.fine := CfgR.fine_of (by by_cases h : C.err = 0; exact h; unfold SoupV.err at he; rw [if_pos h] at he; cases he)
  have HM := Lib.hid (fun W => by have q := b_may C hC x W; rw [hm] at q; exact q : ∀ W, Calls Try.prog 65 #[.agg #[.int .i64 C.cl, .int .i64 C.cb, .int .i64 C.ht, .int .i64 C.ri, .int .i64 C.ru, .int .i64 C.wd, .int .i64 C.dp], .agg #[.int .i64 x.i, .int .i64 x.x0, .int .i64 x.z0, .int .i64 x.x1, .int .i64 x.z1, .int .i64 x.y0, .int .i64 x.y1, .int .i64 x.ar], .agg #[.func (.func 70) #[] #[], .func (.func 71) #[] #[], .int .i64 16, .int .i64 2, .func (.func 72) #[] #[]]] W fun e w' => e = .returned (.bool true) ∧ New W w')
  have hL := Lib.hid (fun b W => b_list b W)
  have hI := Lib.hid (fun W => b_id x W)
  have HR := Lib.hid (hS.b.row.2.2.2.2)
  have HS := Lib.hid (fun B W (n : New w W) k1 => by have q := b_search S.a1 S.bs S.c1 hlen x.i p hp B W (HR.out.keep n) k1; rw [hh] at q; exact q : ∀ B W, New w W → World.cell? W ⟨B, 1, none⟩ = some (.func (.func 71) #[] #[]) → Calls Try.prog 66 #[.slice S.a1 S.bs.length S.c1, .int .i64 x.i, .func (.func 67) #[] #[.pointer (some ⟨B, 0, none⟩)]] W fun e w' => e = .returned (.tuple #[.int .i64 p, .bool true]) ∧ New W w')
  clear he hC hm hS hh hp
  go_enter Try.func29, Try.ntmps29
  go_wp2_with fail
  generalize hW : World.alloc _ _ = W
  have hn : New w W := by subst hW; (repeat (first | (with_reducible exact New.refl _) | (with_reducible assumption) | ((with_reducible refine New.setB ?_ ?_ _); focus (first | omega | (simp; omega) | (simp; done))) | (with_reducible refine New.alloc ?_ _) | (with_reducible refine New.drew ?_) | (with_reducible refine New.drewN ?_ _) | (with_reducible refine New.hat ?_ _) | ((with_reducible apply New.snart); (with_reducible assumption))))
  ((have g0 : World.cell? (W) ⟨w.heap.size, 0, none⟩ = some (.int .i64 C.cl) := (by subst hW; go_simp)); (have g1 : World.cell? (W) ⟨w.heap.size, 1, none⟩ = some (.int .i64 C.cb) := (by subst hW; go_simp)); (have g2 : World.cell? (W) ⟨w.heap.size, 2, none⟩ = some (.int .i64 C.ht) := (by subst hW; go_simp)); (have g3 : World.cell? (W) ⟨w.heap.size, 3, none⟩ = some (.int .i64 C.ri) := (by subst hW; go_simp)); (have g4 : World.cell? (W) ⟨w.heap.size, 4, none⟩ = some (.int .i64 C.ru) := (by subst hW; go_simp)); (have g5 : World.cell? (W) ⟨w.heap.size, 5, none⟩ = some (.int .i64 C.wd) := (by subst hW; go_simp)); (have g6 : World.cell? (W) ⟨w.heap.size, 6, none⟩ = some (.int .i64 C.dp) := (by subst hW; go_simp)))
  have q0 : W.cell? ⟨w.heap.size + 1, 0, none⟩ = some (.slice S.a0 S.ts.length S.c0) := by subst hW; go_simp
  have q1 : W.cell? ⟨w.heap.size + 1, 1, none⟩ = some (.slice S.a1 S.bs.length S.c1) := by subst hW; go_simp
  have q2 : W.cell? ⟨w.heap.size + 1, 2, none⟩ = some (.slice S.a2 S.hs.length S.c2) := by subst hW; go_simp
  ((have x0 : World.cell? (W) ⟨w.heap.size + 1 + 1, 0, none⟩ = some (.int .i64 x.i) := (by subst hW; go_simp)); (have x1 : World.cell? (W) ⟨w.heap.size + 1 + 1, 1, none⟩ = some (.int .i64 x.x0) := (by subst hW; go_simp)); (have x2 : World.cell? (W) ⟨w.heap.size + 1 + 1, 2, none⟩ = some (.int .i64 x.z0) := (by subst hW; go_simp)); (have x3 : World.cell? (W) ⟨w.heap.size + 1 + 1, 3, none⟩ = some (.int .i64 x.x1) := (by subst hW; go_simp)); (have x4 : World.cell? (W) ⟨w.heap.size + 1 + 1, 4, none⟩ = some (.int .i64 x.z1) := (by subst hW; go_simp)); (have x5 : World.cell? (W) ⟨w.heap.size + 1 + 1, 5, none⟩ = some (.int .i64 x.y0) := (by subst hW; go_simp)); (have x6 : World.cell? (W) ⟨w.heap.size + 1 + 1, 6, none⟩ = some (.int .i64 x.y1) := (by subst hW; go_simp)); (have x7 : World.cell? (W) ⟨w.heap.size + 1 + 1, 7, none⟩ = some (.int .i64 x.ar) := (by subst hW; go_simp)))
  have k0 : W.cell? ⟨w.heap.size + 1 + 1 + 1, 0, none⟩ = some (.func (.func 70) #[] #[]) := by subst hW; go_simp
  have k1 : W.cell? ⟨w.heap.size + 1 + 1 + 1, 1, none⟩ = some (.func (.func 71) #[] #[]) := by subst hW; go_simp
  have k2 : W.cell? ⟨w.heap.size + 1 + 1 + 1, 2, none⟩ = some (.int .i64 16) := by subst hW; go_simp
  have k3 : W.cell? ⟨w.heap.size + 1 + 1 + 1, 3, none⟩ = some (.int .i64 2) := by subst hW; go_simp
  have k4 : W.cell? ⟨w.heap.size + 1 + 1 + 1, 4, none⟩ = some (.func (.func 72) #[] #[]) := by subst hW; go_simp
  have fz : Thr W (w.heap.size + 1 + 1 + 1 + 1) 3 := by subst hW; exact Thr.new _ _ _ _ (by simp)
  clear hW
  refine (HK.out _ hn).mono ?_
  rintro e W1 ⟨rfl, n1⟩
  replace fz := fz.keep n1
  replace hn := hn.trans n1
  replace q0 := n1.keep q0
  replace q1 := n1.keep q1
  replace q2 := n1.keep q2
  (replace g0 := New.keep (n1) g0; replace g1 := New.keep (n1) g1; replace g2 := New.keep (n1) g2; replace g3 := New.keep (n1) g3; replace g4 := New.keep (n1) g4; replace g5 := New.keep (n1) g5; replace g6 := New.keep (n1) g6)
  (replace x0 := New.keep (n1) x0; replace x1 := New.keep (n1) x1; replace x2 := New.keep (n1) x2; replace x3 := New.keep (n1) x3; replace x4 := New.keep (n1) x4; replace x5 := New.keep (n1) x5; replace x6 := New.keep (n1) x6; replace x7 := New.keep (n1) x7)
  (replace k0 := New.keep (n1) k0; replace k1 := New.keep (n1) k1; replace k2 := New.keep (n1) k2; replace k3 := New.keep (n1) k3; replace k4 := New.keep (n1) k4)
  clear n1
  go_wp2_with fail
  refine (HM.out _).mono ?_
  rintro e W2 ⟨rfl, n1⟩
  replace fz := fz.keep n1
  replace hn := hn.trans n1
  replace q0 := n1.keep q0
  replace q1 := n1.keep q1
  replace q2 := n1.keep q2
  (replace g0 := New.keep (n1) g0; replace g1 := New.keep (n1) g1; replace g2 := New.keep (n1) g2; replace g3 := New.keep (n1) g3; replace g4 := New.keep (n1) g4; replace g5 := New.keep (n1) g5; replace g6 := New.keep (n1) g6)
  (replace x0 := New.keep (n1) x0; replace x1 := New.keep (n1) x1; replace x2 := New.keep (n1) x2; replace x3 := New.keep (n1) x3; replace x4 := New.keep (n1) x4; replace x5 := New.keep (n1) x5; replace x6 := New.keep (n1) x6; replace x7 := New.keep (n1) x7)
  (replace k0 := New.keep (n1) k0; replace k1 := New.keep (n1) k1; replace k2 := New.keep (n1) k2; replace k3 := New.keep (n1) k3; replace k4 := New.keep (n1) k4)
  clear n1
  go_wp2_with fail
  refine (hL.out _ _).mono ?_
  rintro e w' ⟨rfl, rfl⟩
  go_wp2_with fail
  refine (hI.out _).mono ?_
  rintro e W3 ⟨rfl, n1⟩
  replace fz := fz.keep n1
  replace hn := hn.trans n1
  replace q0 := n1.keep q0
  replace q1 := n1.keep q1
  replace q2 := n1.keep q2
  (replace g0 := New.keep (n1) g0; replace g1 := New.keep (n1) g1; replace g2 := New.keep (n1) g2; replace g3 := New.keep (n1) g3; replace g4 := New.keep (n1) g4; replace g5 := New.keep (n1) g5; replace g6 := New.keep (n1) g6)
  (replace x0 := New.keep (n1) x0; replace x1 := New.keep (n1) x1; replace x2 := New.keep (n1) x2; replace x3 := New.keep (n1) x3; replace x4 := New.keep (n1) x4; replace x5 := New.keep (n1) x5; replace x6 := New.keep (n1) x6; replace x7 := New.keep (n1) x7)
  (replace k0 := New.keep (n1) k0; replace k1 := New.keep (n1) k1; replace k2 := New.keep (n1) k2; replace k3 := New.keep (n1) k3; replace k4 := New.keep (n1) k4)
  clear n1
  go_wp2_with fail
  refine (HS.out _ _ hn k1).mono ?_
  rintro e W4 ⟨rfl, n1⟩
  replace fz := fz.keep n1
  replace hn := hn.trans n1
  replace q0 := n1.keep q0
  replace q1 := n1.keep q1
  replace q2 := n1.keep q2
  (replace g0 := New.keep (n1) g0; replace g1 := New.keep (n1) g1; replace g2 := New.keep (n1) g2; replace g3 := New.keep (n1) g3; replace g4 := New.keep (n1) g4; replace g5 := New.keep (n1) g5; replace g6 := New.keep (n1) g6)
  (replace x0 := New.keep (n1) x0; replace x1 := New.keep (n1) x1; replace x2 := New.keep (n1) x2; replace x3 := New.keep (n1) x3; replace x4 := New.keep (n1) x4; replace x5 := New.keep (n1) x5; replace x6 := New.keep (n1) x6; replace x7 := New.keep (n1) x7)
  (replace k0 := New.keep (n1) k0; replace k1 := New.keep (n1) k1; replace k2 := New.keep (n1) k2; replace k3 := New.keep (n1) k3; replace k4 := New.keep (n1) k4)
  clear n1
  clear HS hI hL HM HK
  go_wp2_with (refine wpList_store_row rfl 28 _ _ rfl _ _ rfl rfl (fz.keep (by (repeat (first | (with_reducible exact New.refl _) | (with_reducible assumption) | ((with_reducible refine New.setB ?_ ?_ _); focus (first | omega | (simp; omega) | (simp; done))) | (with_reducible refine New.alloc ?_ _) | (with_reducible refine New.drew ?_) | (with_reducible refine New.drewN ?_ _) | (with_reducible refine New.hat ?_ _) | ((with_reducible apply New.snart); (with_reducible assumption)))))) (by kernel_rfl) (by intro v hv; simp at hv; rcases hv with rfl | rfl | rfl <;> rfl) (fun Z nZ kZ cZ => ?_))
  have nz := nZ w (by (repeat (first | (with_reducible exact New.refl _) | (with_reducible assumption) | ((with_reducible refine New.setB ?_ ?_ _); focus (first | omega | (simp; omega) | (simp; done))) | (with_reducible refine New.alloc ?_ _) | (with_reducible refine New.drew ?_) | (with_reducible refine New.drewN ?_ _) | (with_reducible refine New.hat ?_ _) | ((with_reducible apply New.snart); (with_reducible assumption))))) (by omega)
  have r0 := cZ 0 (by simp)
  have r1 := cZ 1 (by simp)
  have r2 := cZ 2 (by simp)
  simp only [Nat.zero_add, List.getElem_cons_zero, List.getElem_cons_succ] at r0 r1 r2
  clear nZ kZ cZ
  refine bodyPost_ret (v := .tuple #[.agg #[.slice none 0 0, .slice none 0 0, .slice none 0 0], .int .i64 50]) (by simp [results, Try.results29, go_sem, r0, r1, r2]) rfl ?_
  exact ⟨SoupV.none, rfl, SoupV.none_ok _, rfl, rfl, rfl, SoupV.none_own _, nz⟩

set_option maxHeartbeats 4000000 in
set_option maxRecDepth 100000 in
theorem b_add_full (C : CfgR) (S : SoupV) (x : BoxR) (w : World) (hS : S.ok w) (he : S.err C = 0) (hm : x.may C = true) (hlen : S.bs.length ≤ 1000) (p : Nat) (hp : BoxR.Place S.bs x.i p) (hh : BoxR.hit S.bs x.i p = false) (hf : S.bs.length = 16) :
    Calls Try.prog 29 #[.agg #[.int .i64 C.cl, .int .i64 C.cb, .int .i64 C.ht, .int .i64 C.ri, .int .i64 C.ru, .int .i64 C.wd, .int .i64 C.dp], .agg #[.slice S.a0 S.ts.length S.c0, .slice S.a1 S.bs.length S.c1, .slice S.a2 S.hs.length S.c2], .agg #[.int .i64 x.i, .int .i64 x.x0, .int .i64 x.z0, .int .i64 x.x1, .int .i64 x.z1, .int .i64 x.y0, .int .i64 x.y1, .int .i64 x.ar], .agg #[.func (.func 70) #[] #[], .func (.func 71) #[] #[], .int .i64 16, .int .i64 2, .func (.func 72) #[] #[]]] w (SoupE [] [] [] 51 w) := by
  have HK := Lib.hid (fun W (n : New w W) => by have q := s_check C S W (hS.keep n); rw [he] at q; exact q : ∀ W, New w W → Calls Try.prog 18 #[.agg #[.int .i64 C.cl, .int .i64 C.cb, .int .i64 C.ht, .int .i64 C.ri, .int .i64 C.ru, .int .i64 C.wd, .int .i64 C.dp], .agg #[.slice S.a0 S.ts.length S.c0, .slice S.a1 S.bs.length S.c1, .slice S.a2 S.hs.length S.c2]] W fun e w' => e = .returned (.int .i64 0) ∧ New W w')
  have hC : C.fine := CfgR.fine_of (by by_cases h : C.err = 0; exact h; unfold SoupV.err at he; rw [if_pos h] at he; cases he)
  have HM := Lib.hid (fun W => by have q := b_may C hC x W; rw [hm] at q; exact q : ∀ W, Calls Try.prog 65 #[.agg #[.int .i64 C.cl, .int .i64 C.cb, .int .i64 C.ht, .int .i64 C.ri, .int .i64 C.ru, .int .i64 C.wd, .int .i64 C.dp], .agg #[.int .i64 x.i, .int .i64 x.x0, .int .i64 x.z0, .int .i64 x.x1, .int .i64 x.z1, .int .i64 x.y0, .int .i64 x.y1, .int .i64 x.ar], .agg #[.func (.func 70) #[] #[], .func (.func 71) #[] #[], .int .i64 16, .int .i64 2, .func (.func 72) #[] #[]]] W fun e w' => e = .returned (.bool true) ∧ New W w')
  have hL := Lib.hid (fun b W => b_list b W)
  have hI := Lib.hid (fun W => b_id x W)
  have HR := Lib.hid (hS.b.row.2.2.2.2)
  have HS := Lib.hid (fun B W (n : New w W) k1 => by have q := b_search S.a1 S.bs S.c1 hlen x.i p hp B W (HR.out.keep n) k1; rw [hh] at q; exact q : ∀ B W, New w W → World.cell? W ⟨B, 1, none⟩ = some (.func (.func 71) #[] #[]) → Calls Try.prog 66 #[.slice S.a1 S.bs.length S.c1, .int .i64 x.i, .func (.func 67) #[] #[.pointer (some ⟨B, 0, none⟩)]] W fun e w' => e = .returned (.tuple #[.int .i64 p, .bool false]) ∧ New W w')
  have hfd : ((S.bs.length : Int) == 16) = true := by simp [hf]
  clear hf
  clear he hC hm hS hh hp
  go_enter Try.func29, Try.ntmps29
  go_wp2_with fail
  generalize hW : World.alloc _ _ = W
  have hn : New w W := by subst hW; (repeat (first | (with_reducible exact New.refl _) | (with_reducible assumption) | ((with_reducible refine New.setB ?_ ?_ _); focus (first | omega | (simp; omega) | (simp; done))) | (with_reducible refine New.alloc ?_ _) | (with_reducible refine New.drew ?_) | (with_reducible refine New.drewN ?_ _) | (with_reducible refine New.hat ?_ _) | ((with_reducible apply New.snart); (with_reducible assumption))))
  ((have g0 : World.cell? (W) ⟨w.heap.size, 0, none⟩ = some (.int .i64 C.cl) := (by subst hW; go_simp)); (have g1 : World.cell? (W) ⟨w.heap.size, 1, none⟩ = some (.int .i64 C.cb) := (by subst hW; go_simp)); (have g2 : World.cell? (W) ⟨w.heap.size, 2, none⟩ = some (.int .i64 C.ht) := (by subst hW; go_simp)); (have g3 : World.cell? (W) ⟨w.heap.size, 3, none⟩ = some (.int .i64 C.ri) := (by subst hW; go_simp)); (have g4 : World.cell? (W) ⟨w.heap.size, 4, none⟩ = some (.int .i64 C.ru) := (by subst hW; go_simp)); (have g5 : World.cell? (W) ⟨w.heap.size, 5, none⟩ = some (.int .i64 C.wd) := (by subst hW; go_simp)); (have g6 : World.cell? (W) ⟨w.heap.size, 6, none⟩ = some (.int .i64 C.dp) := (by subst hW; go_simp)))
  have q0 : W.cell? ⟨w.heap.size + 1, 0, none⟩ = some (.slice S.a0 S.ts.length S.c0) := by subst hW; go_simp
  have q1 : W.cell? ⟨w.heap.size + 1, 1, none⟩ = some (.slice S.a1 S.bs.length S.c1) := by subst hW; go_simp
  have q2 : W.cell? ⟨w.heap.size + 1, 2, none⟩ = some (.slice S.a2 S.hs.length S.c2) := by subst hW; go_simp
  ((have x0 : World.cell? (W) ⟨w.heap.size + 1 + 1, 0, none⟩ = some (.int .i64 x.i) := (by subst hW; go_simp)); (have x1 : World.cell? (W) ⟨w.heap.size + 1 + 1, 1, none⟩ = some (.int .i64 x.x0) := (by subst hW; go_simp)); (have x2 : World.cell? (W) ⟨w.heap.size + 1 + 1, 2, none⟩ = some (.int .i64 x.z0) := (by subst hW; go_simp)); (have x3 : World.cell? (W) ⟨w.heap.size + 1 + 1, 3, none⟩ = some (.int .i64 x.x1) := (by subst hW; go_simp)); (have x4 : World.cell? (W) ⟨w.heap.size + 1 + 1, 4, none⟩ = some (.int .i64 x.z1) := (by subst hW; go_simp)); (have x5 : World.cell? (W) ⟨w.heap.size + 1 + 1, 5, none⟩ = some (.int .i64 x.y0) := (by subst hW; go_simp)); (have x6 : World.cell? (W) ⟨w.heap.size + 1 + 1, 6, none⟩ = some (.int .i64 x.y1) := (by subst hW; go_simp)); (have x7 : World.cell? (W) ⟨w.heap.size + 1 + 1, 7, none⟩ = some (.int .i64 x.ar) := (by subst hW; go_simp)))
  have k0 : W.cell? ⟨w.heap.size + 1 + 1 + 1, 0, none⟩ = some (.func (.func 70) #[] #[]) := by subst hW; go_simp
  have k1 : W.cell? ⟨w.heap.size + 1 + 1 + 1, 1, none⟩ = some (.func (.func 71) #[] #[]) := by subst hW; go_simp
  have k2 : W.cell? ⟨w.heap.size + 1 + 1 + 1, 2, none⟩ = some (.int .i64 16) := by subst hW; go_simp
  have k3 : W.cell? ⟨w.heap.size + 1 + 1 + 1, 3, none⟩ = some (.int .i64 2) := by subst hW; go_simp
  have k4 : W.cell? ⟨w.heap.size + 1 + 1 + 1, 4, none⟩ = some (.func (.func 72) #[] #[]) := by subst hW; go_simp
  have fz : Thr W (w.heap.size + 1 + 1 + 1 + 1) 3 := by subst hW; exact Thr.new _ _ _ _ (by simp)
  clear hW
  refine (HK.out _ hn).mono ?_
  rintro e W1 ⟨rfl, n1⟩
  replace fz := fz.keep n1
  replace hn := hn.trans n1
  replace q0 := n1.keep q0
  replace q1 := n1.keep q1
  replace q2 := n1.keep q2
  (replace g0 := New.keep (n1) g0; replace g1 := New.keep (n1) g1; replace g2 := New.keep (n1) g2; replace g3 := New.keep (n1) g3; replace g4 := New.keep (n1) g4; replace g5 := New.keep (n1) g5; replace g6 := New.keep (n1) g6)
  (replace x0 := New.keep (n1) x0; replace x1 := New.keep (n1) x1; replace x2 := New.keep (n1) x2; replace x3 := New.keep (n1) x3; replace x4 := New.keep (n1) x4; replace x5 := New.keep (n1) x5; replace x6 := New.keep (n1) x6; replace x7 := New.keep (n1) x7)
  (replace k0 := New.keep (n1) k0; replace k1 := New.keep (n1) k1; replace k2 := New.keep (n1) k2; replace k3 := New.keep (n1) k3; replace k4 := New.keep (n1) k4)
  clear n1
  go_wp2_with fail
  refine (HM.out _).mono ?_
  rintro e W2 ⟨rfl, n1⟩
  replace fz := fz.keep n1
  replace hn := hn.trans n1
  replace q0 := n1.keep q0
  replace q1 := n1.keep q1
  replace q2 := n1.keep q2
  (replace g0 := New.keep (n1) g0; replace g1 := New.keep (n1) g1; replace g2 := New.keep (n1) g2; replace g3 := New.keep (n1) g3; replace g4 := New.keep (n1) g4; replace g5 := New.keep (n1) g5; replace g6 := New.keep (n1) g6)
  (replace x0 := New.keep (n1) x0; replace x1 := New.keep (n1) x1; replace x2 := New.keep (n1) x2; replace x3 := New.keep (n1) x3; replace x4 := New.keep (n1) x4; replace x5 := New.keep (n1) x5; replace x6 := New.keep (n1) x6; replace x7 := New.keep (n1) x7)
  (replace k0 := New.keep (n1) k0; replace k1 := New.keep (n1) k1; replace k2 := New.keep (n1) k2; replace k3 := New.keep (n1) k3; replace k4 := New.keep (n1) k4)
  clear n1
  go_wp2_with fail
  refine (hL.out _ _).mono ?_
  rintro e w' ⟨rfl, rfl⟩
  go_wp2_with fail
  refine (hI.out _).mono ?_
  rintro e W3 ⟨rfl, n1⟩
  replace fz := fz.keep n1
  replace hn := hn.trans n1
  replace q0 := n1.keep q0
  replace q1 := n1.keep q1
  replace q2 := n1.keep q2
  (replace g0 := New.keep (n1) g0; replace g1 := New.keep (n1) g1; replace g2 := New.keep (n1) g2; replace g3 := New.keep (n1) g3; replace g4 := New.keep (n1) g4; replace g5 := New.keep (n1) g5; replace g6 := New.keep (n1) g6)
  (replace x0 := New.keep (n1) x0; replace x1 := New.keep (n1) x1; replace x2 := New.keep (n1) x2; replace x3 := New.keep (n1) x3; replace x4 := New.keep (n1) x4; replace x5 := New.keep (n1) x5; replace x6 := New.keep (n1) x6; replace x7 := New.keep (n1) x7)
  (replace k0 := New.keep (n1) k0; replace k1 := New.keep (n1) k1; replace k2 := New.keep (n1) k2; replace k3 := New.keep (n1) k3; replace k4 := New.keep (n1) k4)
  clear n1
  go_wp2_with fail
  refine (HS.out _ _ hn k1).mono ?_
  rintro e W4 ⟨rfl, n1⟩
  replace fz := fz.keep n1
  replace hn := hn.trans n1
  replace q0 := n1.keep q0
  replace q1 := n1.keep q1
  replace q2 := n1.keep q2
  (replace g0 := New.keep (n1) g0; replace g1 := New.keep (n1) g1; replace g2 := New.keep (n1) g2; replace g3 := New.keep (n1) g3; replace g4 := New.keep (n1) g4; replace g5 := New.keep (n1) g5; replace g6 := New.keep (n1) g6)
  (replace x0 := New.keep (n1) x0; replace x1 := New.keep (n1) x1; replace x2 := New.keep (n1) x2; replace x3 := New.keep (n1) x3; replace x4 := New.keep (n1) x4; replace x5 := New.keep (n1) x5; replace x6 := New.keep (n1) x6; replace x7 := New.keep (n1) x7)
  (replace k0 := New.keep (n1) k0; replace k1 := New.keep (n1) k1; replace k2 := New.keep (n1) k2; replace k3 := New.keep (n1) k3; replace k4 := New.keep (n1) k4)
  clear n1
  clear HS hI hL HM HK
  go_wp2_with (refine wpList_store_row rfl 28 _ _ rfl _ _ rfl rfl (fz.keep (by (repeat (first | (with_reducible exact New.refl _) | (with_reducible assumption) | ((with_reducible refine New.setB ?_ ?_ _); focus (first | omega | (simp; omega) | (simp; done))) | (with_reducible refine New.alloc ?_ _) | (with_reducible refine New.drew ?_) | (with_reducible refine New.drewN ?_ _) | (with_reducible refine New.hat ?_ _) | ((with_reducible apply New.snart); (with_reducible assumption)))))) (by kernel_rfl) (by intro v hv; simp at hv; rcases hv with rfl | rfl | rfl <;> rfl) (fun Z nZ kZ cZ => ?_))
  have nz := nZ w (by (repeat (first | (with_reducible exact New.refl _) | (with_reducible assumption) | ((with_reducible refine New.setB ?_ ?_ _); focus (first | omega | (simp; omega) | (simp; done))) | (with_reducible refine New.alloc ?_ _) | (with_reducible refine New.drew ?_) | (with_reducible refine New.drewN ?_ _) | (with_reducible refine New.hat ?_ _) | ((with_reducible apply New.snart); (with_reducible assumption))))) (by omega)
  have r0 := cZ 0 (by simp)
  have r1 := cZ 1 (by simp)
  have r2 := cZ 2 (by simp)
  simp only [Nat.zero_add, List.getElem_cons_zero, List.getElem_cons_succ] at r0 r1 r2
  clear nZ kZ cZ
  refine bodyPost_ret (v := .tuple #[.agg #[.slice none 0 0, .slice none 0 0, .slice none 0 0], .int .i64 51]) (by simp [results, Try.results29, go_sem, r0, r1, r2]) rfl ?_
  exact ⟨SoupV.none, rfl, SoupV.none_ok _, rfl, rfl, rfl, SoupV.none_own _, nz⟩

end Go.Proofs.Ytonngfogbnfbnaa

/- Package soup: one added. -/
namespace Go.Proofs.Ytonngfogbnfbnaa
open Go.RowKit
set_option linter.unusedVariables false

set_option maxHeartbeats 4000000 in
set_option maxRecDepth 100000 in
theorem b_add_err (C : CfgR) (S : SoupV) (x : BoxR) (w : World) (hS : S.ok w) (e0 : Int) (he : S.err C = e0) (h0 : e0 ≠ 0) :
    Calls Try.prog 29 #[.agg #[.int .i64 C.cl, .int .i64 C.cb, .int .i64 C.ht, .int .i64 C.ri, .int .i64 C.ru, .int .i64 C.wd, .int .i64 C.dp], .agg #[.slice S.a0 S.ts.length S.c0, .slice S.a1 S.bs.length S.c1, .slice S.a2 S.hs.length S.c2], .agg #[.int .i64 x.i, .int .i64 x.x0, .int .i64 x.z0, .int .i64 x.x1, .int .i64 x.z1, .int .i64 x.y0, .int .i64 x.y1, .int .i64 x.ar], .agg #[.func (.func 70) #[] #[], .func (.func 71) #[] #[], .int .i64 16, .int .i64 2, .func (.func 72) #[] #[]]] w (SoupE [] [] [] e0 w) := by
  have HK := Lib.hid (fun W (n : New w W) => by have q := s_check C S W (hS.keep n); rw [he] at q; exact q : ∀ W, New w W → Calls Try.prog 18 #[.agg #[.int .i64 C.cl, .int .i64 C.cb, .int .i64 C.ht, .int .i64 C.ri, .int .i64 C.ru, .int .i64 C.wd, .int .i64 C.dp], .agg #[.slice S.a0 S.ts.length S.c0, .slice S.a1 S.bs.length S.c1, .slice S.a2 S.hs.length S.c2]] W fun e w' => e = .returned (.int .i64 e0) ∧ New W w')
  have hb : (e0 != 0) = true := by simpa using h0
  clear he h0 hS
  go_enter Try.func29, Try.ntmps29
  go_wp2_with fail
  generalize hW : World.alloc _ _ = W
  have hn : New w W := by subst hW; (repeat (first | (with_reducible exact New.refl _) | (with_reducible assumption) | ((with_reducible refine New.setB ?_ ?_ _); focus (first | omega | (simp; omega) | (simp; done))) | (with_reducible refine New.alloc ?_ _) | (with_reducible refine New.drew ?_) | (with_reducible refine New.drewN ?_ _) | (with_reducible refine New.hat ?_ _) | ((with_reducible apply New.snart); (with_reducible assumption))))
  ((have g0 : World.cell? (W) ⟨w.heap.size, 0, none⟩ = some (.int .i64 C.cl) := (by subst hW; go_simp)); (have g1 : World.cell? (W) ⟨w.heap.size, 1, none⟩ = some (.int .i64 C.cb) := (by subst hW; go_simp)); (have g2 : World.cell? (W) ⟨w.heap.size, 2, none⟩ = some (.int .i64 C.ht) := (by subst hW; go_simp)); (have g3 : World.cell? (W) ⟨w.heap.size, 3, none⟩ = some (.int .i64 C.ri) := (by subst hW; go_simp)); (have g4 : World.cell? (W) ⟨w.heap.size, 4, none⟩ = some (.int .i64 C.ru) := (by subst hW; go_simp)); (have g5 : World.cell? (W) ⟨w.heap.size, 5, none⟩ = some (.int .i64 C.wd) := (by subst hW; go_simp)); (have g6 : World.cell? (W) ⟨w.heap.size, 6, none⟩ = some (.int .i64 C.dp) := (by subst hW; go_simp)))
  have q0 : W.cell? ⟨w.heap.size + 1, 0, none⟩ = some (.slice S.a0 S.ts.length S.c0) := by subst hW; go_simp
  have q1 : W.cell? ⟨w.heap.size + 1, 1, none⟩ = some (.slice S.a1 S.bs.length S.c1) := by subst hW; go_simp
  have q2 : W.cell? ⟨w.heap.size + 1, 2, none⟩ = some (.slice S.a2 S.hs.length S.c2) := by subst hW; go_simp
  ((have x0 : World.cell? (W) ⟨w.heap.size + 1 + 1, 0, none⟩ = some (.int .i64 x.i) := (by subst hW; go_simp)); (have x1 : World.cell? (W) ⟨w.heap.size + 1 + 1, 1, none⟩ = some (.int .i64 x.x0) := (by subst hW; go_simp)); (have x2 : World.cell? (W) ⟨w.heap.size + 1 + 1, 2, none⟩ = some (.int .i64 x.z0) := (by subst hW; go_simp)); (have x3 : World.cell? (W) ⟨w.heap.size + 1 + 1, 3, none⟩ = some (.int .i64 x.x1) := (by subst hW; go_simp)); (have x4 : World.cell? (W) ⟨w.heap.size + 1 + 1, 4, none⟩ = some (.int .i64 x.z1) := (by subst hW; go_simp)); (have x5 : World.cell? (W) ⟨w.heap.size + 1 + 1, 5, none⟩ = some (.int .i64 x.y0) := (by subst hW; go_simp)); (have x6 : World.cell? (W) ⟨w.heap.size + 1 + 1, 6, none⟩ = some (.int .i64 x.y1) := (by subst hW; go_simp)); (have x7 : World.cell? (W) ⟨w.heap.size + 1 + 1, 7, none⟩ = some (.int .i64 x.ar) := (by subst hW; go_simp)))
  have k0 : W.cell? ⟨w.heap.size + 1 + 1 + 1, 0, none⟩ = some (.func (.func 70) #[] #[]) := by subst hW; go_simp
  have k1 : W.cell? ⟨w.heap.size + 1 + 1 + 1, 1, none⟩ = some (.func (.func 71) #[] #[]) := by subst hW; go_simp
  have k2 : W.cell? ⟨w.heap.size + 1 + 1 + 1, 2, none⟩ = some (.int .i64 16) := by subst hW; go_simp
  have k3 : W.cell? ⟨w.heap.size + 1 + 1 + 1, 3, none⟩ = some (.int .i64 2) := by subst hW; go_simp
  have k4 : W.cell? ⟨w.heap.size + 1 + 1 + 1, 4, none⟩ = some (.func (.func 72) #[] #[]) := by subst hW; go_simp
  have fz : Thr W (w.heap.size + 1 + 1 + 1 + 1) 3 := by subst hW; exact Thr.new _ _ _ _ (by simp)
  clear hW
  refine (HK.out _ hn).mono ?_
  rintro e W1 ⟨rfl, n1⟩
  replace fz := fz.keep n1
  replace hn := hn.trans n1
  replace q0 := n1.keep q0
  replace q1 := n1.keep q1
  replace q2 := n1.keep q2
  (replace g0 := New.keep (n1) g0; replace g1 := New.keep (n1) g1; replace g2 := New.keep (n1) g2; replace g3 := New.keep (n1) g3; replace g4 := New.keep (n1) g4; replace g5 := New.keep (n1) g5; replace g6 := New.keep (n1) g6)
  (replace x0 := New.keep (n1) x0; replace x1 := New.keep (n1) x1; replace x2 := New.keep (n1) x2; replace x3 := New.keep (n1) x3; replace x4 := New.keep (n1) x4; replace x5 := New.keep (n1) x5; replace x6 := New.keep (n1) x6; replace x7 := New.keep (n1) x7)
  (replace k0 := New.keep (n1) k0; replace k1 := New.keep (n1) k1; replace k2 := New.keep (n1) k2; replace k3 := New.keep (n1) k3; replace k4 := New.keep (n1) k4)
  clear n1
  go_wp2_with (refine wpList_store_row rfl 28 _ _ rfl _ _ rfl rfl (fz.keep (by (repeat (first | (with_reducible exact New.refl _) | (with_reducible assumption) | ((with_reducible refine New.setB ?_ ?_ _); focus (first | omega | (simp; omega) | (simp; done))) | (with_reducible refine New.alloc ?_ _) | (with_reducible refine New.drew ?_) | (with_reducible refine New.drewN ?_ _) | (with_reducible refine New.hat ?_ _) | ((with_reducible apply New.snart); (with_reducible assumption)))))) (by kernel_rfl) (by intro v hv; simp at hv; rcases hv with rfl | rfl | rfl <;> rfl) (fun Z nZ kZ cZ => ?_))
  have nz := nZ w (by (repeat (first | (with_reducible exact New.refl _) | (with_reducible assumption) | ((with_reducible refine New.setB ?_ ?_ _); focus (first | omega | (simp; omega) | (simp; done))) | (with_reducible refine New.alloc ?_ _) | (with_reducible refine New.drew ?_) | (with_reducible refine New.drewN ?_ _) | (with_reducible refine New.hat ?_ _) | ((with_reducible apply New.snart); (with_reducible assumption))))) (by omega)
  have r0 := cZ 0 (by simp)
  have r1 := cZ 1 (by simp)
  have r2 := cZ 2 (by simp)
  simp only [Nat.zero_add, List.getElem_cons_zero, List.getElem_cons_succ] at r0 r1 r2
  clear nZ kZ cZ
  refine bodyPost_ret (v := .tuple #[.agg #[.slice none 0 0, .slice none 0 0, .slice none 0 0], .int .i64 e0]) (by simp [results, Try.results29, go_sem, r0, r1, r2]) rfl ?_
  exact ⟨SoupV.none, rfl, SoupV.none_ok _, rfl, rfl, rfl, SoupV.none_own _, nz⟩

set_option maxHeartbeats 4000000 in
set_option maxRecDepth 100000 in
theorem b_add_wrong (C : CfgR) (S : SoupV) (x : BoxR) (w : World) (hS : S.ok w) (he : S.err C = 0) (hm : x.may C = false) :
    Calls Try.prog 29 #[.agg #[.int .i64 C.cl, .int .i64 C.cb, .int .i64 C.ht, .int .i64 C.ri, .int .i64 C.ru, .int .i64 C.wd, .int .i64 C.dp], .agg #[.slice S.a0 S.ts.length S.c0, .slice S.a1 S.bs.length S.c1, .slice S.a2 S.hs.length S.c2], .agg #[.int .i64 x.i, .int .i64 x.x0, .int .i64 x.z0, .int .i64 x.x1, .int .i64 x.z1, .int .i64 x.y0, .int .i64 x.y1, .int .i64 x.ar], .agg #[.func (.func 70) #[] #[], .func (.func 71) #[] #[], .int .i64 16, .int .i64 2, .func (.func 72) #[] #[]]] w (SoupE [] [] [] 2 w) := by
  have HK := Lib.hid (fun W (n : New w W) => by have q := s_check C S W (hS.keep n); rw [he] at q; exact q : ∀ W, New w W → Calls Try.prog 18 #[.agg #[.int .i64 C.cl, .int .i64 C.cb, .int .i64 C.ht, .int .i64 C.ri, .int .i64 C.ru, .int .i64 C.wd, .int .i64 C.dp], .agg #[.slice S.a0 S.ts.length S.c0, .slice S.a1 S.bs.length S.c1, .slice S.a2 S.hs.length S.c2]] W fun e w' => e = .returned (.int .i64 0) ∧ New W w')
  have hC : C.fine := CfgR.fine_of (by by_cases h : C.err = 0; exact h; unfold SoupV.err at he; rw [if_pos h] at he; cases he)
  have HM := Lib.hid (fun W => by have q := b_may C hC x W; rw [hm] at q; exact q : ∀ W, Calls Try.prog 65 #[.agg #[.int .i64 C.cl, .int .i64 C.cb, .int .i64 C.ht, .int .i64 C.ri, .int .i64 C.ru, .int .i64 C.wd, .int .i64 C.dp], .agg #[.int .i64 x.i, .int .i64 x.x0, .int .i64 x.z0, .int .i64 x.x1, .int .i64 x.z1, .int .i64 x.y0, .int .i64 x.y1, .int .i64 x.ar], .agg #[.func (.func 70) #[] #[], .func (.func 71) #[] #[], .int .i64 16, .int .i64 2, .func (.func 72) #[] #[]]] W fun e w' => e = .returned (.bool false) ∧ New W w')
  clear he hC hm hS
  go_enter Try.func29, Try.ntmps29
  go_wp2_with fail
  generalize hW : World.alloc _ _ = W
  have hn : New w W := by subst hW; (repeat (first | (with_reducible exact New.refl _) | (with_reducible assumption) | ((with_reducible refine New.setB ?_ ?_ _); focus (first | omega | (simp; omega) | (simp; done))) | (with_reducible refine New.alloc ?_ _) | (with_reducible refine New.drew ?_) | (with_reducible refine New.drewN ?_ _) | (with_reducible refine New.hat ?_ _) | ((with_reducible apply New.snart); (with_reducible assumption))))
  ((have g0 : World.cell? (W) ⟨w.heap.size, 0, none⟩ = some (.int .i64 C.cl) := (by subst hW; go_simp)); (have g1 : World.cell? (W) ⟨w.heap.size, 1, none⟩ = some (.int .i64 C.cb) := (by subst hW; go_simp)); (have g2 : World.cell? (W) ⟨w.heap.size, 2, none⟩ = some (.int .i64 C.ht) := (by subst hW; go_simp)); (have g3 : World.cell? (W) ⟨w.heap.size, 3, none⟩ = some (.int .i64 C.ri) := (by subst hW; go_simp)); (have g4 : World.cell? (W) ⟨w.heap.size, 4, none⟩ = some (.int .i64 C.ru) := (by subst hW; go_simp)); (have g5 : World.cell? (W) ⟨w.heap.size, 5, none⟩ = some (.int .i64 C.wd) := (by subst hW; go_simp)); (have g6 : World.cell? (W) ⟨w.heap.size, 6, none⟩ = some (.int .i64 C.dp) := (by subst hW; go_simp)))
  have q0 : W.cell? ⟨w.heap.size + 1, 0, none⟩ = some (.slice S.a0 S.ts.length S.c0) := by subst hW; go_simp
  have q1 : W.cell? ⟨w.heap.size + 1, 1, none⟩ = some (.slice S.a1 S.bs.length S.c1) := by subst hW; go_simp
  have q2 : W.cell? ⟨w.heap.size + 1, 2, none⟩ = some (.slice S.a2 S.hs.length S.c2) := by subst hW; go_simp
  ((have x0 : World.cell? (W) ⟨w.heap.size + 1 + 1, 0, none⟩ = some (.int .i64 x.i) := (by subst hW; go_simp)); (have x1 : World.cell? (W) ⟨w.heap.size + 1 + 1, 1, none⟩ = some (.int .i64 x.x0) := (by subst hW; go_simp)); (have x2 : World.cell? (W) ⟨w.heap.size + 1 + 1, 2, none⟩ = some (.int .i64 x.z0) := (by subst hW; go_simp)); (have x3 : World.cell? (W) ⟨w.heap.size + 1 + 1, 3, none⟩ = some (.int .i64 x.x1) := (by subst hW; go_simp)); (have x4 : World.cell? (W) ⟨w.heap.size + 1 + 1, 4, none⟩ = some (.int .i64 x.z1) := (by subst hW; go_simp)); (have x5 : World.cell? (W) ⟨w.heap.size + 1 + 1, 5, none⟩ = some (.int .i64 x.y0) := (by subst hW; go_simp)); (have x6 : World.cell? (W) ⟨w.heap.size + 1 + 1, 6, none⟩ = some (.int .i64 x.y1) := (by subst hW; go_simp)); (have x7 : World.cell? (W) ⟨w.heap.size + 1 + 1, 7, none⟩ = some (.int .i64 x.ar) := (by subst hW; go_simp)))
  have k0 : W.cell? ⟨w.heap.size + 1 + 1 + 1, 0, none⟩ = some (.func (.func 70) #[] #[]) := by subst hW; go_simp
  have k1 : W.cell? ⟨w.heap.size + 1 + 1 + 1, 1, none⟩ = some (.func (.func 71) #[] #[]) := by subst hW; go_simp
  have k2 : W.cell? ⟨w.heap.size + 1 + 1 + 1, 2, none⟩ = some (.int .i64 16) := by subst hW; go_simp
  have k3 : W.cell? ⟨w.heap.size + 1 + 1 + 1, 3, none⟩ = some (.int .i64 2) := by subst hW; go_simp
  have k4 : W.cell? ⟨w.heap.size + 1 + 1 + 1, 4, none⟩ = some (.func (.func 72) #[] #[]) := by subst hW; go_simp
  have fz : Thr W (w.heap.size + 1 + 1 + 1 + 1) 3 := by subst hW; exact Thr.new _ _ _ _ (by simp)
  clear hW
  refine (HK.out _ hn).mono ?_
  rintro e W1 ⟨rfl, n1⟩
  replace fz := fz.keep n1
  replace hn := hn.trans n1
  replace q0 := n1.keep q0
  replace q1 := n1.keep q1
  replace q2 := n1.keep q2
  (replace g0 := New.keep (n1) g0; replace g1 := New.keep (n1) g1; replace g2 := New.keep (n1) g2; replace g3 := New.keep (n1) g3; replace g4 := New.keep (n1) g4; replace g5 := New.keep (n1) g5; replace g6 := New.keep (n1) g6)
  (replace x0 := New.keep (n1) x0; replace x1 := New.keep (n1) x1; replace x2 := New.keep (n1) x2; replace x3 := New.keep (n1) x3; replace x4 := New.keep (n1) x4; replace x5 := New.keep (n1) x5; replace x6 := New.keep (n1) x6; replace x7 := New.keep (n1) x7)
  (replace k0 := New.keep (n1) k0; replace k1 := New.keep (n1) k1; replace k2 := New.keep (n1) k2; replace k3 := New.keep (n1) k3; replace k4 := New.keep (n1) k4)
  clear n1
  go_wp2_with fail
  refine (HM.out _).mono ?_
  rintro e W2 ⟨rfl, n1⟩
  replace fz := fz.keep n1
  replace hn := hn.trans n1
  replace q0 := n1.keep q0
  replace q1 := n1.keep q1
  replace q2 := n1.keep q2
  (replace g0 := New.keep (n1) g0; replace g1 := New.keep (n1) g1; replace g2 := New.keep (n1) g2; replace g3 := New.keep (n1) g3; replace g4 := New.keep (n1) g4; replace g5 := New.keep (n1) g5; replace g6 := New.keep (n1) g6)
  (replace x0 := New.keep (n1) x0; replace x1 := New.keep (n1) x1; replace x2 := New.keep (n1) x2; replace x3 := New.keep (n1) x3; replace x4 := New.keep (n1) x4; replace x5 := New.keep (n1) x5; replace x6 := New.keep (n1) x6; replace x7 := New.keep (n1) x7)
  (replace k0 := New.keep (n1) k0; replace k1 := New.keep (n1) k1; replace k2 := New.keep (n1) k2; replace k3 := New.keep (n1) k3; replace k4 := New.keep (n1) k4)
  clear n1
  clear HM HK
  go_upto_region 5 with fail
  obtain ⟨⟨v0, u0⟩, f0⟩ := fz 0 (by omega)
  obtain ⟨⟨v1, u1⟩, f1⟩ := fz 1 (by omega)
  obtain ⟨⟨v2, u2⟩, f2⟩ := fz 2 (by omega)
  have hlt := fz.lt (by omega)
  clear fz q0 q1 q2 k0 k1 k2 k4
  clear x0 x1 x2 x3 x4 x5 x6 x7
  clear g0 g1 g2 g3 g4 g5 g6
  go_region
  all_goals
    go_wp2_with fail
    refine bodyPost_ret (v := .tuple #[.agg #[.slice none 0 0, .slice none 0 0, .slice none 0 0], .int .i64 2]) (by simp [results, Try.results29, go_sem, *]) rfl ?_
    exact ⟨SoupV.none, rfl, SoupV.none_ok _, rfl, rfl, rfl, SoupV.none_own _, by (repeat (first | (with_reducible exact New.refl _) | (with_reducible assumption) | ((with_reducible refine New.setB ?_ ?_ _); focus (first | omega | (simp; omega) | (simp; done))) | (with_reducible refine New.alloc ?_ _) | (with_reducible refine New.drew ?_) | (with_reducible refine New.drewN ?_ _) | (with_reducible refine New.hat ?_ _) | ((with_reducible apply New.snart); (with_reducible assumption))))⟩

end Go.Proofs.Ytonngfogbnfbnaa

/- Package soup: AddTri, AddBox, AddHop, over what adds. -/
namespace Go.Proofs.Ytonngfogbnfbnaa
open Go.RowKit
set_option linter.unusedVariables false

def b_AdV (C : CfgR) (S : SoupV) (x : BoxR) (er : Int) (T : List TriR) (B : List BoxR) (H : List HopR) (b : Nat) : Nat → World → Value → Prop
  | 0, _, v => v = .agg #[.int .i64 C.cl, .int .i64 C.cb, .int .i64 C.ht, .int .i64 C.ri, .int .i64 C.ru, .int .i64 C.wd, .int .i64 C.dp]
  | 1, _, v => v = .agg #[.slice S.a0 S.ts.length S.c0, .slice S.a1 S.bs.length S.c1, .slice S.a2 S.hs.length S.c2]
  | 2, _, v => v = .agg #[.int .i64 x.i, .int .i64 x.x0, .int .i64 x.z0, .int .i64 x.x1, .int .i64 x.z1, .int .i64 x.y0, .int .i64 x.y1, .int .i64 x.ar]
  | 3, _, v => v = .agg #[.func (.func 70) #[] #[], .func (.func 71) #[] #[], .int .i64 16, .int .i64 2, .func (.func 72) #[] #[]]
  | 4, w, v => ∃ S' : SoupV, v = .tuple #[.agg #[.slice S'.a0 S'.ts.length S'.c0, .slice S'.a1 S'.bs.length S'.c1, .slice S'.a2 S'.hs.length S'.c2], .int .i64 er] ∧ S'.ok w ∧ S'.own (b + 1 + 1 + 1 + 1) ∧ S'.ts = T ∧ S'.bs = B ∧ S'.hs = H
  | 5, w, v => ∃ S' : SoupV, v = .agg #[.slice S'.a0 S'.ts.length S'.c0, .slice S'.a1 S'.bs.length S'.c1, .slice S'.a2 S'.hs.length S'.c2] ∧ S'.ok w ∧ S'.own (b + 1 + 1 + 1 + 1) ∧ S'.ts = T ∧ S'.bs = B ∧ S'.hs = H
  | _, w, v => v = .int .i64 er
theorem b_AdV_keep {C : CfgR} {S : SoupV} {x : BoxR} {er : Int} {T : List TriR} {B : List BoxR} {H : List HopR} {b : Nat} : ∀ i w w' v, b_AdV C S x er T B H b i w v → New w w' → b_AdV C S x er T B H b i w' v := by
  intro i w w' v h hn
  rcases (show i = 0 ∨ i = 1 ∨ i = 2 ∨ i = 3 ∨ i = 4 ∨ i = 5 ∨ 6 ≤ i by omega) with rfl | rfl | rfl | rfl | rfl | rfl | hi
  · exact h
  · exact h
  · exact h
  · exact h
  · obtain ⟨S', e, h1, h2⟩ := h; exact ⟨S', e, h1.keep hn, h2⟩
  · obtain ⟨S', e, h1, h2⟩ := h; exact ⟨S', e, h1.keep hn, h2⟩
  · obtain ⟨k, rfl⟩ : ∃ k, i = k + 6 := ⟨i - 6, by omega⟩
    exact h

set_option maxHeartbeats 4000000 in
set_option maxRecDepth 100000 in
theorem b_Add (C : CfgR) (S : SoupV) (x : BoxR) (er : Int) (T : List TriR) (B : List BoxR) (H : List HopR) (w : World)
    (hD : ∀ W, New w W → Calls Try.prog 29 #[.agg #[.int .i64 C.cl, .int .i64 C.cb, .int .i64 C.ht, .int .i64 C.ri, .int .i64 C.ru, .int .i64 C.wd, .int .i64 C.dp], .agg #[.slice S.a0 S.ts.length S.c0, .slice S.a1 S.bs.length S.c1, .slice S.a2 S.hs.length S.c2], .agg #[.int .i64 x.i, .int .i64 x.x0, .int .i64 x.z0, .int .i64 x.x1, .int .i64 x.z1, .int .i64 x.y0, .int .i64 x.y1, .int .i64 x.ar], .agg #[.func (.func 70) #[] #[], .func (.func 71) #[] #[], .int .i64 16, .int .i64 2, .func (.func 72) #[] #[]]] W (SoupE T B H er W)) :
    Calls Try.prog 10 #[.agg #[.int .i64 C.cl, .int .i64 C.cb, .int .i64 C.ht, .int .i64 C.ri, .int .i64 C.ru, .int .i64 C.wd, .int .i64 C.dp], .agg #[.slice S.a0 S.ts.length S.c0, .slice S.a1 S.bs.length S.c1, .slice S.a2 S.hs.length S.c2], .agg #[.int .i64 x.i, .int .i64 x.x0, .int .i64 x.z0, .int .i64 x.x1, .int .i64 x.z1, .int .i64 x.y0, .int .i64 x.y1, .int .i64 x.ar]] w (SoupE T B H er w) := by
  have HD := Lib.hid hD
  have HK := Lib.hid (fun W => b_kind W)
  clear hD
  go_enter Try.func10, Try.ntmps10
  go_upto_region 1 with fail
  generalize hW : World.alloc _ _ = W
  have hn : New w W := by subst hW; (repeat (first | (with_reducible exact New.refl _) | (with_reducible assumption) | ((with_reducible refine New.setB ?_ ?_ _); focus (first | omega | (simp; omega) | (simp; done))) | (with_reducible refine New.alloc ?_ _) | (with_reducible refine New.drew ?_) | (with_reducible refine New.drewN ?_ _) | (with_reducible refine New.hat ?_ _) | ((with_reducible apply New.snart); (with_reducible assumption))))
  ((have g0 : World.cell? (W) ⟨w.heap.size, 0, none⟩ = some (.int .i64 C.cl) := (by subst hW; go_simp)); (have g1 : World.cell? (W) ⟨w.heap.size, 1, none⟩ = some (.int .i64 C.cb) := (by subst hW; go_simp)); (have g2 : World.cell? (W) ⟨w.heap.size, 2, none⟩ = some (.int .i64 C.ht) := (by subst hW; go_simp)); (have g3 : World.cell? (W) ⟨w.heap.size, 3, none⟩ = some (.int .i64 C.ri) := (by subst hW; go_simp)); (have g4 : World.cell? (W) ⟨w.heap.size, 4, none⟩ = some (.int .i64 C.ru) := (by subst hW; go_simp)); (have g5 : World.cell? (W) ⟨w.heap.size, 5, none⟩ = some (.int .i64 C.wd) := (by subst hW; go_simp)); (have g6 : World.cell? (W) ⟨w.heap.size, 6, none⟩ = some (.int .i64 C.dp) := (by subst hW; go_simp)))
  have q0 : W.cell? ⟨w.heap.size + 1, 0, none⟩ = some (.slice S.a0 S.ts.length S.c0) := by subst hW; go_simp
  have q1 : W.cell? ⟨w.heap.size + 1, 1, none⟩ = some (.slice S.a1 S.bs.length S.c1) := by subst hW; go_simp
  have q2 : W.cell? ⟨w.heap.size + 1, 2, none⟩ = some (.slice S.a2 S.hs.length S.c2) := by subst hW; go_simp
  ((have x0 : World.cell? (W) ⟨w.heap.size + 1 + 1, 0, none⟩ = some (.int .i64 x.i) := (by subst hW; go_simp)); (have x1 : World.cell? (W) ⟨w.heap.size + 1 + 1, 1, none⟩ = some (.int .i64 x.x0) := (by subst hW; go_simp)); (have x2 : World.cell? (W) ⟨w.heap.size + 1 + 1, 2, none⟩ = some (.int .i64 x.z0) := (by subst hW; go_simp)); (have x3 : World.cell? (W) ⟨w.heap.size + 1 + 1, 3, none⟩ = some (.int .i64 x.x1) := (by subst hW; go_simp)); (have x4 : World.cell? (W) ⟨w.heap.size + 1 + 1, 4, none⟩ = some (.int .i64 x.z1) := (by subst hW; go_simp)); (have x5 : World.cell? (W) ⟨w.heap.size + 1 + 1, 5, none⟩ = some (.int .i64 x.y0) := (by subst hW; go_simp)); (have x6 : World.cell? (W) ⟨w.heap.size + 1 + 1, 6, none⟩ = some (.int .i64 x.y1) := (by subst hW; go_simp)); (have x7 : World.cell? (W) ⟨w.heap.size + 1 + 1, 7, none⟩ = some (.int .i64 x.ar) := (by subst hW; go_simp)))
  have fz : Thr W (w.heap.size + 1 + 1 + 1) 3 := by subst hW; exact Thr.new _ _ _ _ (by simp)
  clear hW
  refine wp_region_loose 7 (b_AdV C S x er T B H w.heap.size) (by kernel_rfl) (by kernel_rfl) b_AdV_keep ?_ ?_
  · intro i o hi ho a' w' nn hr hd
    rcases (show i = 0 ∨ i = 1 ∨ i = 2 ∨ i = 3 ∨ i = 4 ∨ i = 5 ∨ i = 6 by omega) with rfl | rfl | rfl | rfl | rfl | rfl | rfl <;> obtain rfl := Option.some.inj ho
    · have r3 : (a'.tmps[3]?).getD undef = .pointer (some ⟨w.heap.size, 0, none⟩) := (eval_get a' 3).symm.trans (hr 3 (by kernel_rfl))
      (replace g0 := New.keep (nn) g0; replace g1 := New.keep (nn) g1; replace g2 := New.keep (nn) g2; replace g3 := New.keep (nn) g3; replace g4 := New.keep (nn) g4; replace g5 := New.keep (nn) g5; replace g6 := New.keep (nn) g6)
      exact yields_value (.agg #[.int .i64 C.cl, .int .i64 C.cb, .int .i64 C.ht, .int .i64 C.ri, .int .i64 C.ru, .int .i64 C.wd, .int .i64 C.dp]) (by go_simp) ⟨New.refl _, rfl⟩
    · have r3 : (a'.tmps[4]?).getD undef = .pointer (some ⟨w.heap.size + 1, 0, none⟩) := (eval_get a' 4).symm.trans (hr 4 (by kernel_rfl))
      have y0 := nn.keep q0
      have y1 := nn.keep q1
      have y2 := nn.keep q2
      exact yields_value (.agg #[.slice S.a0 S.ts.length S.c0, .slice S.a1 S.bs.length S.c1, .slice S.a2 S.hs.length S.c2]) (by go_simp) ⟨New.refl _, rfl⟩
    · have r3 : (a'.tmps[5]?).getD undef = .pointer (some ⟨w.heap.size + 1 + 1, 0, none⟩) := (eval_get a' 5).symm.trans (hr 5 (by kernel_rfl))
      (replace x0 := New.keep (nn) x0; replace x1 := New.keep (nn) x1; replace x2 := New.keep (nn) x2; replace x3 := New.keep (nn) x3; replace x4 := New.keep (nn) x4; replace x5 := New.keep (nn) x5; replace x6 := New.keep (nn) x6; replace x7 := New.keep (nn) x7)
      exact yields_value (.agg #[.int .i64 x.i, .int .i64 x.x0, .int .i64 x.z0, .int .i64 x.x1, .int .i64 x.z1, .int .i64 x.y0, .int .i64 x.y1, .int .i64 x.ar]) (by go_simp) ⟨New.refl _, rfl⟩
    · exact yields_enter 30 #[] (by go_simp) ((HK.out _).mono fun e w'' ⟨he, hn⟩ => ⟨_, he, hn, rfl⟩)
    · have e0 : a'.eval (.tmp 8) = .agg #[.int .i64 C.cl, .int .i64 C.cb, .int .i64 C.ht, .int .i64 C.ri, .int .i64 C.ru, .int .i64 C.wd, .int .i64 C.dp] := hd 0 8 (by omega) (by kernel_rfl) (by kernel_rfl)
      have e1 : a'.eval (.tmp 9) = .agg #[.slice S.a0 S.ts.length S.c0, .slice S.a1 S.bs.length S.c1, .slice S.a2 S.hs.length S.c2] := hd 1 9 (by omega) (by kernel_rfl) (by kernel_rfl)
      have e2 : a'.eval (.tmp 10) = .agg #[.int .i64 x.i, .int .i64 x.x0, .int .i64 x.z0, .int .i64 x.x1, .int .i64 x.z1, .int .i64 x.y0, .int .i64 x.y1, .int .i64 x.ar] := hd 2 10 (by omega) (by kernel_rfl) (by kernel_rfl)
      have e3 : a'.eval (.tmp 11) = .agg #[.func (.func 70) #[] #[], .func (.func 71) #[] #[], .int .i64 16, .int .i64 2, .func (.func 72) #[] #[]] := hd 3 11 (by omega) (by kernel_rfl) (by kernel_rfl)
      have r0 : (a'.tmps[8]?).getD undef = _ := (eval_get a' 8).symm.trans e0
      have r1 : (a'.tmps[9]?).getD undef = _ := (eval_get a' 9).symm.trans e1
      have r2 : (a'.tmps[10]?).getD undef = _ := (eval_get a' 10).symm.trans e2
      have r3 : (a'.tmps[11]?).getD undef = _ := (eval_get a' 11).symm.trans e3
      refine yields_enter 29 #[.agg #[.int .i64 C.cl, .int .i64 C.cb, .int .i64 C.ht, .int .i64 C.ri, .int .i64 C.ru, .int .i64 C.wd, .int .i64 C.dp], .agg #[.slice S.a0 S.ts.length S.c0, .slice S.a1 S.bs.length S.c1, .slice S.a2 S.hs.length S.c2], .agg #[.int .i64 x.i, .int .i64 x.x0, .int .i64 x.z0, .int .i64 x.x1, .int .i64 x.z1, .int .i64 x.y0, .int .i64 x.y1, .int .i64 x.ar], .agg #[.func (.func 70) #[] #[], .func (.func 71) #[] #[], .int .i64 16, .int .i64 2, .func (.func 72) #[] #[]]] (by go_simp) ((HD.out _ (hn.trans nn)).mono ?_)
      rintro e w'' ⟨S', he, h1, h2, h3, h4, h5, h6⟩
      refine ⟨_, he, h6, S', rfl, h1, h5.mono ?_, h2, h3, h4⟩
      have := fz.lt (by omega)
      have := nn.size
      omega
    · obtain ⟨S', e3, h1⟩ : ∃ S' : SoupV, a'.eval (.tmp 12) = .tuple #[.agg #[.slice S'.a0 S'.ts.length S'.c0, .slice S'.a1 S'.bs.length S'.c1, .slice S'.a2 S'.hs.length S'.c2], .int .i64 er] ∧ S'.ok w' ∧ S'.own (w.heap.size + 1 + 1 + 1 + 1) ∧ S'.ts = T ∧ S'.bs = B ∧ S'.hs = H := hd 4 12 (by omega) (by kernel_rfl) (by kernel_rfl)
      have r3 : (a'.tmps[12]?).getD undef = _ := (eval_get a' 12).symm.trans e3
      exact yields_value (.agg #[.slice S'.a0 S'.ts.length S'.c0, .slice S'.a1 S'.bs.length S'.c1, .slice S'.a2 S'.hs.length S'.c2]) (by go_simp) ⟨New.refl _, S', rfl, h1⟩
    · obtain ⟨S', e3, h1⟩ : ∃ S' : SoupV, a'.eval (.tmp 12) = .tuple #[.agg #[.slice S'.a0 S'.ts.length S'.c0, .slice S'.a1 S'.bs.length S'.c1, .slice S'.a2 S'.hs.length S'.c2], .int .i64 er] ∧ S'.ok w' ∧ S'.own (w.heap.size + 1 + 1 + 1 + 1) ∧ S'.ts = T ∧ S'.bs = B ∧ S'.hs = H := hd 4 12 (by omega) (by kernel_rfl) (by kernel_rfl)
      have r3 : (a'.tmps[12]?).getD undef = _ := (eval_get a' 12).symm.trans e3
      exact yields_value (.int .i64 er) (by go_simp) ⟨New.refl _, rfl⟩
  · intro vs w' nn hv
    obtain ⟨S', e4, h1, h2, h3⟩ : ∃ S' : SoupV, vs 5 = .agg #[.slice S'.a0 S'.ts.length S'.c0, .slice S'.a1 S'.bs.length S'.c1, .slice S'.a2 S'.hs.length S'.c2] ∧ S'.ok w' ∧ S'.own (w.heap.size + 1 + 1 + 1 + 1) ∧ S'.ts = T ∧ S'.bs = B ∧ S'.hs = H := hv 5 (by omega)
    have e5 : vs 6 = .int .i64 er := hv 6 (by omega)
    simp only [List.take_succ_cons, List.take_zero, List.drop_succ_cons, List.drop_zero, putL, Act.put, List.setIfInBounds_toArray, List.set_cons_zero, List.set_cons_succ, Nat.reduceAdd, Nat.zero_add]
    rw [e4, e5]
    have H1 := Lib.hid (And.intro h1 (And.intro h2 h3))
    clear hv e4 e5 q0 q1 q2 h1 h2 h3 HD HK
    clear x0 x1 x2 x3 x4 x5 x6 x7
    clear g0 g1 g2 g3 g4 g5 g6
    go_wp2_with (refine wpList_store_row rfl 28 _ _ rfl _ _ rfl rfl (fz.keep nn) (by kernel_rfl) (by intro v hv; simp at hv; rcases hv with rfl | rfl | rfl <;> rfl) (fun Z nZ kZ cZ => ?_))
    have nz := nZ w (hn.trans nn) (by omega)
    have okz := SoupV.ok_but H1.out.1 H1.out.2.1 (by omega) kZ
    have r0 := cZ 0 (by simp)
    have r1 := cZ 1 (by simp)
    have r2 := cZ 2 (by simp)
    simp only [Nat.zero_add, List.getElem_cons_zero, List.getElem_cons_succ] at r0 r1 r2
    clear nZ kZ cZ
    refine bodyPost_ret (v := .tuple #[.agg #[.slice S'.a0 S'.ts.length S'.c0, .slice S'.a1 S'.bs.length S'.c1, .slice S'.a2 S'.hs.length S'.c2], .int .i64 er]) (by simp [results, Try.results10, go_sem, r0, r1, r2]) rfl ?_
    exact ⟨S', rfl, okz, H1.out.2.2.1, H1.out.2.2.2.1, H1.out.2.2.2.2, H1.out.2.1.mono (by omega), nz⟩

end Go.Proofs.Ytonngfogbnfbnaa

/- Package soup: rising rows; what adding comes to. -/
namespace Go.Proofs.Ytonngfogbnfbnaa
open Go.RowKit
set_option linter.unusedVariables false

def BoxR.Rise (l : List BoxR) : Prop := l.Pairwise fun a b => a.i < b.i
theorem BoxR.listB_iff {C : CfgR} {l : List BoxR} : BoxR.listB C l = true ↔ l.length ≤ 16 ∧ (∀ x ∈ l, x.may C = true) ∧ BoxR.Rise l := by
  unfold BoxR.listB
  rw [Bool.and_eq_true, decide_eq_true_eq, List.all_eq_true]
  constructor
  · rintro ⟨h1, h2⟩
    have ok : ∀ i (h : i < l.length), BoxR.okAt C l i = true := fun i h => h2 i (List.mem_range.2 h)
    refine ⟨h1, fun x hx => ?_, ?_⟩
    · obtain ⟨i, hi, rfl⟩ := List.getElem_of_mem hx
      have := ok i hi
      unfold BoxR.okAt at this
      rw [getElem!_pos l i hi, Bool.and_eq_true] at this
      exact this.1
    · unfold BoxR.Rise
      rw [List.pairwise_iff_getElem]
      intro i j hi hj hij
      have step : ∀ d i, (h : i + d + 1 < l.length) → (l[i]'(by omega)).i < (l[i + d + 1]'h).i := by
        intro d
        induction d with
        | zero =>
          intro i h
          have := ok (i + 1) h
          rw [BoxR.okAt_succ C l i h, Bool.and_eq_true, decide_eq_true_eq] at this
          exact this.2
        | succ d ih =>
          intro i h
          have h3 := ih i (by omega)
          have := ok (i + d + 1 + 1) h
          rw [BoxR.okAt_succ C l (i + d + 1) h, Bool.and_eq_true, decide_eq_true_eq] at this
          exact Int.lt_trans h3 this.2
      have := step (j - i - 1) i (by omega)
      simp only [show i + (j - i - 1) + 1 = j by omega] at this
      exact this
  · rintro ⟨h1, h2, h3⟩
    refine ⟨h1, fun i hi => ?_⟩
    have hi' := List.mem_range.1 hi
    unfold BoxR.Rise at h3
    rw [List.pairwise_iff_getElem] at h3
    cases i with
    | zero => rw [BoxR.okAt_zero C l hi']; exact h2 _ (List.getElem_mem hi')
    | succ i =>
      rw [BoxR.okAt_succ C l i hi', Bool.and_eq_true, decide_eq_true_eq]
      exact ⟨h2 _ (List.getElem_mem hi'), h3 i (i + 1) (by omega) hi' (by omega)⟩

theorem BoxR.place {l : List BoxR} (h : BoxR.Rise l) (id : Int) : ∃ p, BoxR.Place l id p := by
  unfold BoxR.Rise at h
  rw [List.pairwise_iff_getElem] at h
  obtain ⟨p, hp, hmin⟩ := exists_least (p := fun p => p = l.length ∨ ∃ hp : p < l.length, id ≤ l[p].i) ⟨l.length, Or.inl rfl⟩
  have hle : p ≤ l.length := hmin _ (Or.inl rfl)
  refine ⟨p, hle, fun j hj hjp => ?_, fun j hj hpj => ?_⟩
  · by_cases q : l[j].i < id
    · exact q
    · have := hmin j (Or.inr ⟨hj, by omega⟩); omega
  · rcases hp with rfl | ⟨hp, hq⟩
    · omega
    · rcases Nat.eq_or_lt_of_le hpj with rfl | q
      · exact hq
      · have := h p j hp hj q; omega

/-- One of this id is there. -/
theorem BoxR.hit_iff {l : List BoxR} {id : Int} {p : Nat} (hl : BoxR.Rise l) (h : BoxR.Place l id p) : BoxR.hit l id p = true ↔ ∃ x ∈ l, x.i = id := by
  unfold BoxR.hit
  rw [Bool.and_eq_true, decide_eq_true_eq, beq_iff_eq]
  constructor
  · rintro ⟨hp, he⟩
    rw [getElem!_pos l p hp] at he
    exact ⟨_, List.getElem_mem hp, he⟩
  · rintro ⟨x, hx, he⟩
    obtain ⟨j, hj, rfl⟩ := List.getElem_of_mem hx
    have hjp : p ≤ j := by
      rcases Nat.lt_or_ge j p with q | q
      · have := h.lo j hj q; omega
      · exact q
    have hp : p < l.length := by omega
    refine ⟨hp, ?_⟩
    rw [getElem!_pos l p hp]
    have h1 := h.hi p hp (Nat.le_refl _)
    rcases Nat.eq_or_lt_of_le hjp with q | q
    · subst q; exact he
    · unfold BoxR.Rise at hl
      rw [List.pairwise_iff_getElem] at hl
      have := hl p j hp hj q
      omega

/-- With x in its place. -/
def BoxR.put (l : List BoxR) (p : Nat) (x : BoxR) : List BoxR := l.take p ++ [x] ++ l.drop p
theorem BoxR.put_len {l : List BoxR} {p : Nat} {x : BoxR} (h : p ≤ l.length) : (BoxR.put l p x).length = l.length + 1 := by
  unfold BoxR.put
  simp
  omega
theorem BoxR.put_perm (l : List BoxR) (p : Nat) (x : BoxR) : (BoxR.put l p x).Perm (x :: l) := by
  unfold BoxR.put
  rw [List.append_assoc, List.singleton_append]
  refine List.perm_middle.trans (List.Perm.cons x ?_)
  rw [List.take_append_drop]
theorem BoxR.put_mem {l : List BoxR} {p : Nat} {x y : BoxR} : y ∈ BoxR.put l p x ↔ y = x ∨ y ∈ l := by
  rw [(BoxR.put_perm l p x).mem_iff, List.mem_cons]
theorem BoxR.put_rise {l : List BoxR} {p : Nat} {x : BoxR} (hl : BoxR.Rise l) (hp : BoxR.Place l x.i p) (hn : BoxR.hit l x.i p = false) : BoxR.Rise (BoxR.put l p x) := by
  have hno : ∀ y ∈ l, y.i ≠ x.i := fun y hy he => by
    rw [(BoxR.hit_iff hl hp).2 ⟨y, hy, he⟩] at hn; cases hn
  unfold BoxR.Rise BoxR.put at *
  rw [List.pairwise_append, List.pairwise_append]
  refine ⟨⟨hl.sublist (List.take_sublist _ _), List.pairwise_singleton _ _, fun a ha b hb => ?_⟩, hl.sublist (List.drop_sublist _ _), fun a ha b hb => ?_⟩
  · obtain rfl := List.mem_singleton.1 hb
    obtain ⟨j, hj, rfl⟩ := List.getElem_of_mem ha
    have hj' : j < l.length ∧ j < p := by simp at hj; omega
    rw [List.getElem_take]
    exact hp.lo j hj'.1 hj'.2
  · obtain ⟨j, hj, rfl⟩ := List.getElem_of_mem hb
    have hj' : p + j < l.length := by simp at hj; omega
    rw [List.getElem_drop]
    rcases List.mem_append.1 ha with ha | ha
    · obtain ⟨i, hi, rfl⟩ := List.getElem_of_mem ha
      have hi' : i < l.length ∧ i < p := by simp at hi; omega
      rw [List.getElem_take]
      rw [List.pairwise_iff_getElem] at hl
      exact hl i (p + j) hi'.1 hj' (by omega)
    · obtain rfl := List.mem_singleton.1 ha
      have h1 := hp.hi (p + j) hj' (by omega)
      have h2 := hno _ (List.getElem_mem hj')
      omega
theorem BoxR.put_lo {l : List BoxR} {p : Nat} {x : BoxR} (hp : p ≤ l.length) {k : Nat} (hk : k < p) : (BoxR.put l p x)[k]? = l[k]? := by
  unfold BoxR.put
  rw [List.append_assoc, List.getElem?_append_left (by simp; omega), List.getElem?_take, if_pos hk]
theorem BoxR.put_at {l : List BoxR} {p : Nat} {x : BoxR} (hp : p ≤ l.length) : (BoxR.put l p x)[p]? = some x := by
  have e : (l.take p).length = p := by simp; omega
  unfold BoxR.put
  rw [List.append_assoc, List.getElem?_append_right (by omega), e, Nat.sub_self]
  rfl
theorem BoxR.put_first {l : List BoxR} {p : Nat} {x : BoxR} (hp : BoxR.Place l x.i p) : BoxR.IsFirst (BoxR.put l p x) x.i p := by
  have hlen := BoxR.put_len (x := x) hp.le
  have hple := hp.le
  refine Or.inr ⟨p, by omega, rfl, ?_, fun k hk => ?_⟩
  · have h := BoxR.put_at (x := x) hple
    rw [List.getElem?_eq_getElem (by omega)] at h
    rw [Option.some.inj h]
  · have hkl : k < l.length := by omega
    have h := BoxR.put_lo (x := x) hple hk
    rw [List.getElem?_eq_getElem (by omega), List.getElem?_eq_getElem hkl] at h
    rw [Option.some.inj h]
    have := hp.lo k hkl hk
    omega
theorem BoxR.put_back {l : List BoxR} {p : Nat} {x : BoxR} (h : p ≤ l.length) : (BoxR.put l p x).take p ++ (BoxR.put l p x).drop (p + 1) = l := by
  unfold BoxR.put
  have e : (l.take p).length = p := by simp; omega
  rw [List.append_assoc, List.take_left' e, List.drop_append, e, List.drop_eq_nil_of_le (by omega), show p + 1 - p = 1 by omega]
  simp
theorem BoxR.rise_eq : ∀ {l m : List BoxR}, BoxR.Rise l → BoxR.Rise m → l.Perm m → l = m
  | [], m, _, _, h => h.nil_eq
  | a :: l, [], _, _, h => absurd h.length_eq (by simp)
  | a :: l, b :: m, hl, hm, h => by
    unfold BoxR.Rise at hl hm
    rw [List.pairwise_cons] at hl hm
    have hab : a = b := by
      have h1 : a ∈ b :: m := h.mem_iff.1 List.mem_cons_self
      have h2 : b ∈ a :: l := h.mem_iff.2 List.mem_cons_self
      rcases List.mem_cons.1 h1 with h1 | h1
      · exact h1
      · rcases List.mem_cons.1 h2 with h2 | h2
        · exact h2.symm
        · have q1 := hm.1 a h1
          have q2 := hl.1 b h2
          omega
    subst hab
    rw [BoxR.rise_eq hl.2 hm.2 ((List.perm_cons a).1 h)]

end Go.Proofs.Ytonngfogbnfbnaa

/- Package soup: what AddBox comes to, whatever is asked. -/
namespace Go.Proofs.Ytonngfogbnfbnaa
open Go.RowKit
set_option linter.unusedVariables false

/-- What AddBox answers: the lists, and the error. -/
inductive BoxR.Add (C : CfgR) (S : SoupV) (x : BoxR) : List TriR → List BoxR → List HopR → Int → Prop
  | err (h : S.err C ≠ 0) : BoxR.Add C S x [] [] [] (S.err C)
  | wrong (h : S.err C = 0) (hm : x.may C = false) : BoxR.Add C S x [] [] [] 2
  | twice (h : S.err C = 0) (hm : x.may C = true) (p : Nat) (hp : BoxR.Place S.bs x.i p) (hh : BoxR.hit S.bs x.i p = true) : BoxR.Add C S x [] [] [] 50
  | full (h : S.err C = 0) (hm : x.may C = true) (p : Nat) (hp : BoxR.Place S.bs x.i p) (hh : BoxR.hit S.bs x.i p = false) (hf : S.bs.length = 16) : BoxR.Add C S x [] [] [] 51
  | ok (h : S.err C = 0) (hm : x.may C = true) (p : Nat) (hp : BoxR.Place S.bs x.i p) (hh : BoxR.hit S.bs x.i p = false) (hf : S.bs.length ≠ 16) : BoxR.Add C S x S.ts (BoxR.put S.bs p x) S.hs 0

theorem BoxR.err_list {C : CfgR} {S : SoupV} (h : S.err C = 0) : BoxR.listB C S.bs = true := (SoupV.err_zero h).2.2.1

theorem b_addAny (C : CfgR) (S : SoupV) (x : BoxR) (hf : S.few) : ∃ T B H er, BoxR.Add C S x T B H er ∧ ∀ w, S.ok w →
    Calls Try.prog 10 #[.agg #[.int .i64 C.cl, .int .i64 C.cb, .int .i64 C.ht, .int .i64 C.ri, .int .i64 C.ru, .int .i64 C.wd, .int .i64 C.dp], .agg #[.slice S.a0 S.ts.length S.c0, .slice S.a1 S.bs.length S.c1, .slice S.a2 S.hs.length S.c2], .agg #[.int .i64 x.i, .int .i64 x.x0, .int .i64 x.z0, .int .i64 x.x1, .int .i64 x.z1, .int .i64 x.y0, .int .i64 x.y1, .int .i64 x.ar]] w (SoupE T B H er w) := by
  by_cases he : S.err C = 0
  rotate_left
  · exact ⟨_, _, _, _, .err he, fun w hS => b_Add C S x _ _ _ _ w fun W n => b_add_err C S x W (hS.keep n) _ rfl he⟩
  cases hm : x.may C
  · exact ⟨_, _, _, _, .wrong he hm, fun w hS => b_Add C S x _ _ _ _ w fun W n => b_add_wrong C S x W (hS.keep n) he hm⟩
  obtain ⟨p, hp⟩ := BoxR.place (BoxR.listB_iff.1 (BoxR.err_list he)).2.2 x.i
  cases hh : BoxR.hit S.bs x.i p
  · by_cases hl : S.bs.length = 16
    · exact ⟨_, _, _, _, .full he hm p hp hh hl, fun w hS => b_Add C S x _ _ _ _ w fun W n => b_add_full C S x W (hS.keep n) he hm (by have := hf.b; omega) p hp hh hl⟩
    · exact ⟨_, _, _, _, .ok he hm p hp hh hl, fun w hS => b_Add C S x _ _ _ _ w fun W n => b_add_ok C S x W (hS.keep n) he hm hf.t hf.b hf.h p hp hh hl⟩
  · exact ⟨_, _, _, _, .twice he hm p hp hh, fun w hS => b_Add C S x _ _ _ _ w fun W n => b_add_twice C S x W (hS.keep n) he hm (by have := hf.b; omega) p hp hh⟩

end Go.Proofs.Ytonngfogbnfbnaa
