import Derived.Test.YtonngfogbnfbnaaGreatSoMTZ8
import Derived.Test.YtonngfogbnfbnaaGreatSoHTZ8
import Derived.Test.YtonngfogbnfbnaaGreatSoNBZ8
import Derived.Test.YtonngfogbnfbnaaGreatSoNHZ8
import Derived.Test.YtonngfogbnfbnaaGreatSoGZ8

/- Package soup: one dropped. -/
namespace Go.Proofs.YtonngfogbnfbnaaGreat
open Go.RowKit
set_option linter.unusedVariables false

def t_drV (S : SoupV) (a : Option Addr) (l : List TriR) (c j b : Nat) : Nat → World → Value → Prop
  | 0, _, v => v = .agg #[.slice S.a0 S.ts.length S.c0, .slice S.a1 S.bs.length S.c1, .slice S.a2 S.hs.length S.c2]
  | 1, _, v => v = .slice a l.length c
  | 2, _, v => v = .int .i64 j
  | 3, w, v => ∃ a1 c1, v = .slice a1 (l.take j).length c1 ∧ Sl TriR.enc 10 w (.slice a1 (l.take j).length c1) (l.take j)
  | 4, _, v => v = .slice a l.length c
  | 5, _, v => v = .int .i64 j
  | 6, _, v => v = .int .i64 (j + 1)
  | 7, w, v => ∃ a1 c1, v = .slice a1 (l.drop (j + 1)).length c1 ∧ Sl TriR.enc 10 w (.slice a1 (l.drop (j + 1)).length c1) (l.drop (j + 1))
  | 8, w, v => ∃ g p q, v = .slice (some ⟨g, 0, none⟩) 2 2 ∧ PartsAt TriR.enc 10 w g [p, q] ∧ p.l = l.take j ∧ q.l = l.drop (j + 1)
  | 9, w, v => ∃ a1 c1, ∃ l1 : List TriR, v = .slice a1 l1.length c1 ∧ l1 = l.take j ++ l.drop (j + 1) ∧ Sl TriR.enc 10 w (.slice a1 l1.length c1) l1
  | 10, _, v => v = .agg #[.func (.func 49) #[] #[], .func (.func 50) #[] #[], .int .i64 200, .int .i64 40, .func (.func 51) #[] #[]]
  | _, w, v => ∃ S' : SoupV, v = .agg #[.slice S'.a0 S'.ts.length S'.c0, .slice S'.a1 S'.bs.length S'.c1, .slice S'.a2 S'.hs.length S'.c2] ∧ S'.ok w ∧ S'.own (b + 1 + 1 + 1) ∧ S'.ts = l.take j ++ l.drop (j + 1) ∧ S'.bs = S.bs ∧ S'.hs = S.hs
theorem t_drV_keep {S : SoupV} {a : Option Addr} {l : List TriR} {c j b : Nat} : ∀ i w w' v, t_drV S a l c j b i w v → New w w' → t_drV S a l c j b i w' v := by
  intro i w w' v h hn
  rcases (show i = 0 ∨ i = 1 ∨ i = 2 ∨ i = 3 ∨ i = 4 ∨ i = 5 ∨ i = 6 ∨ i = 7 ∨ i = 8 ∨ i = 9 ∨ i = 10 ∨ 11 ≤ i by omega) with rfl | rfl | rfl | rfl | rfl | rfl | rfl | rfl | rfl | rfl | rfl | hi
  · exact h
  · exact h
  · exact h
  · obtain ⟨a1, c1, e, p⟩ := h; exact ⟨a1, c1, e, p.keep hn⟩
  · exact h
  · exact h
  · exact h
  · obtain ⟨a1, c1, e, p⟩ := h; exact ⟨a1, c1, e, p.keep hn⟩
  · obtain ⟨g, p, q, e, h1, h2⟩ := h; exact ⟨g, p, q, e, h1.keep hn, h2⟩
  · obtain ⟨a1, c1, l1, e, h1, h2⟩ := h; exact ⟨a1, c1, l1, e, h1, h2.keep hn⟩
  · exact h
  · obtain ⟨k, rfl⟩ : ∃ k, i = k + 11 := ⟨i - 11, by omega⟩
    obtain ⟨S', e, h1, h2⟩ := h
    exact ⟨S', e, h1.keep hn, h2⟩

/-- What is left: all but the one at z. -/
def TriR.less (l : List TriR) (z : Int) : List TriR := l.take z.toNat ++ l.drop (z.toNat + 1)

set_option maxHeartbeats 4000000 in
set_option maxRecDepth 100000 in
theorem t_drop_none (S : SoupV) (id : Int) (hz : TriR.IsFirst S.ts id (-1)) (w : World) (hS : S.ok w) :
    Calls Tryz.prog 27 #[.agg #[.slice S.a0 S.ts.length S.c0, .slice S.a1 S.bs.length S.c1, .slice S.a2 S.hs.length S.c2], .int .i64 id, .agg #[.func (.func 49) #[] #[], .func (.func 50) #[] #[], .int .i64 200, .int .i64 40, .func (.func 51) #[] #[]]] w (SoupE [] [] [] 4 w) := by
  have hL := Lib.hid (fun b W => t_list b W)
  have hR := hS.t
  obtain ⟨ts, bs, hs, a0, a1, a2, c0, c1, c2⟩ := S
  simp only at hR hz ⊢
  obtain ⟨-, hc1, hc2, -, HR⟩ := hR.row
  have HF := Lib.hid (fun W (n : New w W) => t_first a0 ts c0 (by omega) id (-1) hz W (HR.keep n))
  clear hR hS HR hc1 hc2 hz
  go_enter Tryz.func27, Tryz.ntmps27
  go_wp2_with fail
  generalize hW : World.alloc _ _ = W
  have hn : New w W := by subst hW; (repeat (first | (with_reducible exact New.refl _) | (with_reducible assumption) | ((with_reducible refine New.setB ?_ ?_ _); focus (first | omega | (simp; omega) | (simp; done))) | (with_reducible refine New.alloc ?_ _) | (with_reducible refine New.drew ?_) | (with_reducible refine New.drewN ?_ _) | (with_reducible refine New.hat ?_ _) | ((with_reducible apply New.snart); (with_reducible assumption))))
  have q0 : W.cell? ⟨w.heap.size, 0, none⟩ = some (.slice a0 ts.length c0) := by subst hW; go_simp
  have k0 : W.cell? ⟨w.heap.size + 1, 0, none⟩ = some (.func (.func 49) #[] #[]) := by subst hW; go_simp
  have k1 : W.cell? ⟨w.heap.size + 1, 1, none⟩ = some (.func (.func 50) #[] #[]) := by subst hW; go_simp
  have fz : Thr W (w.heap.size + 1 + 1) 3 := by subst hW; exact Thr.new _ _ _ _ (by simp)
  clear hW
  refine (hL.out _ _).mono ?_
  rintro e w' ⟨rfl, rfl⟩
  go_wp2_with fail
  refine (HF.out _ hn).mono ?_
  rintro e W1 ⟨rfl, n1⟩
  replace fz := fz.keep n1
  replace hn := hn.trans n1
  clear n1 HF hL q0 k0 k1
  go_wp2_with (refine wpList_store_row rfl 28 _ _ rfl _ _ rfl rfl (fz.keep (by (repeat (first | (with_reducible exact New.refl _) | (with_reducible assumption) | ((with_reducible refine New.setB ?_ ?_ _); focus (first | omega | (simp; omega) | (simp; done))) | (with_reducible refine New.alloc ?_ _) | (with_reducible refine New.drew ?_) | (with_reducible refine New.drewN ?_ _) | (with_reducible refine New.hat ?_ _) | ((with_reducible apply New.snart); (with_reducible assumption)))))) (by kernel_rfl) (by intro v hv; simp at hv; rcases hv with rfl | rfl | rfl <;> rfl) (fun Z nZ kZ cZ => ?_))
  have nz := nZ w (by (repeat (first | (with_reducible exact New.refl _) | (with_reducible assumption) | ((with_reducible refine New.setB ?_ ?_ _); focus (first | omega | (simp; omega) | (simp; done))) | (with_reducible refine New.alloc ?_ _) | (with_reducible refine New.drew ?_) | (with_reducible refine New.drewN ?_ _) | (with_reducible refine New.hat ?_ _) | ((with_reducible apply New.snart); (with_reducible assumption))))) (by omega)
  have r0 := cZ 0 (by simp)
  have r1 := cZ 1 (by simp)
  have r2 := cZ 2 (by simp)
  simp only [Nat.zero_add, List.getElem_cons_zero, List.getElem_cons_succ] at r0 r1 r2
  clear nZ kZ cZ
  refine bodyPost_ret (v := .tuple #[.agg #[.slice none 0 0, .slice none 0 0, .slice none 0 0], .int .i64 4]) (by simp [results, Tryz.results27, go_sem, r0, r1, r2]) rfl ?_
  exact ⟨SoupV.none, rfl, SoupV.none_ok _, rfl, rfl, rfl, SoupV.none_own _, nz⟩

theorem t_two {w : World} {g : Nat} {p q : Part TriR} (c0 : w.cell? ⟨g, 0, none⟩ = some (.slice p.a p.l.length p.c)) (c1 : w.cell? ⟨g, 1, none⟩ = some (.slice q.a q.l.length q.c)) (h0 : Sl TriR.enc 10 w (.slice p.a p.l.length p.c) p.l) (h1 : Sl TriR.enc 10 w (.slice q.a q.l.length q.c) q.l) : PartsAt TriR.enc 10 w g [p, q]
  | 0, _ => ⟨c0, h0⟩
  | 1, _ => ⟨c1, h1⟩
  | _ + 2, hj => absurd hj (by simp)

set_option maxHeartbeats 4000000 in
set_option maxRecDepth 100000 in
theorem t_drop_some (S : SoupV) (id : Int) (j : Nat) (hj : j < S.ts.length) (hz : TriR.IsFirst S.ts id j) (w : World) (hS : S.ok w) (ht : S.ts.length ≤ 1000) (hb : S.bs.length ≤ 1000) (hh : S.hs.length ≤ 1000) :
    Calls Tryz.prog 27 #[.agg #[.slice S.a0 S.ts.length S.c0, .slice S.a1 S.bs.length S.c1, .slice S.a2 S.hs.length S.c2], .int .i64 id, .agg #[.func (.func 49) #[] #[], .func (.func 50) #[] #[], .int .i64 200, .int .i64 40, .func (.func 51) #[] #[]]] w (SoupE (S.ts.take j ++ S.ts.drop (j + 1)) S.bs S.hs 0 w) := by
  have hL := Lib.hid (fun b W => t_list b W)
  have hR := hS.t
  obtain ⟨-, hc1, hc2, -, HR⟩ := hR.row
  have HF := Lib.hid (fun W (n : New w W) => t_first S.a0 S.ts S.c0 (by omega) id j hz W (HR.keep n))
  have HX := Lib.hid (fun a l c W (n : New w W) hl hll => t_exchange S a l c W (hS.keep n) hl ht hb hh hll)
  have hlen := ht
  obtain ⟨b, off, ha, hA⟩ := HR (by omega)
  unfold maxLen at hc2
  have hdl : (S.ts.drop (j + 1)).length = S.ts.length - (j + 1) := List.length_drop ..
  have htl : (S.ts.take j).length = j := by rw [List.length_take]; omega
  have HDL := Lib.hid hdl
  have HTL := Lib.hid htl
  have HA := Lib.hid hA
  have HC2 := Lib.hid hc2
  clear hR HR hz hS ht hb hh hdl htl hA
  go_enter Tryz.func27, Tryz.ntmps27
  go_wp2_with fail
  generalize hW : World.alloc _ _ = W
  have hn : New w W := by subst hW; (repeat (first | (with_reducible exact New.refl _) | (with_reducible assumption) | ((with_reducible refine New.setB ?_ ?_ _); focus (first | omega | (simp; omega) | (simp; done))) | (with_reducible refine New.alloc ?_ _) | (with_reducible refine New.drew ?_) | (with_reducible refine New.drewN ?_ _) | (with_reducible refine New.hat ?_ _) | ((with_reducible apply New.snart); (with_reducible assumption))))
  have q0 : W.cell? ⟨w.heap.size, 0, none⟩ = some (.slice S.a0 S.ts.length S.c0) := by subst hW; go_simp
  have q1 : W.cell? ⟨w.heap.size, 1, none⟩ = some (.slice S.a1 S.bs.length S.c1) := by subst hW; go_simp
  have q2 : W.cell? ⟨w.heap.size, 2, none⟩ = some (.slice S.a2 S.hs.length S.c2) := by subst hW; go_simp
  have k0 : W.cell? ⟨w.heap.size + 1, 0, none⟩ = some (.func (.func 49) #[] #[]) := by subst hW; go_simp
  have k1 : W.cell? ⟨w.heap.size + 1, 1, none⟩ = some (.func (.func 50) #[] #[]) := by subst hW; go_simp
  have k2 : W.cell? ⟨w.heap.size + 1, 2, none⟩ = some (.int .i64 200) := by subst hW; go_simp
  have k3 : W.cell? ⟨w.heap.size + 1, 3, none⟩ = some (.int .i64 40) := by subst hW; go_simp
  have k4 : W.cell? ⟨w.heap.size + 1, 4, none⟩ = some (.func (.func 51) #[] #[]) := by subst hW; go_simp
  have fz : Thr W (w.heap.size + 1 + 1) 3 := by subst hW; exact Thr.new _ _ _ _ (by simp)
  clear hW
  refine (hL.out _ _).mono ?_
  rintro e w' ⟨rfl, rfl⟩
  rw [ha] at q0 HF
  go_wp2_with fail
  refine (HF.out _ hn).mono ?_
  rintro e W1 ⟨rfl, n1⟩
  replace fz := fz.keep n1
  replace hn := hn.trans n1
  replace q0 := n1.keep q0
  replace q1 := n1.keep q1
  replace q2 := n1.keep q2
  (replace k0 := New.keep (n1) k0; replace k1 := New.keep (n1) k1; replace k2 := New.keep (n1) k2; replace k3 := New.keep (n1) k3; replace k4 := New.keep (n1) k4)
  clear n1 HF hL
  go_upto_region 5 with fail
  refine wp_region_loose 12 (t_drV S (some ⟨b, off, none⟩) S.ts S.c0 j w.heap.size) (by kernel_rfl) (by kernel_rfl) t_drV_keep ?_ ?_
  · intro i o hi ho a' w' nn hr hd
    rcases (show i = 0 ∨ i = 1 ∨ i = 2 ∨ i = 3 ∨ i = 4 ∨ i = 5 ∨ i = 6 ∨ i = 7 ∨ i = 8 ∨ i = 9 ∨ i = 10 ∨ i = 11 by omega) with rfl | rfl | rfl | rfl | rfl | rfl | rfl | rfl | rfl | rfl | rfl | rfl <;> obtain rfl := Option.some.inj ho
    · have r3 : (a'.tmps[3]?).getD undef = .pointer (some ⟨w.heap.size, 0, none⟩) := (eval_get a' 3).symm.trans (hr 3 (by kernel_rfl))
      have x0 := nn.keep q0
      have x1 := nn.keep q1
      have x2 := nn.keep q2
      rw [← ha] at x0
      exact yields_value (.agg #[.slice S.a0 S.ts.length S.c0, .slice S.a1 S.bs.length S.c1, .slice S.a2 S.hs.length S.c2]) (by go_simp) ⟨New.refl _, rfl⟩
    · have r8 : (a'.tmps[8]?).getD undef = .slice (some ⟨b, off, none⟩) S.ts.length S.c0 := (eval_get a' 8).symm.trans (hr 8 (by kernel_rfl))
      exact yields_value (.slice (some ⟨b, off, none⟩) S.ts.length S.c0) (by go_simp) ⟨New.refl _, rfl⟩
    · have r9 : (a'.tmps[9]?).getD undef = .int .i64 j := (eval_get a' 9).symm.trans (hr 9 (by kernel_rfl))
      exact yields_value (.int .i64 j) (by go_simp) ⟨New.refl _, rfl⟩
    · have r24 : (a'.tmps[24]?).getD undef = .slice (some ⟨b, off, none⟩) S.ts.length S.c0 := (eval_get a' 24).symm.trans (hd 1 24 (by omega) (by kernel_rfl) (by kernel_rfl))
      have r25 : (a'.tmps[25]?).getD undef = .int .i64 j := (eval_get a' 25).symm.trans (hd 2 25 (by omega) (by kernel_rfl) (by kernel_rfl))
      refine yields_value (.slice (some ⟨b, off, none⟩) j S.c0) (by go_simp; all_goals (intro h; exfalso; omega)) ⟨New.refl _, some ⟨b, off, none⟩, S.c0, by rw [HTL.out], ?_⟩
      exact ⟨_, _, rfl, by rw [HTL.out]; omega, by unfold maxLen; exact HC2.out, fun h => (by cases h), fun _ => ⟨b, off, rfl, ((HA.out.keep hn).keep nn).take j⟩⟩
    · have r8 : (a'.tmps[8]?).getD undef = .slice (some ⟨b, off, none⟩) S.ts.length S.c0 := (eval_get a' 8).symm.trans (hr 8 (by kernel_rfl))
      exact yields_value (.slice (some ⟨b, off, none⟩) S.ts.length S.c0) (by go_simp) ⟨New.refl _, rfl⟩
    · have r9 : (a'.tmps[9]?).getD undef = .int .i64 j := (eval_get a' 9).symm.trans (hr 9 (by kernel_rfl))
      exact yields_value (.int .i64 j) (by go_simp) ⟨New.refl _, rfl⟩
    · have r28 : (a'.tmps[28]?).getD undef = .int .i64 j := (eval_get a' 28).symm.trans (hd 5 28 (by omega) (by kernel_rfl) (by kernel_rfl))
      have hwr : IntKind.i64.wrap ((j : Int) + 1) = (j : Int) + 1 := IntWalk.i64_in _ (by omega)
      exact yields_value (.int .i64 (j + 1)) (by go_simp) ⟨New.refl _, rfl⟩
    · have r27 : (a'.tmps[27]?).getD undef = .slice (some ⟨b, off, none⟩) S.ts.length S.c0 := (eval_get a' 27).symm.trans (hd 4 27 (by omega) (by kernel_rfl) (by kernel_rfl))
      have r29 : (a'.tmps[29]?).getD undef = .int .i64 (j + 1) := (eval_get a' 29).symm.trans (hd 6 29 (by omega) (by kernel_rfl) (by kernel_rfl))
      by_cases hcj : S.c0 = j + 1
      · refine yields_value (.slice (some ⟨b, off, none⟩) (S.ts.length - (j + 1)) (S.c0 - (j + 1))) (by go_simp; all_goals (intro h; exfalso; omega)) ⟨New.refl _, some ⟨b, off, none⟩, S.c0 - (j + 1), by rw [HDL.out], ?_⟩
        exact ⟨_, _, rfl, by rw [HDL.out]; omega, by have := HC2.out; unfold maxLen; omega, fun h => (by cases h), fun h0 => by rw [HDL.out] at h0; omega⟩
      · refine yields_value (.slice (some ⟨b, off + (j + 1) * 10, none⟩) (S.ts.length - (j + 1)) (S.c0 - (j + 1))) (by go_simp; all_goals (intro h; exfalso; omega)) ⟨New.refl _, some ⟨b, off + (j + 1) * 10, none⟩, S.c0 - (j + 1), by rw [HDL.out], ?_⟩
        exact ⟨_, _, rfl, by rw [HDL.out]; omega, by have := HC2.out; unfold maxLen; omega, fun h => (by cases h), fun _ => ⟨b, _, rfl, ((HA.out.keep hn).keep nn).drop (j + 1)⟩⟩
    · obtain ⟨a1, c1, e1, s1⟩ : ∃ a1 c1, a'.eval (.tmp 26) = .slice a1 (S.ts.take j).length c1 ∧ Sl TriR.enc 10 w' (.slice a1 (S.ts.take j).length c1) (S.ts.take j) := hd 3 26 (by omega) (by kernel_rfl) (by kernel_rfl)
      obtain ⟨a2, c2, e2, s2⟩ : ∃ a1 c1, a'.eval (.tmp 30) = .slice a1 (S.ts.drop (j + 1)).length c1 ∧ Sl TriR.enc 10 w' (.slice a1 (S.ts.drop (j + 1)).length c1) (S.ts.drop (j + 1)) := hd 7 30 (by omega) (by kernel_rfl) (by kernel_rfl)
      have r26 : (a'.tmps[26]?).getD undef = _ := (eval_get a' 26).symm.trans e1
      have r30 : (a'.tmps[30]?).getD undef = _ := (eval_get a' 30).symm.trans e2
      generalize hL1 : S.ts.take j = L1 at *
      generalize hL2 : S.ts.drop (j + 1) = L2 at *
      have hnew := (New.refl w').alloc (.cells #[.slice a1 L1.length c1, .slice a2 L2.length c2] 24)
      exact yields_value (w' := w'.alloc (.cells #[.slice a1 L1.length c1, .slice a2 L2.length c2] 24)) (.slice (some ⟨w'.heap.size, 0, none⟩) 2 2) (by go_simp)
        ⟨hnew, _, ⟨a1, L1, c1⟩, ⟨a2, L2, c2⟩, rfl, t_two (by go_simp) (by go_simp) (s1.keep hnew) (s2.keep hnew), hL1.symm, hL2.symm⟩
    · obtain ⟨g, p, q, eg, hp, h1, h2⟩ : ∃ g p q, a'.eval (.tmp 31) = .slice (some ⟨g, 0, none⟩) 2 2 ∧ PartsAt TriR.enc 10 w' g [p, q] ∧ p.l = S.ts.take j ∧ q.l = S.ts.drop (j + 1) := hd 8 31 (by omega) (by kernel_rfl) (by kernel_rfl)
      have r31 : (a'.tmps[31]?).getD undef = _ := (eval_get a' 31).symm.trans eg
      have hfl : ([p, q] : List (Part TriR)).flatMap (·.l) = S.ts.take j ++ S.ts.drop (j + 1) := by simp [h1, h2]
      refine yields_enter 73 #[.slice (some ⟨g, 0, none⟩) 2 2] (by go_simp) ((t_concat g 2 [p, q] (by simp) (by rw [hfl, List.length_append, HTL.out, HDL.out]; omega) w' hp).mono ?_)
      rintro e w'' ⟨v, he, hs, ho, hn2⟩
      rw [hfl] at hs
      have hs' := hs
      obtain ⟨a1, c1, rfl, hh⟩ := hs'
      exact ⟨_, he, hn2, a1, c1, _, rfl, rfl, hs⟩
    · have r5 : (a'.tmps[5]?).getD undef = .pointer (some ⟨w.heap.size + 1, 0, none⟩) := (eval_get a' 5).symm.trans (hr 5 (by kernel_rfl))
      (replace k0 := New.keep (nn) k0; replace k1 := New.keep (nn) k1; replace k2 := New.keep (nn) k2; replace k3 := New.keep (nn) k3; replace k4 := New.keep (nn) k4)
      exact yields_value (.agg #[.func (.func 49) #[] #[], .func (.func 50) #[] #[], .int .i64 200, .int .i64 40, .func (.func 51) #[] #[]]) (by go_simp) ⟨New.refl _, rfl⟩
    · have e0 : a'.eval (.tmp 23) = .agg #[.slice S.a0 S.ts.length S.c0, .slice S.a1 S.bs.length S.c1, .slice S.a2 S.hs.length S.c2] := hd 0 23 (by omega) (by kernel_rfl) (by kernel_rfl)
      obtain ⟨a1, c1, l1, e1, hl1, hs⟩ : ∃ a1 c1, ∃ l1 : List TriR, a'.eval (.tmp 32) = .slice a1 l1.length c1 ∧ l1 = S.ts.take j ++ S.ts.drop (j + 1) ∧ Sl TriR.enc 10 w' (.slice a1 l1.length c1) l1 := hd 9 32 (by omega) (by kernel_rfl) (by kernel_rfl)
      have e2 : a'.eval (.tmp 33) = .agg #[.func (.func 49) #[] #[], .func (.func 50) #[] #[], .int .i64 200, .int .i64 40, .func (.func 51) #[] #[]] := hd 10 33 (by omega) (by kernel_rfl) (by kernel_rfl)
      have r23 : (a'.tmps[23]?).getD undef = _ := (eval_get a' 23).symm.trans e0
      have r32 : (a'.tmps[32]?).getD undef = _ := (eval_get a' 32).symm.trans e1
      have r33 : (a'.tmps[33]?).getD undef = _ := (eval_get a' 33).symm.trans e2
      have hll : l1.length ≤ 1000 := by rw [hl1, List.length_append, HTL.out, HDL.out]; omega
      refine yields_enter 72 #[.agg #[.slice S.a0 S.ts.length S.c0, .slice S.a1 S.bs.length S.c1, .slice S.a2 S.hs.length S.c2], .slice a1 l1.length c1, .agg #[.func (.func 49) #[] #[], .func (.func 50) #[] #[], .int .i64 200, .int .i64 40, .func (.func 51) #[] #[]]] (by go_simp) ((HX.out a1 l1 c1 w' (hn.trans nn) hs hll).mono ?_)
      rintro e w'' ⟨S', he, h1, h2, h3, h4, h5, h6⟩
      refine ⟨_, he, h6, S', rfl, h1, h5.mono ?_, h2.trans hl1, h3, h4⟩
      have := fz.lt (by omega)
      have := nn.size
      omega
  · intro vs w' nn hv
    obtain ⟨S', e11, h1, h2, h3, h4, h5⟩ : ∃ S' : SoupV, vs 11 = .agg #[.slice S'.a0 S'.ts.length S'.c0, .slice S'.a1 S'.bs.length S'.c1, .slice S'.a2 S'.hs.length S'.c2] ∧ S'.ok w' ∧ S'.own (w.heap.size + 1 + 1 + 1) ∧ S'.ts = S.ts.take j ++ S.ts.drop (j + 1) ∧ S'.bs = S.bs ∧ S'.hs = S.hs := hv 11 (by omega)
    simp only [List.take_succ_cons, List.take_zero, List.drop_succ_cons, List.drop_zero, putL, Act.put, List.setIfInBounds_toArray, List.set_cons_zero, List.set_cons_succ, Nat.reduceAdd, Nat.zero_add]
    rw [e11]
    have H1 := Lib.hid (And.intro h1 (And.intro h2 (And.intro h3 (And.intro h4 h5))))
    clear hv e11 q0 q1 q2 k0 k1 k2 k3 k4 h1 h2 h3 h4 h5 HX HA
    go_wp2_with (refine wpList_store_row rfl 28 _ _ rfl _ _ rfl rfl (fz.keep nn) (by kernel_rfl) (by intro v hv; simp at hv; rcases hv with rfl | rfl | rfl <;> rfl) (fun Z nZ kZ cZ => ?_))
    have nz := nZ w (hn.trans nn) (by omega)
    have okz := SoupV.ok_but H1.out.1 H1.out.2.1 (by omega) kZ
    have r0 := cZ 0 (by simp)
    have r1 := cZ 1 (by simp)
    have r2 := cZ 2 (by simp)
    simp only [Nat.zero_add, List.getElem_cons_zero, List.getElem_cons_succ] at r0 r1 r2
    clear nZ kZ cZ
    refine bodyPost_ret (v := .tuple #[.agg #[.slice S'.a0 S'.ts.length S'.c0, .slice S'.a1 S'.bs.length S'.c1, .slice S'.a2 S'.hs.length S'.c2], .int .i64 0]) (by simp [results, Tryz.results27, go_sem, r0, r1, r2]) rfl ?_
    exact ⟨S', rfl, okz, H1.out.2.2.1, H1.out.2.2.2.1, H1.out.2.2.2.2, H1.out.2.1.mono (by omega), nz⟩

end Go.Proofs.YtonngfogbnfbnaaGreat

/- Package soup: Drop. -/
namespace Go.Proofs.YtonngfogbnfbnaaGreat
open Go.RowKit
set_option linter.unusedVariables false

def t_DrV (S : SoupV) (id er : Int) (T : List TriR) (B : List BoxR) (H : List HopR) (b : Nat) : Nat → World → Value → Prop
  | 0, _, v => v = .agg #[.slice S.a0 S.ts.length S.c0, .slice S.a1 S.bs.length S.c1, .slice S.a2 S.hs.length S.c2]
  | 1, _, v => v = .int .i64 id
  | 2, _, v => v = .agg #[.func (.func 49) #[] #[], .func (.func 50) #[] #[], .int .i64 200, .int .i64 40, .func (.func 51) #[] #[]]
  | 3, w, v => ∃ S' : SoupV, v = .tuple #[.agg #[.slice S'.a0 S'.ts.length S'.c0, .slice S'.a1 S'.bs.length S'.c1, .slice S'.a2 S'.hs.length S'.c2], .int .i64 er] ∧ S'.ok w ∧ S'.own (b + 1 + 1) ∧ S'.ts = T ∧ S'.bs = B ∧ S'.hs = H
  | 4, w, v => ∃ S' : SoupV, v = .agg #[.slice S'.a0 S'.ts.length S'.c0, .slice S'.a1 S'.bs.length S'.c1, .slice S'.a2 S'.hs.length S'.c2] ∧ S'.ok w ∧ S'.own (b + 1 + 1) ∧ S'.ts = T ∧ S'.bs = B ∧ S'.hs = H
  | _, w, v => v = .int .i64 er
theorem t_DrV_keep {S : SoupV} {id er : Int} {T : List TriR} {B : List BoxR} {H : List HopR} {b : Nat} : ∀ i w w' v, t_DrV S id er T B H b i w v → New w w' → t_DrV S id er T B H b i w' v := by
  intro i w w' v h hn
  rcases (show i = 0 ∨ i = 1 ∨ i = 2 ∨ i = 3 ∨ i = 4 ∨ 5 ≤ i by omega) with rfl | rfl | rfl | rfl | rfl | hi
  · exact h
  · exact h
  · exact h
  · obtain ⟨S', e, h1, h2⟩ := h; exact ⟨S', e, h1.keep hn, h2⟩
  · obtain ⟨S', e, h1, h2⟩ := h; exact ⟨S', e, h1.keep hn, h2⟩
  · obtain ⟨k, rfl⟩ : ∃ k, i = k + 5 := ⟨i - 5, by omega⟩
    exact h

set_option maxHeartbeats 4000000 in
set_option maxRecDepth 100000 in
theorem t_Drop (S : SoupV) (id er : Int) (T : List TriR) (B : List BoxR) (H : List HopR) (w : World)
    (hD : ∀ W, New w W → Calls Tryz.prog 27 #[.agg #[.slice S.a0 S.ts.length S.c0, .slice S.a1 S.bs.length S.c1, .slice S.a2 S.hs.length S.c2], .int .i64 id, .agg #[.func (.func 49) #[] #[], .func (.func 50) #[] #[], .int .i64 200, .int .i64 40, .func (.func 51) #[] #[]]] W (SoupE T B H er W)) :
    Calls Tryz.prog 12 #[.agg #[.slice S.a0 S.ts.length S.c0, .slice S.a1 S.bs.length S.c1, .slice S.a2 S.hs.length S.c2], .int .i64 0, .int .i64 id] w (SoupE T B H er w) := by
  have HD := Lib.hid hD
  have HK := Lib.hid (fun W => t_kind W)
  clear hD
  go_enter Tryz.func12, Tryz.ntmps12
  go_upto_region 3 with fail
  generalize hW : World.alloc _ _ = W
  have hn : New w W := by subst hW; (repeat (first | (with_reducible exact New.refl _) | (with_reducible assumption) | ((with_reducible refine New.setB ?_ ?_ _); focus (first | omega | (simp; omega) | (simp; done))) | (with_reducible refine New.alloc ?_ _) | (with_reducible refine New.drew ?_) | (with_reducible refine New.drewN ?_ _) | (with_reducible refine New.hat ?_ _) | ((with_reducible apply New.snart); (with_reducible assumption))))
  have q0 : W.cell? ⟨w.heap.size, 0, none⟩ = some (.slice S.a0 S.ts.length S.c0) := by subst hW; go_simp
  have q1 : W.cell? ⟨w.heap.size, 1, none⟩ = some (.slice S.a1 S.bs.length S.c1) := by subst hW; go_simp
  have q2 : W.cell? ⟨w.heap.size, 2, none⟩ = some (.slice S.a2 S.hs.length S.c2) := by subst hW; go_simp
  have fz : Thr W (w.heap.size + 1) 3 := by subst hW; exact Thr.new _ _ _ _ (by simp)
  clear hW
  refine wp_region_loose 6 (t_DrV S id er T B H w.heap.size) (by kernel_rfl) (by kernel_rfl) t_DrV_keep ?_ ?_
  · intro i o hi ho a' w' nn hr hd
    rcases (show i = 0 ∨ i = 1 ∨ i = 2 ∨ i = 3 ∨ i = 4 ∨ i = 5 by omega) with rfl | rfl | rfl | rfl | rfl | rfl <;> obtain rfl := Option.some.inj ho
    · have r3 : (a'.tmps[3]?).getD undef = .pointer (some ⟨w.heap.size, 0, none⟩) := (eval_get a' 3).symm.trans (hr 3 (by kernel_rfl))
      have x0 := nn.keep q0
      have x1 := nn.keep q1
      have x2 := nn.keep q2
      exact yields_value (.agg #[.slice S.a0 S.ts.length S.c0, .slice S.a1 S.bs.length S.c1, .slice S.a2 S.hs.length S.c2]) (by go_simp) ⟨New.refl _, rfl⟩
    · have r2 : (a'.tmps[2]?).getD undef = .int .i64 id := (eval_get a' 2).symm.trans (hr 2 (by kernel_rfl))
      exact yields_value (.int .i64 id) (by go_simp) ⟨New.refl _, rfl⟩
    · exact yields_enter 22 #[] (by go_simp) ((HK.out _).mono fun e w'' ⟨he, hn⟩ => ⟨_, he, hn, rfl⟩)
    · have e0 : a'.eval (.tmp 11) = .agg #[.slice S.a0 S.ts.length S.c0, .slice S.a1 S.bs.length S.c1, .slice S.a2 S.hs.length S.c2] := hd 0 11 (by omega) (by kernel_rfl) (by kernel_rfl)
      have e1 : a'.eval (.tmp 12) = .int .i64 id := hd 1 12 (by omega) (by kernel_rfl) (by kernel_rfl)
      have e2 : a'.eval (.tmp 13) = .agg #[.func (.func 49) #[] #[], .func (.func 50) #[] #[], .int .i64 200, .int .i64 40, .func (.func 51) #[] #[]] := hd 2 13 (by omega) (by kernel_rfl) (by kernel_rfl)
      have r0 : (a'.tmps[11]?).getD undef = _ := (eval_get a' 11).symm.trans e0
      have r1 : (a'.tmps[12]?).getD undef = _ := (eval_get a' 12).symm.trans e1
      have r2 : (a'.tmps[13]?).getD undef = _ := (eval_get a' 13).symm.trans e2
      refine yields_enter 27 #[.agg #[.slice S.a0 S.ts.length S.c0, .slice S.a1 S.bs.length S.c1, .slice S.a2 S.hs.length S.c2], .int .i64 id, .agg #[.func (.func 49) #[] #[], .func (.func 50) #[] #[], .int .i64 200, .int .i64 40, .func (.func 51) #[] #[]]] (by go_simp) ((HD.out _ (hn.trans nn)).mono ?_)
      rintro e w'' ⟨S', he, h1, h2, h3, h4, h5, h6⟩
      refine ⟨_, he, h6, S', rfl, h1, h5.mono ?_, h2, h3, h4⟩
      have := fz.lt (by omega)
      have := nn.size
      omega
    · obtain ⟨S', e3, h1⟩ : ∃ S' : SoupV, a'.eval (.tmp 14) = .tuple #[.agg #[.slice S'.a0 S'.ts.length S'.c0, .slice S'.a1 S'.bs.length S'.c1, .slice S'.a2 S'.hs.length S'.c2], .int .i64 er] ∧ S'.ok w' ∧ S'.own (w.heap.size + 1 + 1) ∧ S'.ts = T ∧ S'.bs = B ∧ S'.hs = H := hd 3 14 (by omega) (by kernel_rfl) (by kernel_rfl)
      have r3 : (a'.tmps[14]?).getD undef = _ := (eval_get a' 14).symm.trans e3
      exact yields_value (.agg #[.slice S'.a0 S'.ts.length S'.c0, .slice S'.a1 S'.bs.length S'.c1, .slice S'.a2 S'.hs.length S'.c2]) (by go_simp) ⟨New.refl _, S', rfl, h1⟩
    · obtain ⟨S', e3, h1⟩ : ∃ S' : SoupV, a'.eval (.tmp 14) = .tuple #[.agg #[.slice S'.a0 S'.ts.length S'.c0, .slice S'.a1 S'.bs.length S'.c1, .slice S'.a2 S'.hs.length S'.c2], .int .i64 er] ∧ S'.ok w' ∧ S'.own (w.heap.size + 1 + 1) ∧ S'.ts = T ∧ S'.bs = B ∧ S'.hs = H := hd 3 14 (by omega) (by kernel_rfl) (by kernel_rfl)
      have r3 : (a'.tmps[14]?).getD undef = _ := (eval_get a' 14).symm.trans e3
      exact yields_value (.int .i64 er) (by go_simp) ⟨New.refl _, rfl⟩
  · intro vs w' nn hv
    obtain ⟨S', e4, h1, h2, h3⟩ : ∃ S' : SoupV, vs 4 = .agg #[.slice S'.a0 S'.ts.length S'.c0, .slice S'.a1 S'.bs.length S'.c1, .slice S'.a2 S'.hs.length S'.c2] ∧ S'.ok w' ∧ S'.own (w.heap.size + 1 + 1) ∧ S'.ts = T ∧ S'.bs = B ∧ S'.hs = H := hv 4 (by omega)
    have e5 : vs 5 = .int .i64 er := hv 5 (by omega)
    simp only [List.take_succ_cons, List.take_zero, List.drop_succ_cons, List.drop_zero, putL, Act.put, List.setIfInBounds_toArray, List.set_cons_zero, List.set_cons_succ, Nat.reduceAdd, Nat.zero_add]
    rw [e4, e5]
    have H1 := Lib.hid (And.intro h1 (And.intro h2 h3))
    clear hv e4 e5 q0 q1 q2 h1 h2 h3 HD HK
    go_wp2_with (refine wpList_store_row rfl 28 _ _ rfl _ _ rfl rfl (fz.keep nn) (by kernel_rfl) (by intro v hv; simp at hv; rcases hv with rfl | rfl | rfl <;> rfl) (fun Z nZ kZ cZ => ?_))
    have nz := nZ w (hn.trans nn) (by omega)
    have okz := SoupV.ok_but H1.out.1 H1.out.2.1 (by omega) kZ
    have r0 := cZ 0 (by simp)
    have r1 := cZ 1 (by simp)
    have r2 := cZ 2 (by simp)
    simp only [Nat.zero_add, List.getElem_cons_zero, List.getElem_cons_succ] at r0 r1 r2
    clear nZ kZ cZ
    refine bodyPost_ret (v := .tuple #[.agg #[.slice S'.a0 S'.ts.length S'.c0, .slice S'.a1 S'.bs.length S'.c1, .slice S'.a2 S'.hs.length S'.c2], .int .i64 er]) (by simp [results, Tryz.results12, go_sem, r0, r1, r2]) rfl ?_
    exact ⟨S', rfl, okz, H1.out.2.2.1, H1.out.2.2.2.1, H1.out.2.2.2.2, H1.out.2.1.mono (by omega), nz⟩

def b_DrV (S : SoupV) (id er : Int) (T : List TriR) (B : List BoxR) (H : List HopR) (b : Nat) : Nat → World → Value → Prop
  | 0, _, v => v = .agg #[.slice S.a0 S.ts.length S.c0, .slice S.a1 S.bs.length S.c1, .slice S.a2 S.hs.length S.c2]
  | 1, _, v => v = .int .i64 id
  | 2, _, v => v = .agg #[.func (.func 55) #[] #[], .func (.func 56) #[] #[], .int .i64 16, .int .i64 2, .func (.func 57) #[] #[]]
  | 3, w, v => ∃ S' : SoupV, v = .tuple #[.agg #[.slice S'.a0 S'.ts.length S'.c0, .slice S'.a1 S'.bs.length S'.c1, .slice S'.a2 S'.hs.length S'.c2], .int .i64 er] ∧ S'.ok w ∧ S'.own (b + 1 + 1) ∧ S'.ts = T ∧ S'.bs = B ∧ S'.hs = H
  | 4, w, v => ∃ S' : SoupV, v = .agg #[.slice S'.a0 S'.ts.length S'.c0, .slice S'.a1 S'.bs.length S'.c1, .slice S'.a2 S'.hs.length S'.c2] ∧ S'.ok w ∧ S'.own (b + 1 + 1) ∧ S'.ts = T ∧ S'.bs = B ∧ S'.hs = H
  | _, w, v => v = .int .i64 er
theorem b_DrV_keep {S : SoupV} {id er : Int} {T : List TriR} {B : List BoxR} {H : List HopR} {b : Nat} : ∀ i w w' v, b_DrV S id er T B H b i w v → New w w' → b_DrV S id er T B H b i w' v := by
  intro i w w' v h hn
  rcases (show i = 0 ∨ i = 1 ∨ i = 2 ∨ i = 3 ∨ i = 4 ∨ 5 ≤ i by omega) with rfl | rfl | rfl | rfl | rfl | hi
  · exact h
  · exact h
  · exact h
  · obtain ⟨S', e, h1, h2⟩ := h; exact ⟨S', e, h1.keep hn, h2⟩
  · obtain ⟨S', e, h1, h2⟩ := h; exact ⟨S', e, h1.keep hn, h2⟩
  · obtain ⟨k, rfl⟩ : ∃ k, i = k + 5 := ⟨i - 5, by omega⟩
    exact h

set_option maxHeartbeats 4000000 in
set_option maxRecDepth 100000 in
theorem b_Drop (S : SoupV) (id er : Int) (T : List TriR) (B : List BoxR) (H : List HopR) (w : World)
    (hD : ∀ W, New w W → Calls Tryz.prog 28 #[.agg #[.slice S.a0 S.ts.length S.c0, .slice S.a1 S.bs.length S.c1, .slice S.a2 S.hs.length S.c2], .int .i64 id, .agg #[.func (.func 55) #[] #[], .func (.func 56) #[] #[], .int .i64 16, .int .i64 2, .func (.func 57) #[] #[]]] W (SoupE T B H er W)) :
    Calls Tryz.prog 12 #[.agg #[.slice S.a0 S.ts.length S.c0, .slice S.a1 S.bs.length S.c1, .slice S.a2 S.hs.length S.c2], .int .i64 1, .int .i64 id] w (SoupE T B H er w) := by
  have HD := Lib.hid hD
  have HK := Lib.hid (fun W => b_kind W)
  clear hD
  go_enter Tryz.func12, Tryz.ntmps12
  go_upto_region 5 with fail
  generalize hW : World.alloc _ _ = W
  have hn : New w W := by subst hW; (repeat (first | (with_reducible exact New.refl _) | (with_reducible assumption) | ((with_reducible refine New.setB ?_ ?_ _); focus (first | omega | (simp; omega) | (simp; done))) | (with_reducible refine New.alloc ?_ _) | (with_reducible refine New.drew ?_) | (with_reducible refine New.drewN ?_ _) | (with_reducible refine New.hat ?_ _) | ((with_reducible apply New.snart); (with_reducible assumption))))
  have q0 : W.cell? ⟨w.heap.size, 0, none⟩ = some (.slice S.a0 S.ts.length S.c0) := by subst hW; go_simp
  have q1 : W.cell? ⟨w.heap.size, 1, none⟩ = some (.slice S.a1 S.bs.length S.c1) := by subst hW; go_simp
  have q2 : W.cell? ⟨w.heap.size, 2, none⟩ = some (.slice S.a2 S.hs.length S.c2) := by subst hW; go_simp
  have fz : Thr W (w.heap.size + 1) 3 := by subst hW; exact Thr.new _ _ _ _ (by simp)
  clear hW
  refine wp_region_loose 6 (b_DrV S id er T B H w.heap.size) (by kernel_rfl) (by kernel_rfl) b_DrV_keep ?_ ?_
  · intro i o hi ho a' w' nn hr hd
    rcases (show i = 0 ∨ i = 1 ∨ i = 2 ∨ i = 3 ∨ i = 4 ∨ i = 5 by omega) with rfl | rfl | rfl | rfl | rfl | rfl <;> obtain rfl := Option.some.inj ho
    · have r3 : (a'.tmps[3]?).getD undef = .pointer (some ⟨w.heap.size, 0, none⟩) := (eval_get a' 3).symm.trans (hr 3 (by kernel_rfl))
      have x0 := nn.keep q0
      have x1 := nn.keep q1
      have x2 := nn.keep q2
      exact yields_value (.agg #[.slice S.a0 S.ts.length S.c0, .slice S.a1 S.bs.length S.c1, .slice S.a2 S.hs.length S.c2]) (by go_simp) ⟨New.refl _, rfl⟩
    · have r2 : (a'.tmps[2]?).getD undef = .int .i64 id := (eval_get a' 2).symm.trans (hr 2 (by kernel_rfl))
      exact yields_value (.int .i64 id) (by go_simp) ⟨New.refl _, rfl⟩
    · exact yields_enter 24 #[] (by go_simp) ((HK.out _).mono fun e w'' ⟨he, hn⟩ => ⟨_, he, hn, rfl⟩)
    · have e0 : a'.eval (.tmp 19) = .agg #[.slice S.a0 S.ts.length S.c0, .slice S.a1 S.bs.length S.c1, .slice S.a2 S.hs.length S.c2] := hd 0 19 (by omega) (by kernel_rfl) (by kernel_rfl)
      have e1 : a'.eval (.tmp 20) = .int .i64 id := hd 1 20 (by omega) (by kernel_rfl) (by kernel_rfl)
      have e2 : a'.eval (.tmp 21) = .agg #[.func (.func 55) #[] #[], .func (.func 56) #[] #[], .int .i64 16, .int .i64 2, .func (.func 57) #[] #[]] := hd 2 21 (by omega) (by kernel_rfl) (by kernel_rfl)
      have r0 : (a'.tmps[19]?).getD undef = _ := (eval_get a' 19).symm.trans e0
      have r1 : (a'.tmps[20]?).getD undef = _ := (eval_get a' 20).symm.trans e1
      have r2 : (a'.tmps[21]?).getD undef = _ := (eval_get a' 21).symm.trans e2
      refine yields_enter 28 #[.agg #[.slice S.a0 S.ts.length S.c0, .slice S.a1 S.bs.length S.c1, .slice S.a2 S.hs.length S.c2], .int .i64 id, .agg #[.func (.func 55) #[] #[], .func (.func 56) #[] #[], .int .i64 16, .int .i64 2, .func (.func 57) #[] #[]]] (by go_simp) ((HD.out _ (hn.trans nn)).mono ?_)
      rintro e w'' ⟨S', he, h1, h2, h3, h4, h5, h6⟩
      refine ⟨_, he, h6, S', rfl, h1, h5.mono ?_, h2, h3, h4⟩
      have := fz.lt (by omega)
      have := nn.size
      omega
    · obtain ⟨S', e3, h1⟩ : ∃ S' : SoupV, a'.eval (.tmp 22) = .tuple #[.agg #[.slice S'.a0 S'.ts.length S'.c0, .slice S'.a1 S'.bs.length S'.c1, .slice S'.a2 S'.hs.length S'.c2], .int .i64 er] ∧ S'.ok w' ∧ S'.own (w.heap.size + 1 + 1) ∧ S'.ts = T ∧ S'.bs = B ∧ S'.hs = H := hd 3 22 (by omega) (by kernel_rfl) (by kernel_rfl)
      have r3 : (a'.tmps[22]?).getD undef = _ := (eval_get a' 22).symm.trans e3
      exact yields_value (.agg #[.slice S'.a0 S'.ts.length S'.c0, .slice S'.a1 S'.bs.length S'.c1, .slice S'.a2 S'.hs.length S'.c2]) (by go_simp) ⟨New.refl _, S', rfl, h1⟩
    · obtain ⟨S', e3, h1⟩ : ∃ S' : SoupV, a'.eval (.tmp 22) = .tuple #[.agg #[.slice S'.a0 S'.ts.length S'.c0, .slice S'.a1 S'.bs.length S'.c1, .slice S'.a2 S'.hs.length S'.c2], .int .i64 er] ∧ S'.ok w' ∧ S'.own (w.heap.size + 1 + 1) ∧ S'.ts = T ∧ S'.bs = B ∧ S'.hs = H := hd 3 22 (by omega) (by kernel_rfl) (by kernel_rfl)
      have r3 : (a'.tmps[22]?).getD undef = _ := (eval_get a' 22).symm.trans e3
      exact yields_value (.int .i64 er) (by go_simp) ⟨New.refl _, rfl⟩
  · intro vs w' nn hv
    obtain ⟨S', e4, h1, h2, h3⟩ : ∃ S' : SoupV, vs 4 = .agg #[.slice S'.a0 S'.ts.length S'.c0, .slice S'.a1 S'.bs.length S'.c1, .slice S'.a2 S'.hs.length S'.c2] ∧ S'.ok w' ∧ S'.own (w.heap.size + 1 + 1) ∧ S'.ts = T ∧ S'.bs = B ∧ S'.hs = H := hv 4 (by omega)
    have e5 : vs 5 = .int .i64 er := hv 5 (by omega)
    simp only [List.take_succ_cons, List.take_zero, List.drop_succ_cons, List.drop_zero, putL, Act.put, List.setIfInBounds_toArray, List.set_cons_zero, List.set_cons_succ, Nat.reduceAdd, Nat.zero_add]
    rw [e4, e5]
    have H1 := Lib.hid (And.intro h1 (And.intro h2 h3))
    clear hv e4 e5 q0 q1 q2 h1 h2 h3 HD HK
    go_wp2_with (refine wpList_store_row rfl 28 _ _ rfl _ _ rfl rfl (fz.keep nn) (by kernel_rfl) (by intro v hv; simp at hv; rcases hv with rfl | rfl | rfl <;> rfl) (fun Z nZ kZ cZ => ?_))
    have nz := nZ w (hn.trans nn) (by omega)
    have okz := SoupV.ok_but H1.out.1 H1.out.2.1 (by omega) kZ
    have r0 := cZ 0 (by simp)
    have r1 := cZ 1 (by simp)
    have r2 := cZ 2 (by simp)
    simp only [Nat.zero_add, List.getElem_cons_zero, List.getElem_cons_succ] at r0 r1 r2
    clear nZ kZ cZ
    refine bodyPost_ret (v := .tuple #[.agg #[.slice S'.a0 S'.ts.length S'.c0, .slice S'.a1 S'.bs.length S'.c1, .slice S'.a2 S'.hs.length S'.c2], .int .i64 er]) (by simp [results, Tryz.results12, go_sem, r0, r1, r2]) rfl ?_
    exact ⟨S', rfl, okz, H1.out.2.2.1, H1.out.2.2.2.1, H1.out.2.2.2.2, H1.out.2.1.mono (by omega), nz⟩

def h_DrV (S : SoupV) (id er : Int) (T : List TriR) (B : List BoxR) (H : List HopR) (b : Nat) : Nat → World → Value → Prop
  | 0, _, v => v = .agg #[.slice S.a0 S.ts.length S.c0, .slice S.a1 S.bs.length S.c1, .slice S.a2 S.hs.length S.c2]
  | 1, _, v => v = .int .i64 id
  | 2, _, v => v = .agg #[.func (.func 64) #[] #[], .func (.func 65) #[] #[], .int .i64 16, .int .i64 2, .func (.func 66) #[] #[]]
  | 3, w, v => ∃ S' : SoupV, v = .tuple #[.agg #[.slice S'.a0 S'.ts.length S'.c0, .slice S'.a1 S'.bs.length S'.c1, .slice S'.a2 S'.hs.length S'.c2], .int .i64 er] ∧ S'.ok w ∧ S'.own (b + 1 + 1) ∧ S'.ts = T ∧ S'.bs = B ∧ S'.hs = H
  | 4, w, v => ∃ S' : SoupV, v = .agg #[.slice S'.a0 S'.ts.length S'.c0, .slice S'.a1 S'.bs.length S'.c1, .slice S'.a2 S'.hs.length S'.c2] ∧ S'.ok w ∧ S'.own (b + 1 + 1) ∧ S'.ts = T ∧ S'.bs = B ∧ S'.hs = H
  | _, w, v => v = .int .i64 er
theorem h_DrV_keep {S : SoupV} {id er : Int} {T : List TriR} {B : List BoxR} {H : List HopR} {b : Nat} : ∀ i w w' v, h_DrV S id er T B H b i w v → New w w' → h_DrV S id er T B H b i w' v := by
  intro i w w' v h hn
  rcases (show i = 0 ∨ i = 1 ∨ i = 2 ∨ i = 3 ∨ i = 4 ∨ 5 ≤ i by omega) with rfl | rfl | rfl | rfl | rfl | hi
  · exact h
  · exact h
  · exact h
  · obtain ⟨S', e, h1, h2⟩ := h; exact ⟨S', e, h1.keep hn, h2⟩
  · obtain ⟨S', e, h1, h2⟩ := h; exact ⟨S', e, h1.keep hn, h2⟩
  · obtain ⟨k, rfl⟩ : ∃ k, i = k + 5 := ⟨i - 5, by omega⟩
    exact h

set_option maxHeartbeats 4000000 in
set_option maxRecDepth 100000 in
theorem h_Drop (S : SoupV) (id er : Int) (T : List TriR) (B : List BoxR) (H : List HopR) (w : World)
    (hD : ∀ W, New w W → Calls Tryz.prog 29 #[.agg #[.slice S.a0 S.ts.length S.c0, .slice S.a1 S.bs.length S.c1, .slice S.a2 S.hs.length S.c2], .int .i64 id, .agg #[.func (.func 64) #[] #[], .func (.func 65) #[] #[], .int .i64 16, .int .i64 2, .func (.func 66) #[] #[]]] W (SoupE T B H er W)) :
    Calls Tryz.prog 12 #[.agg #[.slice S.a0 S.ts.length S.c0, .slice S.a1 S.bs.length S.c1, .slice S.a2 S.hs.length S.c2], .int .i64 2, .int .i64 id] w (SoupE T B H er w) := by
  have HD := Lib.hid hD
  have HK := Lib.hid (fun W => h_kind W)
  clear hD
  go_enter Tryz.func12, Tryz.ntmps12
  go_upto_region 7 with fail
  generalize hW : World.alloc _ _ = W
  have hn : New w W := by subst hW; (repeat (first | (with_reducible exact New.refl _) | (with_reducible assumption) | ((with_reducible refine New.setB ?_ ?_ _); focus (first | omega | (simp; omega) | (simp; done))) | (with_reducible refine New.alloc ?_ _) | (with_reducible refine New.drew ?_) | (with_reducible refine New.drewN ?_ _) | (with_reducible refine New.hat ?_ _) | ((with_reducible apply New.snart); (with_reducible assumption))))
  have q0 : W.cell? ⟨w.heap.size, 0, none⟩ = some (.slice S.a0 S.ts.length S.c0) := by subst hW; go_simp
  have q1 : W.cell? ⟨w.heap.size, 1, none⟩ = some (.slice S.a1 S.bs.length S.c1) := by subst hW; go_simp
  have q2 : W.cell? ⟨w.heap.size, 2, none⟩ = some (.slice S.a2 S.hs.length S.c2) := by subst hW; go_simp
  have fz : Thr W (w.heap.size + 1) 3 := by subst hW; exact Thr.new _ _ _ _ (by simp)
  clear hW
  refine wp_region_loose 6 (h_DrV S id er T B H w.heap.size) (by kernel_rfl) (by kernel_rfl) h_DrV_keep ?_ ?_
  · intro i o hi ho a' w' nn hr hd
    rcases (show i = 0 ∨ i = 1 ∨ i = 2 ∨ i = 3 ∨ i = 4 ∨ i = 5 by omega) with rfl | rfl | rfl | rfl | rfl | rfl <;> obtain rfl := Option.some.inj ho
    · have r3 : (a'.tmps[3]?).getD undef = .pointer (some ⟨w.heap.size, 0, none⟩) := (eval_get a' 3).symm.trans (hr 3 (by kernel_rfl))
      have x0 := nn.keep q0
      have x1 := nn.keep q1
      have x2 := nn.keep q2
      exact yields_value (.agg #[.slice S.a0 S.ts.length S.c0, .slice S.a1 S.bs.length S.c1, .slice S.a2 S.hs.length S.c2]) (by go_simp) ⟨New.refl _, rfl⟩
    · have r2 : (a'.tmps[2]?).getD undef = .int .i64 id := (eval_get a' 2).symm.trans (hr 2 (by kernel_rfl))
      exact yields_value (.int .i64 id) (by go_simp) ⟨New.refl _, rfl⟩
    · exact yields_enter 26 #[] (by go_simp) ((HK.out _).mono fun e w'' ⟨he, hn⟩ => ⟨_, he, hn, rfl⟩)
    · have e0 : a'.eval (.tmp 27) = .agg #[.slice S.a0 S.ts.length S.c0, .slice S.a1 S.bs.length S.c1, .slice S.a2 S.hs.length S.c2] := hd 0 27 (by omega) (by kernel_rfl) (by kernel_rfl)
      have e1 : a'.eval (.tmp 28) = .int .i64 id := hd 1 28 (by omega) (by kernel_rfl) (by kernel_rfl)
      have e2 : a'.eval (.tmp 29) = .agg #[.func (.func 64) #[] #[], .func (.func 65) #[] #[], .int .i64 16, .int .i64 2, .func (.func 66) #[] #[]] := hd 2 29 (by omega) (by kernel_rfl) (by kernel_rfl)
      have r0 : (a'.tmps[27]?).getD undef = _ := (eval_get a' 27).symm.trans e0
      have r1 : (a'.tmps[28]?).getD undef = _ := (eval_get a' 28).symm.trans e1
      have r2 : (a'.tmps[29]?).getD undef = _ := (eval_get a' 29).symm.trans e2
      refine yields_enter 29 #[.agg #[.slice S.a0 S.ts.length S.c0, .slice S.a1 S.bs.length S.c1, .slice S.a2 S.hs.length S.c2], .int .i64 id, .agg #[.func (.func 64) #[] #[], .func (.func 65) #[] #[], .int .i64 16, .int .i64 2, .func (.func 66) #[] #[]]] (by go_simp) ((HD.out _ (hn.trans nn)).mono ?_)
      rintro e w'' ⟨S', he, h1, h2, h3, h4, h5, h6⟩
      refine ⟨_, he, h6, S', rfl, h1, h5.mono ?_, h2, h3, h4⟩
      have := fz.lt (by omega)
      have := nn.size
      omega
    · obtain ⟨S', e3, h1⟩ : ∃ S' : SoupV, a'.eval (.tmp 30) = .tuple #[.agg #[.slice S'.a0 S'.ts.length S'.c0, .slice S'.a1 S'.bs.length S'.c1, .slice S'.a2 S'.hs.length S'.c2], .int .i64 er] ∧ S'.ok w' ∧ S'.own (w.heap.size + 1 + 1) ∧ S'.ts = T ∧ S'.bs = B ∧ S'.hs = H := hd 3 30 (by omega) (by kernel_rfl) (by kernel_rfl)
      have r3 : (a'.tmps[30]?).getD undef = _ := (eval_get a' 30).symm.trans e3
      exact yields_value (.agg #[.slice S'.a0 S'.ts.length S'.c0, .slice S'.a1 S'.bs.length S'.c1, .slice S'.a2 S'.hs.length S'.c2]) (by go_simp) ⟨New.refl _, S', rfl, h1⟩
    · obtain ⟨S', e3, h1⟩ : ∃ S' : SoupV, a'.eval (.tmp 30) = .tuple #[.agg #[.slice S'.a0 S'.ts.length S'.c0, .slice S'.a1 S'.bs.length S'.c1, .slice S'.a2 S'.hs.length S'.c2], .int .i64 er] ∧ S'.ok w' ∧ S'.own (w.heap.size + 1 + 1) ∧ S'.ts = T ∧ S'.bs = B ∧ S'.hs = H := hd 3 30 (by omega) (by kernel_rfl) (by kernel_rfl)
      have r3 : (a'.tmps[30]?).getD undef = _ := (eval_get a' 30).symm.trans e3
      exact yields_value (.int .i64 er) (by go_simp) ⟨New.refl _, rfl⟩
  · intro vs w' nn hv
    obtain ⟨S', e4, h1, h2, h3⟩ : ∃ S' : SoupV, vs 4 = .agg #[.slice S'.a0 S'.ts.length S'.c0, .slice S'.a1 S'.bs.length S'.c1, .slice S'.a2 S'.hs.length S'.c2] ∧ S'.ok w' ∧ S'.own (w.heap.size + 1 + 1) ∧ S'.ts = T ∧ S'.bs = B ∧ S'.hs = H := hv 4 (by omega)
    have e5 : vs 5 = .int .i64 er := hv 5 (by omega)
    simp only [List.take_succ_cons, List.take_zero, List.drop_succ_cons, List.drop_zero, putL, Act.put, List.setIfInBounds_toArray, List.set_cons_zero, List.set_cons_succ, Nat.reduceAdd, Nat.zero_add]
    rw [e4, e5]
    have H1 := Lib.hid (And.intro h1 (And.intro h2 h3))
    clear hv e4 e5 q0 q1 q2 h1 h2 h3 HD HK
    go_wp2_with (refine wpList_store_row rfl 28 _ _ rfl _ _ rfl rfl (fz.keep nn) (by kernel_rfl) (by intro v hv; simp at hv; rcases hv with rfl | rfl | rfl <;> rfl) (fun Z nZ kZ cZ => ?_))
    have nz := nZ w (hn.trans nn) (by omega)
    have okz := SoupV.ok_but H1.out.1 H1.out.2.1 (by omega) kZ
    have r0 := cZ 0 (by simp)
    have r1 := cZ 1 (by simp)
    have r2 := cZ 2 (by simp)
    simp only [Nat.zero_add, List.getElem_cons_zero, List.getElem_cons_succ] at r0 r1 r2
    clear nZ kZ cZ
    refine bodyPost_ret (v := .tuple #[.agg #[.slice S'.a0 S'.ts.length S'.c0, .slice S'.a1 S'.bs.length S'.c1, .slice S'.a2 S'.hs.length S'.c2], .int .i64 er]) (by simp [results, Tryz.results12, go_sem, r0, r1, r2]) rfl ?_
    exact ⟨S', rfl, okz, H1.out.2.2.1, H1.out.2.2.2.1, H1.out.2.2.2.2, H1.out.2.1.mono (by omega), nz⟩
set_option maxHeartbeats 2000000 in
theorem s_Drop_arg (S : SoupV) (kind id : Int) (h0 : kind ≠ 0) (h1 : kind ≠ 1) (h2 : kind ≠ 2) (w : World) :
    Calls Tryz.prog 12 #[.agg #[.slice S.a0 S.ts.length S.c0, .slice S.a1 S.bs.length S.c1, .slice S.a2 S.hs.length S.c2], .int .i64 kind, .int .i64 id] w (SoupE [] [] [] 2 w) := by
  have e0 : (kind == 0) = false := by simpa using h0
  have e1 : (kind == 1) = false := by simpa using h1
  have e2 : (kind == 2) = false := by simpa using h2
  clear h0 h1 h2
  go_enter Tryz.func12, Tryz.ntmps12
  go_wp2_with (refine wpList_store_row rfl 28 _ _ rfl _ _ rfl rfl (Thr.new _ _ _ _ (by simp)) (by kernel_rfl) (by intro v hv; simp at hv; rcases hv with rfl | rfl | rfl <;> rfl) (fun Z nZ kZ cZ => ?_))
  have nz := nZ w (by (repeat (first | (with_reducible exact New.refl _) | (with_reducible assumption) | ((with_reducible refine New.setB ?_ ?_ _); focus (first | omega | (simp; omega) | (simp; done))) | (with_reducible refine New.alloc ?_ _) | (with_reducible refine New.drew ?_) | (with_reducible refine New.drewN ?_ _) | (with_reducible refine New.hat ?_ _) | ((with_reducible apply New.snart); (with_reducible assumption))))) (by omega)
  have r0 := cZ 0 (by simp)
  have r1 := cZ 1 (by simp)
  have r2 := cZ 2 (by simp)
  simp only [Nat.zero_add, List.getElem_cons_zero, List.getElem_cons_succ] at r0 r1 r2
  clear nZ kZ cZ
  refine bodyPost_ret (v := .tuple #[.agg #[.slice none 0 0, .slice none 0 0, .slice none 0 0], .int .i64 2]) (by simp [results, Tryz.results12, go_sem, r0, r1, r2]) rfl ?_
  exact ⟨SoupV.none, rfl, SoupV.none_ok _, rfl, rfl, rfl, SoupV.none_own _, nz⟩

end Go.Proofs.YtonngfogbnfbnaaGreat
