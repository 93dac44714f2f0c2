import Derived.Test.YtgoggogcbjfofaaDoorLkGY14
import Derived.Deep.DeepCutAuto
import Derived.Test.YtgoggogcbjfofaaDoorStoBY14

/- Package links: the way round, diagonal. -/
namespace Go.Proofs.YtgoggogcbjfofaaDoor
open Go.RowKit
set_option linter.unusedVariables false

theorem sd_neq (w : World) (a b : Sd) : (binOp .neq 93 (.agg #[.int .i64 a.x, .int .i64 a.z, .int .i64 a.k]) (.agg #[.int .i64 b.x, .int .i64 b.z, .int .i64 b.k])).run Tryd.prog w = .ok (.bool (!a.eqB b)) w := by
  unfold Sd.eqB
  cases h1 : (a.x == b.x) <;> cases h2 : (a.z == b.z) <;> cases h3 : (a.k == b.k) <;> (go_simp)

theorem bits_ax {d e : Int} (hd : okD d = true) (he : okD e = true) : (bits BinOp.and IntKind.i64 d 1 == bits BinOp.and IntKind.i64 e 1) = axB d e := by
  rcases okD_cases hd with rfl | rfl | rfl | rfl <;> rcases okD_cases he with rfl | rfl | rfl | rfl <;> kernel_rfl

end Go.Proofs.YtgoggogcbjfofaaDoor

/- Package links: groundOf. -/
namespace Go.Proofs.YtgoggogcbjfofaaDoor
open Go.RowKit
set_option linter.unusedVariables false

theorem lkE_two (C : CfgR) (G : Gd) : lkE C G = 0 ∨ lkE C G ≠ 0 := by omega
theorem gr_ok {C : CfgR} {G : Gd} {w : World} (h : G.ok w) : (grG C G).ok w := by
  unfold grG
  split
  · exact h
  · exact Gd.zero_ok w
/-- What groundOf tells. -/
def grV (C : CfgR) (G : Gd) : Value := .tuple #[.agg #[.int .i64 (grC C G).cl, .int .i64 (grC C G).cb, .int .i64 (grC C G).ht, .int .i64 (grC C G).ri, .int .i64 (grC C G).ru, .int .i64 (grC C G).wd, .int .i64 (grC C G).dp, .int .i64 (grG C G).x, .int .i64 (grG C G).z, .int .i64 (grG C G).w, .int .i64 (grG C G).d, .slice (grG C G).ga (grG C G).L.length (grG C G).gc], .int .i64 (lkE C G)]
theorem grV_bad {C : CfgR} {G : Gd} (h : lkE C G ≠ 0) : grV C G = .tuple #[.agg #[.int .i64 0, .int .i64 0, .int .i64 0, .int .i64 0, .int .i64 0, .int .i64 0, .int .i64 0, .int .i64 0, .int .i64 0, .int .i64 0, .int .i64 0, .slice none 0 0], .int .i64 (lkE C G)] := by
  unfold grV grC grG
  rw [if_neg h, if_neg h]
  rfl
theorem grV_fine {C : CfgR} {G : Gd} (h : lkE C G = 0) : grV C G = .tuple #[.agg #[.int .i64 C.cl, .int .i64 C.cb, .int .i64 C.ht, .int .i64 C.ri, .int .i64 C.ru, .int .i64 C.wd, .int .i64 C.dp, .int .i64 G.x, .int .i64 G.z, .int .i64 G.w, .int .i64 G.d, .slice G.ga G.L.length G.gc], .int .i64 0] := by
  unfold grV grC grG
  rw [if_pos h, if_pos h, h]

set_option maxHeartbeats 8000000 in
set_option maxRecDepth 100000 in
theorem lk_groundOf (C : CfgR) (G : Gd) (w : World) (h : G.ok w) : Calls Tryd.prog 43 #[.agg #[.int .i64 C.cl, .int .i64 C.cb, .int .i64 C.ht, .int .i64 C.ri, .int .i64 C.ru, .int .i64 C.wd, .int .i64 C.dp], .agg #[.int .i64 G.x, .int .i64 G.z, .int .i64 G.w, .int .i64 G.d, .slice G.ga G.L.length G.gc]] w fun e w' => e = .returned (grV C G) ∧ New w w' := by
  have KC : Hid (∀ W, Calls Tryd.prog 34 #[.agg #[.int .i64 C.cl, .int .i64 C.cb, .int .i64 C.ht, .int .i64 C.ri, .int .i64 C.ru, .int .i64 C.wd, .int .i64 C.dp]] W fun e w' => e = .returned (.int .i64 C.err) ∧ New W w') := Lib.hid (fun W => (check_any C.cl C.cb C.ht C.ri C.ru C.wd C.dp W).mono fun e w' h => ⟨h.1, h.2.1⟩)
  have KG := Lib.hid (fun W n => og_check G W (h.keep (n : New w W)))
  have h1 := err_or C
  have h2 := gE_two G
  have HB := Lib.hid (fun q => grV_bad (C := C) (G := G) q)
  have HF := Lib.hid (fun q => grV_fine (C := C) (G := G) q)
  have HL : Hid (lkE C G = if C.err = 0 then gE G else 20) := Lib.hid rfl
  obtain ⟨r, hr⟩ : ∃ r, r = grV C G := ⟨_, rfl⟩
  rw [← hr] at HB HF ⊢
  obtain ⟨n, hn⟩ : ∃ n, n = G.L.length := ⟨_, rfl⟩
  rw [← hn] at KG HF ⊢
  clear hr hn h
  generalize lkE C G = le at *
  generalize C.err = ce at *
  generalize gE G = ge at *
  have one : ∀ v : Value, (∃ a : Int, v = .int .i64 a) ∨ (∃ a b c, v = .slice a b c) → v.oneCell' = true := fun v hv => by
    rcases hv with ⟨a, rfl⟩ | ⟨a, b, c, rfl⟩ <;> rfl
  have HO := Lib.hid one
  clear one
  go_enter Tryd.func43, Tryd.ntmps43
  go_wp2_with fail
  refine Calls.at (fun W hW => ?_)
  have n0 : New w W := by subst hW; (repeat (first | (with_reducible exact New.refl _) | (with_reducible assumption) | ((with_reducible refine New.setB ?_ ?_ _); focus (first | omega | (simp; omega) | (simp; done))) | (with_reducible refine New.alloc ?_ _) | (with_reducible refine New.drew ?_) | (with_reducible refine New.drewN ?_ _) | (with_reducible refine New.hat ?_ _) | ((with_reducible apply New.snart); (with_reducible assumption))))
  ((have c0 : W.cell? ⟨w.heap.size, 0, none⟩ = some (.int .i64 C.cl) := (by subst hW; go_simp)); (have c1 : W.cell? ⟨w.heap.size, 1, none⟩ = some (.int .i64 C.cb) := (by subst hW; go_simp)); (have c2 : W.cell? ⟨w.heap.size, 2, none⟩ = some (.int .i64 C.ht) := (by subst hW; go_simp)); (have c3 : W.cell? ⟨w.heap.size, 3, none⟩ = some (.int .i64 C.ri) := (by subst hW; go_simp)); (have c4 : W.cell? ⟨w.heap.size, 4, none⟩ = some (.int .i64 C.ru) := (by subst hW; go_simp)); (have c5 : W.cell? ⟨w.heap.size, 5, none⟩ = some (.int .i64 C.wd) := (by subst hW; go_simp)); (have c6 : W.cell? ⟨w.heap.size, 6, none⟩ = some (.int .i64 C.dp) := (by subst hW; go_simp)))
  have g0 : W.cell? ⟨w.heap.size + 1, 0, none⟩ = some (.int .i64 G.x) := by subst hW; go_simp
  have g1 : W.cell? ⟨w.heap.size + 1, 1, none⟩ = some (.int .i64 G.z) := by subst hW; go_simp
  have g2 : W.cell? ⟨w.heap.size + 1, 2, none⟩ = some (.int .i64 G.w) := by subst hW; go_simp
  have g3 : W.cell? ⟨w.heap.size + 1, 3, none⟩ = some (.int .i64 G.d) := by subst hW; go_simp
  have g4 : W.cell? ⟨w.heap.size + 1, 4, none⟩ = some (.slice G.ga n G.gc) := by subst hW; go_simp
  have HT : Hid (Thr W (w.heap.size + 1 + 1) 12) := Lib.hid (by
    subst hW
    exact Thr.new _ _ _ _ (by simp))
  clear hW
  refine (KC.out _).mono ?_
  rintro e w1 ⟨rfl, n1⟩
  ((replace c0 := New.keep n1 c0); (replace c1 := New.keep n1 c1); (replace c2 := New.keep n1 c2); (replace c3 := New.keep n1 c3); (replace c4 := New.keep n1 c4); (replace c5 := New.keep n1 c5); (replace c6 := New.keep n1 c6))
  replace g0 := n1.keep g0
  replace g1 := n1.keep g1
  replace g2 := n1.keep g2
  replace g3 := n1.keep g3
  replace g4 := n1.keep g4
  replace HT := Lib.hid (HT.out.keep n1)
  have N1 := Lib.hid (n0.trans n1)
  clear n0 n1 KC
  rcases h1 with rfl | rfl
  rotate_left
  · have hle : le = 20 := HL.out
    subst hle
    have HRR := Lib.hid (HB.out (by decide))
    have hth := HT.out
    clear HB HF KG c0 c1 c2 c3 c4 c5 c6 g0 g1 g2 g3 g4
    go_wp2_with (refine wpList_store_blk rfl 77 _ _ rfl _ _ rfl rfl hth (by kernel_rfl) (by intro u hu; simp at hu; rcases hu with rfl | rfl <;> rfl) (fun Z nZ kZ cZ => ?_))
    ((have k0 := cZ 0 (by show 0 < 12; omega)); (have k1 := cZ 1 (by show 1 < 12; omega)); (have k2 := cZ 2 (by show 2 < 12; omega)); (have k3 := cZ 3 (by show 3 < 12; omega)); (have k4 := cZ 4 (by show 4 < 12; omega)); (have k5 := cZ 5 (by show 5 < 12; omega)); (have k6 := cZ 6 (by show 6 < 12; omega)); (have k7 := cZ 7 (by show 7 < 12; omega)); (have k8 := cZ 8 (by show 8 < 12; omega)); (have k9 := cZ 9 (by show 9 < 12; omega)); (have k10 := cZ 10 (by show 10 < 12; omega)); (have k11 := cZ 11 (by show 11 < 12; omega)); simp only [Nat.zero_add] at k0 k1 k2 k3 k4 k5 k6 k7 k8 k9 k10 k11)
    have hn := nZ w N1.out (by show w.heap.size ≤ _; omega)
    clear nZ kZ cZ
    refine bodyPost_ret (v := .tuple #[.agg #[.int .i64 0, .int .i64 0, .int .i64 0, .int .i64 0, .int .i64 0, .int .i64 0, .int .i64 0, .int .i64 0, .int .i64 0, .int .i64 0, .int .i64 0, .slice none 0 0], .int .i64 20]) (by simp [results, Tryd.results43, go_sem, *]) rfl ?_
    exact ⟨by rw [HRR.out], hn⟩
  have hle : le = ge := HL.out
  subst hle
  go_wp2_with fail
  refine (KG.out _ N1.out).mono ?_
  rintro e w2 ⟨rfl, n2⟩
  ((replace c0 := New.keep n2 c0); (replace c1 := New.keep n2 c1); (replace c2 := New.keep n2 c2); (replace c3 := New.keep n2 c3); (replace c4 := New.keep n2 c4); (replace c5 := New.keep n2 c5); (replace c6 := New.keep n2 c6))
  replace g0 := n2.keep g0
  replace g1 := n2.keep g1
  replace g2 := n2.keep g2
  replace g3 := n2.keep g3
  replace g4 := n2.keep g4
  have hth := HT.out.keep n2
  have N2 := Lib.hid (N1.out.trans n2)
  clear n2 KG N1
  rcases h2 with rfl | rfl
  rotate_left
  · have HRR := Lib.hid (HB.out (by decide))
    clear HB HF c0 c1 c2 c3 c4 c5 c6 g0 g1 g2 g3 g4
    go_wp2_with (refine wpList_store_blk rfl 77 _ _ rfl _ _ rfl rfl hth (by kernel_rfl) (by intro u hu; simp at hu; rcases hu with rfl | rfl <;> rfl) (fun Z nZ kZ cZ => ?_))
    ((have k0 := cZ 0 (by show 0 < 12; omega)); (have k1 := cZ 1 (by show 1 < 12; omega)); (have k2 := cZ 2 (by show 2 < 12; omega)); (have k3 := cZ 3 (by show 3 < 12; omega)); (have k4 := cZ 4 (by show 4 < 12; omega)); (have k5 := cZ 5 (by show 5 < 12; omega)); (have k6 := cZ 6 (by show 6 < 12; omega)); (have k7 := cZ 7 (by show 7 < 12; omega)); (have k8 := cZ 8 (by show 8 < 12; omega)); (have k9 := cZ 9 (by show 9 < 12; omega)); (have k10 := cZ 10 (by show 10 < 12; omega)); (have k11 := cZ 11 (by show 11 < 12; omega)); simp only [Nat.zero_add] at k0 k1 k2 k3 k4 k5 k6 k7 k8 k9 k10 k11)
    have hn := nZ w N2.out (by show w.heap.size ≤ _; omega)
    clear nZ kZ cZ
    refine bodyPost_ret (v := .tuple #[.agg #[.int .i64 0, .int .i64 0, .int .i64 0, .int .i64 0, .int .i64 0, .int .i64 0, .int .i64 0, .int .i64 0, .int .i64 0, .int .i64 0, .int .i64 0, .slice none 0 0], .int .i64 2]) (by simp [results, Tryd.results43, go_sem, *]) rfl ?_
    exact ⟨by rw [HRR.out], hn⟩
  · have HRR := Lib.hid (HF.out rfl)
    clear HB HF
    go_wp2_with (refine wpList_store_blk rfl 77 _ _ rfl _ _ rfl rfl hth (by kernel_rfl) (by intro u hu; simp at hu; rcases hu with rfl | rfl | rfl | rfl | rfl | rfl | rfl | rfl | rfl | rfl | rfl | rfl <;> rfl) (fun Z nZ kZ cZ => ?_))
    ((have k0 := cZ 0 (by show 0 < 12; omega)); (have k1 := cZ 1 (by show 1 < 12; omega)); (have k2 := cZ 2 (by show 2 < 12; omega)); (have k3 := cZ 3 (by show 3 < 12; omega)); (have k4 := cZ 4 (by show 4 < 12; omega)); (have k5 := cZ 5 (by show 5 < 12; omega)); (have k6 := cZ 6 (by show 6 < 12; omega)); (have k7 := cZ 7 (by show 7 < 12; omega)); (have k8 := cZ 8 (by show 8 < 12; omega)); (have k9 := cZ 9 (by show 9 < 12; omega)); (have k10 := cZ 10 (by show 10 < 12; omega)); (have k11 := cZ 11 (by show 11 < 12; omega)); simp only [Nat.zero_add] at k0 k1 k2 k3 k4 k5 k6 k7 k8 k9 k10 k11)
    have hn := nZ w N2.out (by show w.heap.size ≤ _; omega)
    clear nZ kZ cZ hth
    refine bodyPost_ret (v := .tuple #[.agg #[.int .i64 C.cl, .int .i64 C.cb, .int .i64 C.ht, .int .i64 C.ri, .int .i64 C.ru, .int .i64 C.wd, .int .i64 C.dp, .int .i64 G.x, .int .i64 G.z, .int .i64 G.w, .int .i64 G.d, .slice G.ga n G.gc], .int .i64 0]) (by simp [results, Tryd.results43, go_sem, *]) rfl ?_
    exact ⟨by rw [HRR.out], hn⟩

end Go.Proofs.YtgoggogcbjfofaaDoor

/- Package links: To, Diagonal. -/
namespace Go.Proofs.YtgoggogcbjfofaaDoor
open Go.RowKit
set_option linter.unusedVariables false

/-- Where a floor of any grid leads. -/
def toT (C : CfgR) (G : Gd) (s : Sd) (d : Int) : Option Sd := toS (grC C G) (grG C G) s d
def diT (C : CfgR) (G : Gd) (s : Sd) (d e : Int) : Option Sd := diaS (grC C G) (grG C G) s d e
theorem toT_fine {C : CfgR} {G : Gd} (h : lkE C G = 0) (s : Sd) (d : Int) : toT C G s d = toS C G s d := by unfold toT grC grG; rw [if_pos h, if_pos h]
theorem toT_bad {C : CfgR} {G : Gd} (h : lkE C G ≠ 0) (s : Sd) (d : Int) : toT C G s d = none := by unfold toT grC grG; rw [if_neg h, if_neg h, toS_zero]
theorem diT_fine {C : CfgR} {G : Gd} (h : lkE C G = 0) (s : Sd) (d e : Int) : diT C G s d e = diaS C G s d e := by unfold diT grC grG; rw [if_pos h, if_pos h]
theorem diT_bad {C : CfgR} {G : Gd} (h : lkE C G ≠ 0) (s : Sd) (d e : Int) : diT C G s d e = none := by unfold diT grC grG; rw [if_neg h, if_neg h, diaS_zero]

end Go.Proofs.YtgoggogcbjfofaaDoor
