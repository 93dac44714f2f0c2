import Derived.Test.YtgoggogcbjfofaaDoorLkCY14
import Derived.Test.YtgoggogcbjfofaaDoorOgIY14
import Derived.Test.YtgoggogcbjfofaaDoorWholeIY14

/- Package links: linked, Linked. -/
namespace Go.Proofs.YtgoggogcbjfofaaDoor
open Go.RowKit
set_option linter.unusedVariables false

theorem lkB_far {C : CfgR} {a b : Fl} (h : ¬ (farB a.y = true ∧ farB a.top = true ∧ farB b.y = true ∧ farB b.top = true)) : lkB C a b = false := by
  cases q : lkB C a b
  · rfl
  · exfalso
    unfold lkB at q
    simp only [Bool.and_eq_true] at q
    exact h ⟨q.1.1, q.1.2.1, q.1.2.2.1, q.1.2.2.2⟩
theorem lkB_near {C : CfgR} {a b : Fl} (h1 : farB a.y = true) (h2 : farB a.top = true) (h3 : farB b.y = true) (h4 : farB b.top = true) : lkB C a b = (decide (0 < a.area) && (decide (0 < b.area) && (decide (max a.y b.y - min a.y b.y ≤ C.cb) && decide (C.ht ≤ min a.top b.top - max a.y b.y)))) := by
  unfold lkB
  rw [h1, h2, h3, h4]
  rfl

set_option maxHeartbeats 8000000 in
set_option maxRecDepth 100000 in
theorem lk_linked (C : CfgR) (a b : Fl) (w : World) : Calls Tryd.prog 42 #[.agg #[.int .i64 C.cl, .int .i64 C.cb, .int .i64 C.ht, .int .i64 C.ri, .int .i64 C.ru, .int .i64 C.wd, .int .i64 C.dp], .agg #[.int .i64 a.y, .int .i64 a.top, .int .i64 a.area], .agg #[.int .i64 b.y, .int .i64 b.top, .int .i64 b.area]] w fun e w' => e = .returned (.bool (lkB C a b)) ∧ New w w' := by
  have KW := Lib.hid (fun n (W : World) => lk_within n (-1099511627776) 1099511627776 W)
  have K1 := fun W => KW.out a.y W
  have K2 := fun W => KW.out a.top W
  have K3 := fun W => KW.out b.y W
  have K4 := fun W => KW.out b.top W
  have HF := Lib.hid (lkB_far (C := C) (a := a) (b := b))
  have HN := Lib.hid (lkB_near (C := C) (a := a) (b := b))
  obtain ⟨r, hr⟩ : ∃ r, r = lkB C a b := ⟨_, rfl⟩
  rw [← hr] at HF HN ⊢
  have HR : Hid (r = lkB C a b) := Lib.hid hr
  clear hr KW
  have i0 : ∀ w, (Instr.index 71 (.agg #[.int .i64 a.y, .int .i64 a.top, .int .i64 b.y, .int .i64 b.top]) (.int .i64 0)).run Tryd.prog w = .ok (.int .i64 a.y) w := fun _ => by kernel_rfl
  have i1 : ∀ w, (Instr.index 71 (.agg #[.int .i64 a.y, .int .i64 a.top, .int .i64 b.y, .int .i64 b.top]) (.int .i64 1)).run Tryd.prog w = .ok (.int .i64 a.top) w := fun _ => by kernel_rfl
  have i2 : ∀ w, (Instr.index 71 (.agg #[.int .i64 a.y, .int .i64 a.top, .int .i64 b.y, .int .i64 b.top]) (.int .i64 2)).run Tryd.prog w = .ok (.int .i64 b.y) w := fun _ => by kernel_rfl
  have i3 : ∀ w, (Instr.index 71 (.agg #[.int .i64 a.y, .int .i64 a.top, .int .i64 b.y, .int .i64 b.top]) (.int .i64 3)).run Tryd.prog w = .ok (.int .i64 b.top) w := fun _ => by kernel_rfl
  cases h1 : farB a.y
  · have HE : Hid (r = false) := Lib.hid (HF.out (fun q => by rw [h1] at q; simp at q))
    unfold farB at h1
    rw [h1] at K1
    clear h1
    go_enter Tryd.func42, Tryd.ntmps42
    go_wp2_with fail
    refine wp_loop_rounds 5 ?_
    rw [rounds_succ]
    go_wp2_with fail
    refine (K1 _).mono ?_
    rintro e w2 ⟨rfl, rfl⟩
    go_wp2_with fail
    go_ret
    exact ⟨by rw [HE.out]; rfl, by (repeat (first | (with_reducible exact New.refl _) | (with_reducible assumption) | ((with_reducible refine New.setB ?_ ?_ _); focus (first | omega | (simp; omega) | (simp; done))) | (with_reducible refine New.alloc ?_ _) | (with_reducible refine New.drew ?_) | (with_reducible refine New.drewN ?_ _) | (with_reducible refine New.hat ?_ _) | ((with_reducible apply New.snart); (with_reducible assumption))))⟩
  cases h2 : farB a.top
  · have HE : Hid (r = false) := Lib.hid (HF.out (fun q => by rw [h2] at q; simp at q))
    unfold farB at h1
    rw [h1] at K1
    clear h1
    unfold farB at h2
    rw [h2] at K2
    clear h2
    go_enter Tryd.func42, Tryd.ntmps42
    go_wp2_with fail
    refine wp_loop_rounds 5 ?_
    rw [rounds_succ]
    go_wp2_with fail
    refine (K1 _).mono ?_
    rintro e w2 ⟨rfl, rfl⟩
    go_wp2_with fail
    rw [rounds_succ]
    go_wp2_with fail
    refine (K2 _).mono ?_
    rintro e w3 ⟨rfl, rfl⟩
    go_wp2_with fail
    go_ret
    exact ⟨by rw [HE.out]; rfl, by (repeat (first | (with_reducible exact New.refl _) | (with_reducible assumption) | ((with_reducible refine New.setB ?_ ?_ _); focus (first | omega | (simp; omega) | (simp; done))) | (with_reducible refine New.alloc ?_ _) | (with_reducible refine New.drew ?_) | (with_reducible refine New.drewN ?_ _) | (with_reducible refine New.hat ?_ _) | ((with_reducible apply New.snart); (with_reducible assumption))))⟩
  cases h3 : farB b.y
  · have HE : Hid (r = false) := Lib.hid (HF.out (fun q => by rw [h3] at q; simp at q))
    unfold farB at h1
    rw [h1] at K1
    clear h1
    unfold farB at h2
    rw [h2] at K2
    clear h2
    unfold farB at h3
    rw [h3] at K3
    clear h3
    go_enter Tryd.func42, Tryd.ntmps42
    go_wp2_with fail
    refine wp_loop_rounds 5 ?_
    rw [rounds_succ]
    go_wp2_with fail
    refine (K1 _).mono ?_
    rintro e w2 ⟨rfl, rfl⟩
    go_wp2_with fail
    rw [rounds_succ]
    go_wp2_with fail
    refine (K2 _).mono ?_
    rintro e w3 ⟨rfl, rfl⟩
    go_wp2_with fail
    rw [rounds_succ]
    go_wp2_with fail
    refine (K3 _).mono ?_
    rintro e w4 ⟨rfl, rfl⟩
    go_wp2_with fail
    go_ret
    exact ⟨by rw [HE.out]; rfl, by (repeat (first | (with_reducible exact New.refl _) | (with_reducible assumption) | ((with_reducible refine New.setB ?_ ?_ _); focus (first | omega | (simp; omega) | (simp; done))) | (with_reducible refine New.alloc ?_ _) | (with_reducible refine New.drew ?_) | (with_reducible refine New.drewN ?_ _) | (with_reducible refine New.hat ?_ _) | ((with_reducible apply New.snart); (with_reducible assumption))))⟩
  cases h4 : farB b.top
  · have HE : Hid (r = false) := Lib.hid (HF.out (fun q => by rw [h4] at q; simp at q))
    unfold farB at h1
    rw [h1] at K1
    clear h1
    unfold farB at h2
    rw [h2] at K2
    clear h2
    unfold farB at h3
    rw [h3] at K3
    clear h3
    unfold farB at h4
    rw [h4] at K4
    clear h4
    go_enter Tryd.func42, Tryd.ntmps42
    go_wp2_with fail
    refine wp_loop_rounds 5 ?_
    rw [rounds_succ]
    go_wp2_with fail
    refine (K1 _).mono ?_
    rintro e w2 ⟨rfl, rfl⟩
    go_wp2_with fail
    rw [rounds_succ]
    go_wp2_with fail
    refine (K2 _).mono ?_
    rintro e w3 ⟨rfl, rfl⟩
    go_wp2_with fail
    rw [rounds_succ]
    go_wp2_with fail
    refine (K3 _).mono ?_
    rintro e w4 ⟨rfl, rfl⟩
    go_wp2_with fail
    rw [rounds_succ]
    go_wp2_with fail
    refine (K4 _).mono ?_
    rintro e w5 ⟨rfl, rfl⟩
    go_wp2_with fail
    go_ret
    exact ⟨by rw [HE.out]; rfl, by (repeat (first | (with_reducible exact New.refl _) | (with_reducible assumption) | ((with_reducible refine New.setB ?_ ?_ _); focus (first | omega | (simp; omega) | (simp; done))) | (with_reducible refine New.alloc ?_ _) | (with_reducible refine New.drew ?_) | (with_reducible refine New.drewN ?_ _) | (with_reducible refine New.hat ?_ _) | ((with_reducible apply New.snart); (with_reducible assumption))))⟩
  have hN := HN.out h1 h2 h3 h4
  have f1 := wiB_iff.1 (show wiB a.y _ _ = true from h1)
  have f2 := wiB_iff.1 (show wiB a.top _ _ = true from h2)
  have f3 := wiB_iff.1 (show wiB b.y _ _ = true from h3)
  have f4 := wiB_iff.1 (show wiB b.top _ _ = true from h4)
  unfold farB at h1
  rw [h1] at K1
  clear h1
  unfold farB at h2
  rw [h2] at K2
  clear h2
  unfold farB at h3
  rw [h3] at K3
  clear h3
  unfold farB at h4
  rw [h4] at K4
  clear h4
  have hs1 : IntKind.i64.wrap (max a.y b.y - min a.y b.y) = max a.y b.y - min a.y b.y := IntWalk.i64_in _ (by omega)
  have hs2 : IntKind.i64.wrap (min a.top b.top - max a.y b.y) = min a.top b.top - max a.y b.y := IntWalk.i64_in _ (by omega)
  clear f1 f2 f3 f4
  have HN2 := Lib.hid hN
  clear hN HN HF HR
  go_enter Tryd.func42, Tryd.ntmps42
  go_wp2_with fail
  refine wp_loop_rounds 5 ?_
  rw [rounds_succ]
  go_wp2_with fail
  refine (K1 _).mono ?_
  rintro e w2 ⟨rfl, rfl⟩
  go_wp2_with fail
  rw [rounds_succ]
  go_wp2_with fail
  refine (K2 _).mono ?_
  rintro e w3 ⟨rfl, rfl⟩
  go_wp2_with fail
  rw [rounds_succ]
  go_wp2_with fail
  refine (K3 _).mono ?_
  rintro e w4 ⟨rfl, rfl⟩
  go_wp2_with fail
  rw [rounds_succ]
  go_wp2_with fail
  refine (K4 _).mono ?_
  rintro e w5 ⟨rfl, rfl⟩
  go_wp2_with fail
  rw [rounds_succ]
  go_wp2_with fail
  refine Code.at (fun W hW => ?_)
  have n0 : New w W := by subst hW; (repeat (first | (with_reducible exact New.refl _) | (with_reducible assumption) | ((with_reducible refine New.setB ?_ ?_ _); focus (first | omega | (simp; omega) | (simp; done))) | (with_reducible refine New.alloc ?_ _) | (with_reducible refine New.drew ?_) | (with_reducible refine New.drewN ?_ _) | (with_reducible refine New.hat ?_ _) | ((with_reducible apply New.snart); (with_reducible assumption))))
  have c1 : W.cell? ⟨w.heap.size, 1, none⟩ = some (.int .i64 C.cb) := by subst hW; go_simp
  have c2 : W.cell? ⟨w.heap.size, 2, none⟩ = some (.int .i64 C.ht) := by subst hW; go_simp
  have a0 : W.cell? ⟨w.heap.size + 1, 0, none⟩ = some (.int .i64 a.y) := by subst hW; go_simp
  have a1 : W.cell? ⟨w.heap.size + 1, 1, none⟩ = some (.int .i64 a.top) := by subst hW; go_simp
  have a2 : W.cell? ⟨w.heap.size + 1, 2, none⟩ = some (.int .i64 a.area) := by subst hW; go_simp
  have b0 : W.cell? ⟨w.heap.size + 1 + 1, 0, none⟩ = some (.int .i64 b.y) := by subst hW; go_simp
  have b1 : W.cell? ⟨w.heap.size + 1 + 1, 1, none⟩ = some (.int .i64 b.top) := by subst hW; go_simp
  have b2 : W.cell? ⟨w.heap.size + 1 + 1, 2, none⟩ = some (.int .i64 b.area) := by subst hW; go_simp
  clear hW i0 i1 i2 i3 K1 K2 K3 K4
  (refine wp_region_hat (by kernel_rfl) (by kernel_rfl) ?_; intro hatc hatf; (repeat (go_big_quiet_step ((fail)))); refine wpQuiet_nil ?_; rintro _ ⟨q, rfl⟩)
  go_wp2_with fail
  all_goals
    go_ret
    refine ⟨?_, n0.trans q.h⟩
    rw [HN2.out]
    first | (simp [*]; done) | (simp [*]; omega)


set_option maxHeartbeats 4000000 in
theorem lk_Linked (C : CfgR) (a b : Fl) (w : World) : Calls Tryd.prog 27 #[.agg #[.int .i64 C.cl, .int .i64 C.cb, .int .i64 C.ht, .int .i64 C.ri, .int .i64 C.ru, .int .i64 C.wd, .int .i64 C.dp], .agg #[.int .i64 a.y, .int .i64 a.top, .int .i64 a.area], .agg #[.int .i64 b.y, .int .i64 b.top, .int .i64 b.area]] w fun e w' => e = .returned (.bool (lkF C a b)) ∧ New w w' := by
  have KC : Hid (∀ W, Calls Tryd.prog 34 #[.agg #[.int .i64 C.cl, .int .i64 C.cb, .int .i64 C.ht, .int .i64 C.ri, .int .i64 C.ru, .int .i64 C.wd, .int .i64 C.dp]] W fun e w' => e = .returned (.int .i64 C.err) ∧ New W w') := Lib.hid (fun W => (check_any C.cl C.cb C.ht C.ri C.ru C.wd C.dp W).mono fun e w' h => ⟨h.1, h.2.1⟩)
  have KL := Lib.hid (fun W => lk_linked C a b W)
  have h1 := err_or C
  have HF := Lib.hid (fun h => lkF_fine (C := C) h a b)
  have HB := Lib.hid (fun h => lkF_bad (C := C) h a b)
  generalize C.err = ce at *
  rcases h1 with rfl | rfl
  · rw [HF.out rfl]
    clear HF HB
    go_enter Tryd.func27, Tryd.ntmps27
    go_wp2_with fail
    refine Calls.at (fun W hW => ?_)
    have n0 : New w W := by subst hW; (repeat (first | (with_reducible exact New.refl _) | (with_reducible assumption) | ((with_reducible refine New.setB ?_ ?_ _); focus (first | omega | (simp; omega) | (simp; done))) | (with_reducible refine New.alloc ?_ _) | (with_reducible refine New.drew ?_) | (with_reducible refine New.drewN ?_ _) | (with_reducible refine New.hat ?_ _) | ((with_reducible apply New.snart); (with_reducible assumption))))
    ((have c0 : W.cell? ⟨w.heap.size, 0, none⟩ = some (.int .i64 C.cl) := (by subst hW; go_simp)); (have c1 : W.cell? ⟨w.heap.size, 1, none⟩ = some (.int .i64 C.cb) := (by subst hW; go_simp)); (have c2 : W.cell? ⟨w.heap.size, 2, none⟩ = some (.int .i64 C.ht) := (by subst hW; go_simp)); (have c3 : W.cell? ⟨w.heap.size, 3, none⟩ = some (.int .i64 C.ri) := (by subst hW; go_simp)); (have c4 : W.cell? ⟨w.heap.size, 4, none⟩ = some (.int .i64 C.ru) := (by subst hW; go_simp)); (have c5 : W.cell? ⟨w.heap.size, 5, none⟩ = some (.int .i64 C.wd) := (by subst hW; go_simp)); (have c6 : W.cell? ⟨w.heap.size, 6, none⟩ = some (.int .i64 C.dp) := (by subst hW; go_simp)))
    have a0 : W.cell? ⟨w.heap.size + 1, 0, none⟩ = some (.int .i64 a.y) := by subst hW; go_simp
    have a1 : W.cell? ⟨w.heap.size + 1, 1, none⟩ = some (.int .i64 a.top) := by subst hW; go_simp
    have a2 : W.cell? ⟨w.heap.size + 1, 2, none⟩ = some (.int .i64 a.area) := by subst hW; go_simp
    have b0 : W.cell? ⟨w.heap.size + 1 + 1, 0, none⟩ = some (.int .i64 b.y) := by subst hW; go_simp
    have b1 : W.cell? ⟨w.heap.size + 1 + 1, 1, none⟩ = some (.int .i64 b.top) := by subst hW; go_simp
    have b2 : W.cell? ⟨w.heap.size + 1 + 1, 2, none⟩ = some (.int .i64 b.area) := by subst hW; go_simp
    clear hW
    refine (KC.out _).mono ?_
    rintro e w1 ⟨rfl, n1⟩
    ((replace c0 := New.keep n1 c0); (replace c1 := New.keep n1 c1); (replace c2 := New.keep n1 c2); (replace c3 := New.keep n1 c3); (replace c4 := New.keep n1 c4); (replace c5 := New.keep n1 c5); (replace c6 := New.keep n1 c6))
    replace a0 := n1.keep a0
    replace a1 := n1.keep a1
    replace a2 := n1.keep a2
    replace b0 := n1.keep b0
    replace b1 := n1.keep b1
    replace b2 := n1.keep b2
    go_wp2_with fail
    refine (KL.out _).mono ?_
    rintro e w2 ⟨rfl, n2⟩
    go_wp2_with fail
    go_ret
    exact ⟨rfl, n0.trans (n1.trans n2)⟩
  · rw [HB.out (by decide)]
    clear HF HB
    go_enter Tryd.func27, Tryd.ntmps27
    go_wp2_with fail
    refine Calls.at (fun W hW => ?_)
    have n0 : New w W := by subst hW; (repeat (first | (with_reducible exact New.refl _) | (with_reducible assumption) | ((with_reducible refine New.setB ?_ ?_ _); focus (first | omega | (simp; omega) | (simp; done))) | (with_reducible refine New.alloc ?_ _) | (with_reducible refine New.drew ?_) | (with_reducible refine New.drewN ?_ _) | (with_reducible refine New.hat ?_ _) | ((with_reducible apply New.snart); (with_reducible assumption))))
    clear hW
    refine (KC.out _).mono ?_
    rintro e w1 ⟨rfl, n1⟩
    go_wp2_with fail
    go_ret
    exact ⟨rfl, n0.trans n1⟩

end Go.Proofs.YtgoggogcbjfofaaDoor
