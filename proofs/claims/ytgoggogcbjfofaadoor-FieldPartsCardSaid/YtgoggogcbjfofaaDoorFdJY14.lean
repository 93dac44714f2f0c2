import Derived.Test.YtgoggogcbjfofaaDoorFdIY14
import Derived.Test.YtgoggogcbjfofaaDoorFdNY14
import Derived.Test.YtgoggogcbjfofaaDoorLkNY14

/- Package field: Cap, Build. -/
namespace Go.Proofs.YtgoggogcbjfofaaDoor
open Go.RowKit
set_option linter.unusedVariables false

def capC (C : CfgR) : Int := if C.err = 0 then C.cl + 3 else 0
theorem fine_cl {C : CfgR} (h : C.err = 0) : 0 ≤ C.cl ∧ C.cl ≤ 3 := by
  unfold CfgR.err checkE checkB at h
  split at h
  · rename_i h2
    simp only [Bool.and_eq_true, decide_eq_true_eq] at h2
    omega
  · cases h
def capN (C : CfgR) : Nat := (C.cl + 3).toNat
theorem capN_is {C : CfgR} (h : C.err = 0) : ((capN C : Nat) : Int) = C.cl + 3 ∧ 1 ≤ capN C ∧ capN C ≤ 6 ∧ capC C = ((capN C : Nat) : Int) := by
  have := fine_cl h
  unfold capC capN
  rw [if_pos h]
  omega
/-- The clearances of a grid. -/
def fdC (C : CfgR) (G : Gd) (i : Nat) : List Int := (List.range (gcol G i).length).map fun k => ((clr (toS C G) (capN C) (sdI G i k) : Nat) : Int)
def fdL (C : CfgR) (G : Gd) : List (List Int) := (List.range G.L.length).map (fdC C G)
def fdT (C : CfgR) (G : Gd) : List (List Int) := if lkE C G = 0 then fdL C G else []
theorem fdC_len (C : CfgR) (G : Gd) (i : Nat) : (fdC C G i).length = (gcol G i).length := by unfold fdC; simp
theorem fdL_len (C : CfgR) (G : Gd) : (fdL C G).length = G.L.length := by unfold fdL; simp
theorem fdL_is {C : CfgR} {G : Gd} (hC : C.err = 0) (hE : gE G = 0) : clL (fdN hC hE) (capN C) = fdL C G := by
  unfold clL clT fdL
  have e : (fdN hC hE).M.length = G.L.length := lkL_len C G
  rw [e]
  refine List.map_congr_left (fun i hi => ?_)
  have hi' := List.mem_range.1 hi
  unfold fcC fdC
  have e2 : (colM (fdN hC hE).M i).length = (gcol G i).length := colM_lk i
  rw [e2]
  refine List.map_congr_left (fun k hk => ?_)
  have hk' := List.mem_range.1 hk
  have := clr_hom (goS_hom (C := C) hE) (capN C) (s := ⟨i, k⟩) ⟨hi', hk'⟩
  exact congrArg (fun n : Nat => (n : Int)) this.symm
/-- What Build tells. -/
def FBuilt (er : Int) (L : List (List Int)) (w : World) (e : Ending) (w' : World) : Prop := ∃ v, e = .returned (.tuple #[v, .int .i64 er]) ∧ RowsK iE 1 w' v L ∧ New w w'

set_option maxHeartbeats 8000000 in
set_option maxRecDepth 100000 in
theorem fd_Cap (C : CfgR) (w : World) : Calls Tryd.prog 14 #[.agg #[.int .i64 C.cl, .int .i64 C.cb, .int .i64 C.ht, .int .i64 C.ri, .int .i64 C.ru, .int .i64 C.wd, .int .i64 C.dp]] w fun e w' => e = .returned (.int .i64 (capC C)) ∧ New w w' := by
  have KC : Hid (∀ W, Calls Tryd.prog 34 #[.agg #[.int .i64 C.cl, .int .i64 C.cb, .int .i64 C.ht, .int .i64 C.ri, .int .i64 C.ru, .int .i64 C.wd, .int .i64 C.dp]] W fun e w' => e = .returned (.int .i64 C.err) ∧ New W w') := Lib.hid (fun W => (check_any C.cl C.cb C.ht C.ri C.ru C.wd C.dp W).mono fun e w' h => ⟨h.1, h.2.1⟩)
  have h1 := err_or C
  have hf := Lib.hid (fun h => fine_cl (C := C) h)
  unfold capC
  generalize C.err = ce at *
  go_enter Tryd.func14, Tryd.ntmps14
  go_wp2_with fail
  refine Calls.at (fun W hW => ?_)
  have n0 : New w W := by subst hW; (repeat (first | (with_reducible exact New.refl _) | (with_reducible assumption) | ((with_reducible refine New.setB ?_ ?_ _); focus (first | omega | (simp; omega) | (simp; done))) | (with_reducible refine New.alloc ?_ _) | (with_reducible refine New.drew ?_) | (with_reducible refine New.drewN ?_ _) | (with_reducible refine New.hat ?_ _) | ((with_reducible apply New.snart); (with_reducible assumption))))
  have c0 : W.cell? ⟨w.heap.size, 0, none⟩ = some (.int .i64 C.cl) := by subst hW; go_simp
  clear hW
  refine (KC.out _).mono ?_
  rintro e w1 ⟨rfl, n1⟩
  replace c0 := n1.keep c0
  have N1 := Lib.hid (n0.trans n1)
  clear n0 n1 KC
  rcases h1 with rfl | rfl
  · have := hf.out rfl
    have hw : IntKind.i64.wrap (C.cl + 3) = C.cl + 3 := IntWalk.i64_in _ (by omega)
    clear this hf
    go_wp2_with fail
    go_ret
    exact ⟨rfl, N1.out⟩
  · clear hf
    go_wp2_with fail
    go_ret
    exact ⟨rfl, N1.out⟩

set_option maxHeartbeats 8000000 in
set_option maxRecDepth 100000 in
theorem fd_Build (C : CfgR) (G : Gd) (w : World) (h : G.ok w) (hD : Dirs w) : Calls Tryd.prog 11 #[.agg #[.int .i64 C.cl, .int .i64 C.cb, .int .i64 C.ht, .int .i64 C.ri, .int .i64 C.ru, .int .i64 C.wd, .int .i64 C.dp], .agg #[.int .i64 G.x, .int .i64 G.z, .int .i64 G.w, .int .i64 G.d, .slice G.ga G.L.length G.gc]] w (FBuilt (lkE C G) (fdT C G) w) := by
  have KB := Lib.hid (fun W (q : New w W) => lk_Build C G W (h.keep q) (hD.new q))
  have KP := Lib.hid (fun W => fd_Cap C W)
  have HD := Lib.hid hD
  unfold LBuilt at KB
  have HT : Hid (fdT C G = if lkE C G = 0 then fdL C G else []) := Lib.hid rfl
  by_cases hle : lkE C G = 0
  · obtain ⟨hC, hE⟩ := lkE_is.1 hle
    obtain ⟨p1, p2, p3, p4⟩ := capN_is hC
    have hT : fdT C G = fdL C G := by rw [HT.out, if_pos hle]
    have hlk : lkT C G = lkL C G := by unfold lkT; rw [if_pos hle]
    rw [hT]
    rw [hlk, hle] at KB
    rw [hle]
    rw [p4] at KP
    have hb := placeB_iff.1 (gd_is hE).1
    have hw : G.w = ((G.w.toNat : Nat) : Int) := by omega
    have KK : Hid (∀ W a c, New w W → RowsK Lk.enc 4 W (.slice a (lkL C G).length c) (lkL C G) → Calls Tryd.prog 33 #[.agg #[.int .i64 G.w, .slice a (lkL C G).length c], .int .i64 ((capN C : Nat) : Int)] W fun e w' => ∃ v, e = .returned v ∧ RowsK iE 1 w' v (fdL C G) ∧ New W w') := Lib.hid (fun W a c q hr => by
      have := fd_clearances (fdN hC hE) a c (capN C) p2 p3 W hr (HD.out.new q)
      rw [fdL_is hC hE] at this
      have e : (((fdN hC hE).W : Nat) : Int) = G.w := hw.symm
      rw [e] at this
      exact this)
    clear HT hT hlk hle p2 p3 p4 hb hw HD hD h
    generalize lkL C G = L at *
    generalize fdL C G = R at *
    generalize capN C = m at *
    clear hC hE p1
    obtain ⟨gn, hgn⟩ : ∃ n, n = G.L.length := ⟨_, rfl⟩
    rw [← hgn] at KB ⊢
    clear hgn
    obtain ⟨ln, hln⟩ : ∃ n, n = L.length := ⟨_, rfl⟩
    rw [← hln] at KK
    have HLN := Lib.hid hln
    clear hln
    obtain ⟨Q, hQ⟩ : ∃ Q, Q = FBuilt 0 R w := ⟨_, rfl⟩
    rw [← hQ]
    have HQ := Lib.hid hQ
    clear hQ
    go_enter Tryd.func11, Tryd.ntmps11
    go_wp2_with fail
    refine Calls.at (fun W hW => ?_)
    have n0 : New w W := by subst hW; (repeat (first | (with_reducible exact New.refl _) | (with_reducible assumption) | ((with_reducible refine New.setB ?_ ?_ _); focus (first | omega | (simp; omega) | (simp; done))) | (with_reducible refine New.alloc ?_ _) | (with_reducible refine New.drew ?_) | (with_reducible refine New.drewN ?_ _) | (with_reducible refine New.hat ?_ _) | ((with_reducible apply New.snart); (with_reducible assumption))))
    ((have c0 : W.cell? ⟨w.heap.size, 0, none⟩ = some (.int .i64 C.cl) := (by subst hW; go_simp)); (have c1 : W.cell? ⟨w.heap.size, 1, none⟩ = some (.int .i64 C.cb) := (by subst hW; go_simp)); (have c2 : W.cell? ⟨w.heap.size, 2, none⟩ = some (.int .i64 C.ht) := (by subst hW; go_simp)); (have c3 : W.cell? ⟨w.heap.size, 3, none⟩ = some (.int .i64 C.ri) := (by subst hW; go_simp)); (have c4 : W.cell? ⟨w.heap.size, 4, none⟩ = some (.int .i64 C.ru) := (by subst hW; go_simp)); (have c5 : W.cell? ⟨w.heap.size, 5, none⟩ = some (.int .i64 C.wd) := (by subst hW; go_simp)); (have c6 : W.cell? ⟨w.heap.size, 6, none⟩ = some (.int .i64 C.dp) := (by subst hW; go_simp)))
    have g2 : W.cell? ⟨w.heap.size + 1, 2, none⟩ = some (.int .i64 G.w) := by subst hW; go_simp
    clear hW
    have HC := Lib.hid (fun W2 (q : New W W2) => And.intro (q.keep c0) (And.intro (q.keep c1) (And.intro (q.keep c2) (And.intro (q.keep c3) (And.intro (q.keep c4) (And.intro (q.keep c5) (q.keep c6)))))))
    clear c0 c1 c2 c3 c4 c5 c6
    refine (KB.out _ n0).mono ?_
    rintro e w1 ⟨v, rfl, hr, n1⟩
    obtain ⟨la, lc, rfl⟩ := hr.shape
    rw [← HLN.out] at hr ⊢
    have HR := Lib.hid hr
    have N1 := Lib.hid n1
    have N0 := Lib.hid n0
    replace g2 := n1.keep g2
    clear hr n1 n0 KB
    go_upto_region 5 with fail
    refine Code.at (fun W2 hW => ?_)
    have n2 : New w1 W2 := by subst hW; (repeat (first | (with_reducible exact New.refl _) | (with_reducible assumption) | ((with_reducible refine New.setB ?_ ?_ _); focus (first | omega | (simp; omega) | (simp; done))) | (with_reducible refine New.alloc ?_ _) | (with_reducible refine New.drew ?_) | (with_reducible refine New.drewN ?_ _) | (with_reducible refine New.hat ?_ _) | ((with_reducible apply New.snart); (with_reducible assumption))))
    have o0 : W2.cell? ⟨w1.heap.size, 0, none⟩ = some (.int .i64 G.w) := by subst hW; go_simp
    have o1 : W2.cell? ⟨w1.heap.size, 1, none⟩ = some (.slice la ln lc) := by subst hW; go_simp
    clear hW g2
    have HR2 := Lib.hid (HR.out.keep n2)
    have N2 := Lib.hid (N1.out.trans n2)
    have NW := Lib.hid (N0.out.trans (N1.out.trans n2))
    clear n2 N1 HR
    have hz1 := World.block_lt_of_cell? _ _ o0
    simp only [] at hz1
    refine wp_region_loose 4 (fun i' w' v => match i' with
      | 0 => v = .agg #[.int .i64 G.w, .slice la ln lc]
      | 1 => v = .agg #[.int .i64 C.cl, .int .i64 C.cb, .int .i64 C.ht, .int .i64 C.ri, .int .i64 C.ru, .int .i64 C.wd, .int .i64 C.dp]
      | 2 => v = .int .i64 (m : Nat)
      | 3 => RowsK iE 1 w' v R
      | _ => True) (by kernel_rfl) (by kernel_rfl) ?_ ?_ ?_
    · intro i' w1 w2 v h nq
      match i', h with
      | 0, h => exact h
      | 1, h => exact h
      | 2, h => exact h
      | 3, h => exact RowsK.keep h nq
      | i' + 4, _ => trivial
    · intro i' o hi2 ho a' w' nn hr hd
      rcases (show i' = 0 ∨ i' = 1 ∨ i' = 2 ∨ i' = 3 by omega) with rfl | rfl | rfl | rfl <;> obtain rfl := Option.some.inj ho
      · have r8 : (a'.tmps[8]?).getD undef = .pointer (some ⟨w1.heap.size, 0, none⟩) := (eval_get a' 8).symm.trans (hr 8 (by kernel_rfl))
        replace o0 := nn.keep o0
        replace o1 := nn.keep o1
        exact yields_value (.agg #[.int .i64 G.w, .slice la ln lc]) (by go_simp) ⟨New.refl _, rfl⟩
      · have r2 : (a'.tmps[2]?).getD undef = .pointer (some ⟨w.heap.size, 0, none⟩) := (eval_get a' 2).symm.trans (hr 2 (by kernel_rfl))
        obtain ⟨c0, c1, c2, c3, c4, c5, c6⟩ := HC.out _ (N2.out.trans nn)
        exact yields_value (.agg #[.int .i64 C.cl, .int .i64 C.cb, .int .i64 C.ht, .int .i64 C.ri, .int .i64 C.ru, .int .i64 C.wd, .int .i64 C.dp]) (by go_simp) ⟨New.refl _, rfl⟩
      · have e1 : a'.eval (.tmp 23) = .agg #[.int .i64 C.cl, .int .i64 C.cb, .int .i64 C.ht, .int .i64 C.ri, .int .i64 C.ru, .int .i64 C.wd, .int .i64 C.dp] := hd 1 23 (by omega) (by kernel_rfl) (by kernel_rfl)
        have r1 : (a'.tmps[23]?).getD undef = _ := (eval_get a' 23).symm.trans e1
        exact yields_enter 14 #[.agg #[.int .i64 C.cl, .int .i64 C.cb, .int .i64 C.ht, .int .i64 C.ri, .int .i64 C.ru, .int .i64 C.wd, .int .i64 C.dp]] (by go_simp) ((KP.out w').mono fun e w'' ⟨he, hn⟩ => ⟨_, he, hn, rfl⟩)
      · have e0 : a'.eval (.tmp 22) = .agg #[.int .i64 G.w, .slice la ln lc] := hd 0 22 (by omega) (by kernel_rfl) (by kernel_rfl)
        have e2 : a'.eval (.tmp 24) = .int .i64 (m : Nat) := hd 2 24 (by omega) (by kernel_rfl) (by kernel_rfl)
        have r0 : (a'.tmps[22]?).getD undef = _ := (eval_get a' 22).symm.trans e0
        have r2 : (a'.tmps[24]?).getD undef = _ := (eval_get a' 24).symm.trans e2
        exact yields_enter 33 #[.agg #[.int .i64 G.w, .slice la ln lc], .int .i64 (m : Nat)] (by go_simp) ((KK.out w' la lc (NW.out.trans nn) (HR2.out.keep nn)).mono fun e w'' ⟨v, he, hr, hn⟩ => ⟨v, he, hn, hr⟩)
    · intro vs w' nn hv
      have e0 : vs 0 = .agg #[.int .i64 G.w, .slice la ln lc] := hv 0 (by omega)
      have e1 : vs 1 = .agg #[.int .i64 C.cl, .int .i64 C.cb, .int .i64 C.ht, .int .i64 C.ri, .int .i64 C.ru, .int .i64 C.wd, .int .i64 C.dp] := hv 1 (by omega)
      have e2 : vs 2 = .int .i64 (m : Nat) := hv 2 (by omega)
      have e3 : RowsK iE 1 w' (vs 3) R := hv 3 (by omega)
      simp only [List.take_succ_cons, List.take_zero, List.drop_succ_cons, List.drop_zero, putL, Act.put, List.setIfInBounds_toArray, List.set_cons_zero, List.set_cons_succ, Nat.reduceAdd, Nat.zero_add]
      rw [e0, e1, e2]
      generalize vs 3 = v3 at *
      have HE := Lib.hid (And.intro e3 (NW.out.trans nn))
      clear hv e0 e1 e2 e3 nn o0 o1
      go_wp2_with fail
      rw [HQ.out]
      exact ⟨v3, rfl, HE.out.1, HE.out.2⟩
  · have hT : fdT C G = [] := by rw [HT.out, if_neg hle]
    rw [hT]
    generalize lkE C G = le at *
    generalize lkT C G = L at *
    have hne : (le != 0) = true := by rw [bne_iff_ne]; exact hle
    clear HT hT hle KP HD hD h
    obtain ⟨gn, hgn⟩ : ∃ n, n = G.L.length := ⟨_, rfl⟩
    rw [← hgn] at KB ⊢
    clear hgn
    obtain ⟨Q, hQ⟩ : ∃ Q, Q = FBuilt le [] w := ⟨_, rfl⟩
    rw [← hQ]
    have HQ := Lib.hid hQ
    clear hQ
    go_enter Tryd.func11, Tryd.ntmps11
    go_wp2_with fail
    refine Calls.at (fun W hW => ?_)
    have n0 : New w W := by subst hW; (repeat (first | (with_reducible exact New.refl _) | (with_reducible assumption) | ((with_reducible refine New.setB ?_ ?_ _); focus (first | omega | (simp; omega) | (simp; done))) | (with_reducible refine New.alloc ?_ _) | (with_reducible refine New.drew ?_) | (with_reducible refine New.drewN ?_ _) | (with_reducible refine New.hat ?_ _) | ((with_reducible apply New.snart); (with_reducible assumption))))
    clear hW
    refine (KB.out _ n0).mono ?_
    rintro e w1 ⟨v, rfl, -, n1⟩
    have N1 := Lib.hid (n0.trans n1)
    clear n0 n1 KB
    go_wp2_with fail
    rw [HQ.out]
    exact ⟨_, rfl, RowsK.nil, N1.out⟩

end Go.Proofs.YtgoggogcbjfofaaDoor
