import Derived.Test.YtdbhlepbaepngaaGreatDoorSoFTZ15
import Derived.Test.YtdbhlepbaepngaaGreatDoorSoFBZ15
import Derived.Test.YtdbhlepbaepngaaGreatDoorSoFHZ15
import Derived.Test.YtdbhlepbaepngaaGreatDoorBinsIZ15
import Derived.Maps.AppendAt
import Derived.OwnWalk

/- Package soup: Check. -/
namespace Go.Proofs.YtdbhlepbaepngaaGreatDoor
open Go.RowKit
set_option linter.unusedVariables false

theorem run_store_fn {P : Program} {a : Addr} {f : _root_.Go.Fn} {x y : Array Value} {m : Mode} {w : World} : (store a (.func f x y) m).run P w = stored P w a (.func f x y) m := run_store P w a _ m rfl
attribute [local go_sem] run_store_fn

set_option maxHeartbeats 400000 in
theorem t_kind (w : World) : Calls Tryz.prog 49 #[] w fun e w' => e = .returned (.agg #[.func (.func 63) #[] #[], .func (.func 64) #[] #[], .int .i64 200, .int .i64 40, .func (.func 65) #[] #[]]) ∧ New w w' := by
  go_enter Tryz.func49, Tryz.ntmps49
  go_wp2_with fail
  refine bodyPost_ret (v := .agg #[.func (.func 63) #[] #[], .func (.func 64) #[] #[], .int .i64 200, .int .i64 40, .func (.func 65) #[] #[]]) (by simp [results, Tryz.results49, go_sem]) rfl ⟨rfl, by (repeat (first | (with_reducible exact New.refl _) | (with_reducible assumption) | ((with_reducible refine New.setB ?_ ?_ _); focus (first | omega | (simp; omega) | (simp; done))) | (with_reducible refine New.alloc ?_ _) | (with_reducible refine New.drew ?_) | (with_reducible refine New.drewN ?_ _) | (with_reducible refine New.hat ?_ _) | ((with_reducible apply New.snart); (with_reducible assumption))))⟩

set_option maxHeartbeats 1000000 in
theorem t_checked (C : CfgR) (hC : C.fine) (S : SoupV) (Bc Bs : Nat) (w : World) (hS : S.ok w) (hc : CellsAt w Bc 0 C.enc)
    (q0 : w.cell? ⟨Bs, 0, none⟩ = some (.slice S.a0 S.ts.length S.c0)) (q1 : w.cell? ⟨Bs, 1, none⟩ = some (.slice S.a1 S.bs.length S.c1)) (q2 : w.cell? ⟨Bs, 2, none⟩ = some (.slice S.a2 S.hs.length S.c2)) :
    Calls Tryz.prog 47 #[.pointer (some ⟨Bc, 0, none⟩), .pointer (some ⟨Bs, 0, none⟩)] w fun e w' => e = .returned (.bool (TriR.listB C S.ts)) ∧ New w w' := by
  have HK := Lib.hid (fun W => t_kind W)
  have HL := Lib.hid (fun W (n : New w W) => t_listMay C hC S W (hS.keep n))
  obtain ⟨c0, c1, c2, c3, c4, c5, c6⟩ := CfgR.at hc
  clear hc hS
  generalize TriR.listB C S.ts = v at *
  go_enter Tryz.func47, Tryz.ntmps47
  go_wp2_with fail
  (refine wp_region_hat (by kernel_rfl) (by kernel_rfl) ?_; intro hatc hatf; (repeat (go_big_quiet_step ((first | (go_at_call 49; exact Calls.hat (HK.out _)) | (go_at_call 48; exact Calls.hat (HL.out _ (Hat.h _))))))); refine wpQuiet_nil ?_; rintro _ ⟨x, rfl⟩)
  go_wp2_with fail
  go_ret
  exact ⟨rfl, x.h⟩

set_option maxHeartbeats 400000 in
theorem b_kind (w : World) : Calls Tryz.prog 52 #[] w fun e w' => e = .returned (.agg #[.func (.func 69) #[] #[], .func (.func 70) #[] #[], .int .i64 16, .int .i64 2, .func (.func 71) #[] #[]]) ∧ New w w' := by
  go_enter Tryz.func52, Tryz.ntmps52
  go_wp2_with fail
  refine bodyPost_ret (v := .agg #[.func (.func 69) #[] #[], .func (.func 70) #[] #[], .int .i64 16, .int .i64 2, .func (.func 71) #[] #[]]) (by simp [results, Tryz.results52, go_sem]) rfl ⟨rfl, by (repeat (first | (with_reducible exact New.refl _) | (with_reducible assumption) | ((with_reducible refine New.setB ?_ ?_ _); focus (first | omega | (simp; omega) | (simp; done))) | (with_reducible refine New.alloc ?_ _) | (with_reducible refine New.drew ?_) | (with_reducible refine New.drewN ?_ _) | (with_reducible refine New.hat ?_ _) | ((with_reducible apply New.snart); (with_reducible assumption))))⟩

set_option maxHeartbeats 1000000 in
theorem b_checked (C : CfgR) (hC : C.fine) (S : SoupV) (Bc Bs : Nat) (w : World) (hS : S.ok w) (hc : CellsAt w Bc 0 C.enc)
    (q0 : w.cell? ⟨Bs, 0, none⟩ = some (.slice S.a0 S.ts.length S.c0)) (q1 : w.cell? ⟨Bs, 1, none⟩ = some (.slice S.a1 S.bs.length S.c1)) (q2 : w.cell? ⟨Bs, 2, none⟩ = some (.slice S.a2 S.hs.length S.c2)) :
    Calls Tryz.prog 50 #[.pointer (some ⟨Bc, 0, none⟩), .pointer (some ⟨Bs, 0, none⟩)] w fun e w' => e = .returned (.bool (BoxR.listB C S.bs)) ∧ New w w' := by
  have HK := Lib.hid (fun W => b_kind W)
  have HL := Lib.hid (fun W (n : New w W) => b_listMay C hC S W (hS.keep n))
  obtain ⟨c0, c1, c2, c3, c4, c5, c6⟩ := CfgR.at hc
  clear hc hS
  generalize BoxR.listB C S.bs = v at *
  go_enter Tryz.func50, Tryz.ntmps50
  go_wp2_with fail
  (refine wp_region_hat (by kernel_rfl) (by kernel_rfl) ?_; intro hatc hatf; (repeat (go_big_quiet_step ((first | (go_at_call 52; exact Calls.hat (HK.out _)) | (go_at_call 51; exact Calls.hat (HL.out _ (Hat.h _))))))); refine wpQuiet_nil ?_; rintro _ ⟨x, rfl⟩)
  go_wp2_with fail
  go_ret
  exact ⟨rfl, x.h⟩

set_option maxHeartbeats 400000 in
theorem h_kind (w : World) : Calls Tryz.prog 55 #[] w fun e w' => e = .returned (.agg #[.func (.func 78) #[] #[], .func (.func 79) #[] #[], .int .i64 16, .int .i64 2, .func (.func 80) #[] #[]]) ∧ New w w' := by
  go_enter Tryz.func55, Tryz.ntmps55
  go_wp2_with fail
  refine bodyPost_ret (v := .agg #[.func (.func 78) #[] #[], .func (.func 79) #[] #[], .int .i64 16, .int .i64 2, .func (.func 80) #[] #[]]) (by simp [results, Tryz.results55, go_sem]) rfl ⟨rfl, by (repeat (first | (with_reducible exact New.refl _) | (with_reducible assumption) | ((with_reducible refine New.setB ?_ ?_ _); focus (first | omega | (simp; omega) | (simp; done))) | (with_reducible refine New.alloc ?_ _) | (with_reducible refine New.drew ?_) | (with_reducible refine New.drewN ?_ _) | (with_reducible refine New.hat ?_ _) | ((with_reducible apply New.snart); (with_reducible assumption))))⟩

set_option maxHeartbeats 1000000 in
theorem h_checked (C : CfgR) (hC : C.fine) (S : SoupV) (Bc Bs : Nat) (w : World) (hS : S.ok w) (hc : CellsAt w Bc 0 C.enc)
    (q0 : w.cell? ⟨Bs, 0, none⟩ = some (.slice S.a0 S.ts.length S.c0)) (q1 : w.cell? ⟨Bs, 1, none⟩ = some (.slice S.a1 S.bs.length S.c1)) (q2 : w.cell? ⟨Bs, 2, none⟩ = some (.slice S.a2 S.hs.length S.c2)) :
    Calls Tryz.prog 53 #[.pointer (some ⟨Bc, 0, none⟩), .pointer (some ⟨Bs, 0, none⟩)] w fun e w' => e = .returned (.bool (HopR.listB C S.hs)) ∧ New w w' := by
  have HK := Lib.hid (fun W => h_kind W)
  have HL := Lib.hid (fun W (n : New w W) => h_listMay C hC S W (hS.keep n))
  obtain ⟨c0, c1, c2, c3, c4, c5, c6⟩ := CfgR.at hc
  clear hc hS
  generalize HopR.listB C S.hs = v at *
  go_enter Tryz.func53, Tryz.ntmps53
  go_wp2_with fail
  (refine wp_region_hat (by kernel_rfl) (by kernel_rfl) ?_; intro hatc hatf; (repeat (go_big_quiet_step ((first | (go_at_call 55; exact Calls.hat (HK.out _)) | (go_at_call 54; exact Calls.hat (HL.out _ (Hat.h _))))))); refine wpQuiet_nil ?_; rintro _ ⟨x, rfl⟩)
  go_wp2_with fail
  go_ret
  exact ⟨rfl, x.h⟩
def SoupV.err (S : SoupV) (C : CfgR) : Int := if C.err ≠ 0 then 20 else if TriR.listB C S.ts = true ∧ BoxR.listB C S.bs = true ∧ HopR.listB C S.hs = true then 0 else 2

theorem Fn.three {f g h : Fn} {P : Fn → Prop} (h0 : P f) (h1 : P g) (h2 : P h) : ∀ j (hj : j < [f, g, h].length), P [f, g, h][j]
  | 0, _ => h0
  | 1, _ => h1
  | 2, _ => h2
  | _ + 3, hj => absurd hj (by simp)

set_option maxHeartbeats 2000000 in
set_option maxRecDepth 100000 in
theorem s_check (C : CfgR) (S : SoupV) (w : World) (hS : S.ok w) :
    Calls Tryz.prog 35 #[.agg #[.int .i64 C.cl, .int .i64 C.cb, .int .i64 C.ht, .int .i64 C.ri, .int .i64 C.ru, .int .i64 C.wd, .int .i64 C.dp], .agg #[.slice S.a0 S.ts.length S.c0, .slice S.a1 S.bs.length S.c1, .slice S.a2 S.hs.length S.c2]] w fun e w' => e = .returned (.int .i64 (S.err C)) ∧ New w w' := by
  have HC := Lib.hid (fun W => check_any C.cl C.cb C.ht C.ri C.ru C.wd C.dp W)
  obtain ⟨v, hv⟩ : ∃ v, v = S.err C := ⟨_, rfl⟩
  rw [← hv]
  unfold SoupV.err CfgR.err at hv
  obtain ⟨ce, hce⟩ : ∃ ce, ce = checkE C.cl C.cb C.ht C.ri C.ru C.wd C.dp := ⟨_, rfl⟩
  rw [← hce] at hv HC
  have htwo := checkE_two C.cl C.cb C.ht C.ri C.ru C.wd C.dp
  rw [← hce] at htwo
  rcases htwo with h0 | h0
  rotate_left
  · rw [h0] at hv HC
    have HV : Hid (v = 20) := by show v = 20; rw [hv]; simp
    clear hv hce h0
    go_enter Tryz.func35, Tryz.ntmps35
    go_wp2_with fail
    generalize hW : World.alloc _ _ = W
    have hn : New w W := by subst hW; (repeat (first | (with_reducible exact New.refl _) | (with_reducible assumption) | ((with_reducible refine New.setB ?_ ?_ _); focus (first | omega | (simp; omega) | (simp; done))) | (with_reducible refine New.alloc ?_ _) | (with_reducible refine New.drew ?_) | (with_reducible refine New.drewN ?_ _) | (with_reducible refine New.hat ?_ _) | ((with_reducible apply New.snart); (with_reducible assumption))))
    clear hW
    refine (HC.out _).mono ?_
    rintro e W1 ⟨rfl, n1, -⟩
    go_wp2_with fail
    go_ret
    rw [HV.out]
    exact ⟨rfl, hn.trans n1⟩
  · have hC : C.fine := CfgR.fine_of (hce.symm.trans h0)
    rw [h0] at hv HC
    clear hce h0
    have HT := Lib.hid (fun W => t_checked C hC S w.heap.size (w.heap.size + 1) W)
    have HB := Lib.hid (fun W => b_checked C hC S w.heap.size (w.heap.size + 1) W)
    have HH := Lib.hid (fun W => h_checked C hC S w.heap.size (w.heap.size + 1) W)
    clear hC
    obtain ⟨vt, hvt⟩ : ∃ v, v = TriR.listB C S.ts := ⟨_, rfl⟩
    obtain ⟨vb, hvb⟩ : ∃ v, v = BoxR.listB C S.bs := ⟨_, rfl⟩
    obtain ⟨vh, hvh⟩ : ∃ v, v = HopR.listB C S.hs := ⟨_, rfl⟩
    rw [← hvt, ← hvb, ← hvh] at hv
    rw [← hvt] at HT
    rw [← hvb] at HB
    rw [← hvh] at HH
    have HV := Lib.hid hv
    clear hvt hvb hvh hv
    have HS := Lib.hid hS
    clear hS
    go_enter Tryz.func35, Tryz.ntmps35
    go_wp2_with fail
    obtain ⟨W, hW⟩ : ∃ W, W = (w.alloc (.cells C.enc.toArray 23)).alloc (.cells #[.slice S.a0 S.ts.length S.c0, .slice S.a1 S.bs.length S.c1, .slice S.a2 S.hs.length S.c2] 79) := ⟨_, rfl⟩
    have hn : New w W := by subst hW; (repeat (first | (with_reducible exact New.refl _) | (with_reducible assumption) | ((with_reducible refine New.setB ?_ ?_ _); focus (first | omega | (simp; omega) | (simp; done))) | (with_reducible refine New.alloc ?_ _) | (with_reducible refine New.drew ?_) | (with_reducible refine New.drewN ?_ _) | (with_reducible refine New.hat ?_ _) | ((with_reducible apply New.snart); (with_reducible assumption))))
    have k0 : CellsAt W w.heap.size 0 C.enc := by subst hW; exact (cells_new w C.enc.toArray _).keep ((New.refl _).alloc _)
    have q0 : W.cell? ⟨w.heap.size + 1, 0, none⟩ = some (.slice S.a0 S.ts.length S.c0) := by subst hW; go_simp
    have q1 : W.cell? ⟨w.heap.size + 1, 1, none⟩ = some (.slice S.a1 S.bs.length S.c1) := by subst hW; go_simp
    have q2 : W.cell? ⟨w.heap.size + 1, 2, none⟩ = some (.slice S.a2 S.hs.length S.c2) := by subst hW; go_simp
    simp only [CfgR.enc] at hW
    rw [← hW]
    clear hW
    refine (HC.out _).mono ?_
    rintro e W1 ⟨rfl, n1', -⟩
    have n1 : New W W1 := n1'
    clear n1'
    replace hn := hn.trans n1
    have K0 := Lib.hid (k0.keep n1)
    replace q0 := n1.keep q0
    replace q1 := n1.keep q1
    replace q2 := n1.keep q2
    have Q0 := Lib.hid q0
    have Q1 := Lib.hid q1
    have Q2 := Lib.hid q2
    clear n1 k0 q0 q1 q2 HC
    go_wp2_with fail
    generalize hZ : World.alloc _ _ = Z
    have nZ : New W1 Z := by subst hZ; (repeat (first | (with_reducible exact New.refl _) | (with_reducible assumption) | ((with_reducible refine New.setB ?_ ?_ _); focus (first | omega | (simp; omega) | (simp; done))) | (with_reducible refine New.alloc ?_ _) | (with_reducible refine New.drew ?_) | (with_reducible refine New.drewN ?_ _) | (with_reducible refine New.hat ?_ _) | ((with_reducible apply New.snart); (with_reducible assumption))))
    have hat : FnAt Z W1.heap.size [⟨47, #[.pointer (some ⟨w.heap.size, 0, none⟩), .pointer (some ⟨w.heap.size + 1, 0, none⟩)], vt⟩, ⟨50, #[.pointer (some ⟨w.heap.size, 0, none⟩), .pointer (some ⟨w.heap.size + 1, 0, none⟩)], vb⟩, ⟨53, #[.pointer (some ⟨w.heap.size, 0, none⟩), .pointer (some ⟨w.heap.size + 1, 0, none⟩)], vh⟩] := by
      subst hZ
      exact fns_at _ _ _ _ rfl
    clear hZ
    have HA := Lib.hid (l_all Z W1.heap.size 3 _ (by simp) (Fn.three
      ⟨enters_of Tryz.func47 (by kernel_rfl) rfl, fun V hV => HT.out V (HS.out.keep ((hn.trans nZ).trans hV)) ((K0.out.keep nZ).keep hV) (hV.keep (nZ.keep Q0.out)) (hV.keep (nZ.keep Q1.out)) (hV.keep (nZ.keep Q2.out))⟩
      ⟨enters_of Tryz.func50 (by kernel_rfl) rfl, fun V hV => HB.out V (HS.out.keep ((hn.trans nZ).trans hV)) ((K0.out.keep nZ).keep hV) (hV.keep (nZ.keep Q0.out)) (hV.keep (nZ.keep Q1.out)) (hV.keep (nZ.keep Q2.out))⟩
      ⟨enters_of Tryz.func53 (by kernel_rfl) rfl, fun V hV => HH.out V (HS.out.keep ((hn.trans nZ).trans hV)) ((K0.out.keep nZ).keep hV) (hV.keep (nZ.keep Q0.out)) (hV.keep (nZ.keep Q1.out)) (hV.keep (nZ.keep Q2.out))⟩) Z (New.refl _) hat)
    replace hn := hn.trans nZ
    simp only [List.all_cons, List.all_nil, Bool.and_true] at HA
    obtain ⟨b, hb⟩ : ∃ b, b = (vt && (vb && vh)) := ⟨_, rfl⟩
    rw [← hb] at HA
    have HVb : Hid (v = if b = true then 0 else 2) := by
      show v = _
      rw [HV.out, hb]
      simp [Bool.and_eq_true]
    clear hat nZ K0 Q0 Q1 Q2 HT HB HH HV HS hb
    refine (HA.out).mono ?_
    rintro e W2 ⟨rfl, n1⟩
    replace hn := hn.trans n1
    cases b
    · have HV : Hid (v = 2) := HVb.out
      go_wp2_with fail
      go_ret
      rw [HV.out]
      exact ⟨rfl, hn⟩
    · have HV : Hid (v = 0) := HVb.out
      go_wp2_with fail
      go_ret
      rw [HV.out]
      exact ⟨rfl, hn⟩

end Go.Proofs.YtdbhlepbaepngaaGreatDoor

/- bins.list: the tiles that are gone over, in a row. -/
namespace Go.Proofs.YtdbhlepbaepngaaGreatDoor
open Go.RowKit Go.Shelf
set_option linter.unusedVariables false
set_option maxRecDepth 100000
attribute [local go_sem] Oper.semAt_some

theorem own_put {W : World} {base size n D : Nat} {e : TypeId} {v : Value} {xs : List Value} {o : Obj} (h : W.ownsRow base e size v n xs) (hD : W.heap[D]? = some (.deferred (some []))) : (W.putObj D o).ownsRow base e size v n xs := by
  obtain ⟨h1, h2⟩ := h
  refine ⟨h1, h2.imp id ?_⟩
  rintro ⟨g, cap, cur, rfl, hb, hg, r⟩
  have hne : g ≠ D := fun e => by subst e; rw [hg] at hD; cases hD
  exact ⟨g, cap, cur, rfl, hb, (World.putObj_heap_other hne).trans hg, r⟩

set_option maxHeartbeats 4000000 in
theorem bn_list (cl cb ht ri ru wd dp x0 z0 x1 z1 : Int) (Bc : Nat) (w : World) (hE : EachAt w Bc cl cb ht ri ru wd dp x0 z0 x1 z1) (hl : Nowhere w) :
    CallsIn Fence.wide 5 Tryz.prog 36 #[seqV Bc] w fun e w' =>
      ∃ v, e = .returned v ∧ w'.ownsRow w.heap.size 3 1 v (tilesL cl cb ht ri ru wd dp x0 z0 x1 z1).length ((tilesL cl cb ht ri ru wd dp x0 z0 x1 z1).flatMap iE) ∧ New w w' := by
  obtain ⟨i0, hi, hz0, hz1, hz2⟩ := info_parts int_info
  unfold seqV
  refine callsIn_of_wp_marks Tryz.func36 rfl trivial ?_ rfl
  simp only [Tryz.ntmps36, List.size_toArray, List.length_cons, List.length_nil, Nat.reduceAdd, Nat.reduceSub, Array.replicate_succ, Array.replicate_zero, List.push_toArray, List.append_toArray, List.nil_append, List.cons_append]
  gi_wp2_with fail
  obtain ⟨W0, hW0⟩ : ∃ W0, W0 = w.alloc (.cells #[.slice none 0 0] 48) := ⟨_, rfl⟩
  have hs0 : W0.heap.size = w.heap.size + 1 := by subst hW0; simp
  have bO : Boxed W0 w.heap.size 48 (.slice none 0 0) := by subst hW0; exact Boxed.new w _ _
  have hn0 : Below w.heap.size w W0 := by subst hW0; exact (Below.refl _ w).alloc (Nat.le_refl _) _
  have hn : New w W0 := hn0
  rw [← hW0]
  clear hW0
  have hBc : Bc + 1 + 1 + 1 + 1 < w.heap.size := World.block_lt_of_cell? _ _ hE.d3
  refine wpIn_rangeFunc_ownH rfl (by omega) (gf := 57) (lb := #[.pointer (some ⟨Bc, 0, none⟩), .pointer (some ⟨Bc + 1, 0, none⟩), .pointer (some ⟨Bc + 1 + 1, 0, none⟩), .pointer (some ⟨Bc + 1 + 1 + 1, 0, none⟩), .pointer (some ⟨Bc + 1 + 1 + 1 + 1, 0, none⟩)]) rfl trivial (enters_of Tryz.func57 (by kernel_rfl) rfl)
    (b_stops cl cb ht ri ru wd dp x0 z0 x1 z1 4 (by omega) Bc w.heap.size W0 (hE.new hn) (hl.new hn) hBc (by omega))
    (fun h k => fun b hb => (k b hb).trans (h b hb)) (fun W l o o' hl _ _ _ => fun b hb => World.putObj_heap_other (by omega)) (Below.refl _ _) (fun _ => rfl)
    (fun pre W => (∃ v, Boxed W w.heap.size 48 v ∧ W.ownsRow w.heap.size 3 1 v pre.length (pre.flatMap iE) ∧ True) ∧ Below w.heap.size w W)
    (fun _ _ _ => False)
    (OwnFrom.and (Own.from (holdsRow_own w.heap.size w.heap.size 48 3 1 (fun (pre : List Int) => pre.length) (fun (pre : List Int) => pre.flatMap iE) (fun _ _ => True)) _) (ownFrom_below (Nat.le_refl _) (by omega)))
    (fun _ _ _ _ _ hs _ _ => hs)
    ⟨⟨_, bO, World.ownsRow_nil _ _ _ _, trivial⟩, hn0⟩
    (fun t a' _ => a' = { tmps := #[.func (.func 57) #[] #[.pointer (some ⟨Bc, 0, none⟩), .pointer (some ⟨Bc + 1, 0, none⟩), .pointer (some ⟨Bc + 1 + 1, 0, none⟩), .pointer (some ⟨Bc + 1 + 1 + 1, 0, none⟩), .pointer (some ⟨Bc + 1 + 1 + 1 + 1, 0, none⟩)], undef, .slice none 0 0, .pointer (some ⟨w.heap.size, 0, none⟩), .int .i64 t, .func (.func 57) #[] #[.pointer (some ⟨Bc, 0, none⟩), .pointer (some ⟨Bc + 1, 0, none⟩), .pointer (some ⟨Bc + 1 + 1, 0, none⟩), .pointer (some ⟨Bc + 1 + 1 + 1, 0, none⟩), .pointer (some ⟨Bc + 1 + 1 + 1 + 1, 0, none⟩)], .int .i64 t, undef, undef, undef, undef, undef], defers := [] })
    (fun _ _ _ _ _ _ hs _ _ => hs) ?assign ?body ?done ?stop
  case assign =>
    intro l pre t W K hi' hK
    simp only [List.zip_toArray, List.zip_cons_cons, List.zip_nil_right, List.foldl_toArray', List.foldl_cons, List.foldl_nil, List.setIfInBounds_toArray, List.set_cons_succ, List.set_cons_zero, List.size_toArray, List.length_cons, List.length_nil]
    gi_wp2
    exact hK _ _ ((KeepsOthers.refl _).from _) (fun _ _ => rfl) hi' rfl
  case body =>
    rintro l pre t a' W hl' ⟨r, hr⟩ ⟨⟨v, hv, hrow, _⟩, hB⟩ rfl hlt
    have hc := hv.cell
    have hBs := hB.size
    gi_wp2_with (gi_at_builtin; refine wpListIn_append_own _ rfl _ _ 48 rfl w.heap.size 3 i0 (.int .i64 0) 1 8 Tryz.underlying48 hi hz0 hz1 hz2 rfl (by decide) _ _ _ rfl (hrow.alloc _) ⟨W.heap.size, 0, none⟩ 1 1 (iE t) rfl rfl (cells_int _ _ _) (by intro u hu; simp at hu; subst hu; rfl) (by unfold maxLen; omega) (by omega) (by simp; omega) ?_; intro v' w1 hown' hgrow _; obtain ⟨g', cap', rfl⟩ := ownsRow_succ hown'; obtain ⟨hv1, hv2, hr2, hk2, hb2⟩ := hv.appended (by decide) hrow hB.size (Nat.le_refl _) hown' hgrow; have hc1 := hv1.cell; have hf1 := hv1.frozen)
    refine ⟨hk2.from _, fun b hb => ?_, ⟨_, hv2, by rw [List.flatMap_append, List.length_append]; simpa using hr2, trivial⟩, hB.trans hb2⟩
    exact hb2.block b hb
  case done =>
    rintro D ys W hD rfl ⟨⟨v, hv, hrow, _⟩, hB⟩ hK
    have hc := hv.cell
    gi_wp2_with fail
    refine ⟨by simp, .inl ⟨_, _, rfl, run_takeDeferred hK, ?_⟩⟩
    exact ⟨_, results_tmp rfl _ _ _, v, rfl, own_put hrow hK, Go.RowKit.Below.trans hB (belowK_b (w := w) (Nat.le_refl _) W D _ _ (by omega) hK rfl rfl)⟩
  case stop =>
    rintro D c pre W _ _ h _
    exact h.elim

theorem bList_any (cl cb ht ri ru wd dp x0 z0 x1 z1 : Int) (Bc : Nat) (w : World) (hE : EachAt w Bc cl cb ht ri ru wd dp x0 z0 x1 z1) (hl : Nowhere w) :
    Calls Tryz.prog 36 #[seqV Bc] w fun e w' =>
      ∃ v, e = .returned v ∧ w'.ownsRow w.heap.size 3 1 v (tilesL cl cb ht ri ru wd dp x0 z0 x1 z1).length ((tilesL cl cb ht ri ru wd dp x0 z0 x1 z1).flatMap iE) ∧ New w w' :=
  (callsIn_wide (n := 5)).1 (bn_list cl cb ht ri ru wd dp x0 z0 x1 z1 Bc w hE hl)

/-- A list and an error. -/
def ListPost (c : Int) (l : List Int) (w : World) (e : Ending) (w' : World) : Prop :=
  ∃ v, e = .returned (.tuple #[v, .int .i64 c]) ∧ Sl iE 1 w' v l ∧ New w w'

end Go.Proofs.YtdbhlepbaepngaaGreatDoor

/- What a box touches: bins.Boxes. -/
namespace Go.Proofs.YtdbhlepbaepngaaGreatDoor
open Go.RowKit
set_option linter.unusedVariables false
set_option maxRecDepth 100000

/-- Whether a box may be, alone. -/
def boxE (C : CfgR) (X : BoxR) : Int := if C.err ≠ 0 then 20 else if X.may C = true then 0 else 2
def boxesL (C : CfgR) (X : BoxR) : List Int := if boxE C X = 0 then tilesL C.cl C.cb C.ht C.ri C.ru C.wd C.dp X.x0 X.z0 X.x1 X.z1 else []

theorem one_listB (C : CfgR) (X : BoxR) : BoxR.listB C [X] = X.may C := by
  unfold BoxR.listB
  have h : (List.range [X].length) = [0] := rfl
  rw [h, List.all_cons, List.all_nil, BoxR.okAt_zero C [X] (by simp)]
  simp

/-- A soup of one box. -/
def boxV1 (b : Nat) (X : BoxR) : SoupV := ⟨[], [X], [], none, some ⟨b, 0, none⟩, none, 0, 1, 0⟩
theorem one_err (C : CfgR) (X : BoxR) (b : Nat) : (boxV1 b X).err C = boxE C X := by
  unfold SoupV.err boxE
  have e1 : TriR.listB C (boxV1 b X).ts = true := rfl
  have e2 : BoxR.listB C (boxV1 b X).bs = X.may C := one_listB C X
  have e3 : HopR.listB C (boxV1 b X).hs = true := rfl
  rw [e1, e2, e3]
  simp
theorem one_ok (X : BoxR) {b : Nat} {W : World} (h : CellsAt W b 0 X.enc) : (boxV1 b X).ok W :=
  ⟨Sl.nil, ⟨some ⟨b, 0, none⟩, 1, rfl, Nat.le_refl _, by decide, fun e => (by cases e), fun _ => ⟨b, 0, rfl, fun j hj => by
    obtain rfl : j = 0 := by have : j < 1 := hj; omega
    rw [Nat.zero_mul]; exact h⟩⟩, Sl.nil⟩

set_option maxHeartbeats 4000000 in
theorem bBoxes_any (C : CfgR) (X : BoxR) (w : World) (hl : Nowhere w) :
    Calls Tryz.prog 24 #[.agg #[.int .i64 C.cl, .int .i64 C.cb, .int .i64 C.ht, .int .i64 C.ri, .int .i64 C.ru, .int .i64 C.wd, .int .i64 C.dp], .agg #[.int .i64 X.i, .int .i64 X.x0, .int .i64 X.z0, .int .i64 X.x1, .int .i64 X.z1, .int .i64 X.y0, .int .i64 X.y1, .int .i64 X.ar]] w (ListPost (boxE C X) (boxesL C X) w) := by
  have KC := Lib.hid (fun b W h => s_check C (boxV1 b X) W h)
  simp only [one_err] at KC
  unfold boxesL
  have HX := Lib.hid (fun b W h => one_ok (b := b) (W := W) X h)
  generalize boxE C X = c at *
  by_cases h0 : c = 0
  rotate_left
  · rw [if_neg h0]
    have hne : (c != 0) = true := by simpa using h0
    clear h0
    go_enter Tryz.func24, Tryz.ntmps24
    go_wp2_with fail
    obtain ⟨W, hW⟩ : ∃ W, W = ((w.alloc (.cells C.enc.toArray 23)).alloc (.cells X.enc.toArray 42)).alloc (.cells X.enc.toArray 42) := ⟨_, rfl⟩
    have hn : New w W := by subst hW; (repeat (first | (with_reducible exact New.refl _) | (with_reducible assumption) | ((with_reducible refine New.setB ?_ ?_ _); focus (first | omega | (simp; omega) | (simp; done))) | (with_reducible refine New.alloc ?_ _) | (with_reducible refine New.drew ?_) | (with_reducible refine New.drewN ?_ _) | (with_reducible refine New.hat ?_ _) | ((with_reducible apply New.snart); (with_reducible assumption))))
    have hx : CellsAt W (w.heap.size + 1 + 1) 0 X.enc := by
      subst hW
      have := cells_new ((w.alloc (.cells C.enc.toArray 23)).alloc (.cells X.enc.toArray 42)) X.enc.toArray 42
      simpa using this
    simp only [CfgR.enc, BoxR.enc] at hW
    rw [← hW]
    clear hW
    refine (KC.out _ _ (HX.out _ _ hx)).mono ?_
    rintro e w1 ⟨rfl, n1⟩
    replace hn := hn.trans n1
    go_wp2_with fail
    go_ret2
    exact ⟨_, rfl, Sl.nil, hn⟩
  · subst h0
    rw [if_pos rfl]
    go_enter Tryz.func24, Tryz.ntmps24
    go_wp2_with fail
    obtain ⟨W, hW⟩ : ∃ W, W = ((w.alloc (.cells C.enc.toArray 23)).alloc (.cells X.enc.toArray 42)).alloc (.cells X.enc.toArray 42) := ⟨_, rfl⟩
    have hn : New w W := by subst hW; (repeat (first | (with_reducible exact New.refl _) | (with_reducible assumption) | ((with_reducible refine New.setB ?_ ?_ _); focus (first | omega | (simp; omega) | (simp; done))) | (with_reducible refine New.alloc ?_ _) | (with_reducible refine New.drew ?_) | (with_reducible refine New.drewN ?_ _) | (with_reducible refine New.hat ?_ _) | ((with_reducible apply New.snart); (with_reducible assumption))))
    have hx : CellsAt W (w.heap.size + 1 + 1) 0 X.enc := by
      subst hW
      have := cells_new ((w.alloc (.cells C.enc.toArray 23)).alloc (.cells X.enc.toArray 42)) X.enc.toArray 42
      simpa using this
    simp only [CfgR.enc, BoxR.enc] at hW
    ((have c0 : W.cell? ⟨w.heap.size, 0, none⟩ = some (.int .i64 C.cl) := (by subst hW; go_simp)); (have c1 : W.cell? ⟨w.heap.size, 1, none⟩ = some (.int .i64 C.cb) := (by subst hW; go_simp)); (have c2 : W.cell? ⟨w.heap.size, 2, none⟩ = some (.int .i64 C.ht) := (by subst hW; go_simp)); (have c3 : W.cell? ⟨w.heap.size, 3, none⟩ = some (.int .i64 C.ri) := (by subst hW; go_simp)); (have c4 : W.cell? ⟨w.heap.size, 4, none⟩ = some (.int .i64 C.ru) := (by subst hW; go_simp)); (have c5 : W.cell? ⟨w.heap.size, 5, none⟩ = some (.int .i64 C.wd) := (by subst hW; go_simp)); (have c6 : W.cell? ⟨w.heap.size, 6, none⟩ = some (.int .i64 C.dp) := (by subst hW; go_simp)))
    have d1 : W.cell? ⟨w.heap.size + 1, 1, none⟩ = some (.int .i64 X.x0) := by subst hW; go_simp
    have d2 : W.cell? ⟨w.heap.size + 1, 2, none⟩ = some (.int .i64 X.z0) := by subst hW; go_simp
    have d3 : W.cell? ⟨w.heap.size + 1, 3, none⟩ = some (.int .i64 X.x1) := by subst hW; go_simp
    have d4 : W.cell? ⟨w.heap.size + 1, 4, none⟩ = some (.int .i64 X.z1) := by subst hW; go_simp
    rw [← hW]
    clear hW
    refine (KC.out _ _ (HX.out _ _ hx)).mono ?_
    rintro e w1 ⟨rfl, n1⟩
    ((replace c0 := New.keep n1 c0); (replace c1 := New.keep n1 c1); (replace c2 := New.keep n1 c2); (replace c3 := New.keep n1 c3); (replace c4 := New.keep n1 c4); (replace c5 := New.keep n1 c5); (replace c6 := New.keep n1 c6))
    replace d1 := New.keep n1 d1
    replace d2 := New.keep n1 d2
    replace d3 := New.keep n1 d3
    replace d4 := New.keep n1 d4
    replace hn := hn.trans n1
    clear n1 hx HX KC
    go_wp2_with fail
    refine (bEach_any C.cl C.cb C.ht C.ri C.ru C.wd C.dp X.x0 X.z0 X.x1 X.z1 w1).mono ?_
    rintro e w3 ⟨Bc, rfl, hE, -, -, n3⟩
    replace hn := hn.trans n3
    clear c0 c1 c2 c3 c4 c5 c6 d1 d2 d3 d4
    unfold seqV
    go_wp2_with fail
    refine (bList_any C.cl C.cb C.ht C.ri C.ru C.wd C.dp X.x0 X.z0 X.x1 X.z1 Bc w3 hE (hl.new hn)).mono ?_
    rintro e w4 ⟨v, rfl, hrow, n4⟩
    go_wp2_with fail
    go_ret2
    exact ⟨_, rfl, own_sl iE_len hrow, hn.trans n4⟩

end Go.Proofs.YtdbhlepbaepngaaGreatDoor
