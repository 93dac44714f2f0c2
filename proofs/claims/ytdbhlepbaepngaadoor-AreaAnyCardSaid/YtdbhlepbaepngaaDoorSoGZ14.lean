import Derived.Test.YtdbhlepbaepngaaDoorSoFTZ14
import Derived.Test.YtdbhlepbaepngaaDoorSoFBZ14
import Derived.Test.YtdbhlepbaepngaaDoorSoFHZ14

/- Package soup: Check. -/
namespace Go.Proofs.YtdbhlepbaepngaaDoor
open Go.RowKit
set_option linter.unusedVariables false

theorem run_store_fn {P : Program} {a : Addr} {f : _root_.Go.Fn} {x y : Array Value} {m : Mode} {w : World} : (store a (.func f x y) m).run P w = stored P w a (.func f x y) m := run_store P w a _ m rfl
attribute [local go_sem] run_store_fn

set_option maxHeartbeats 400000 in
theorem t_kind (w : World) : Calls Tryd.prog 41 #[] w fun e w' => e = .returned (.agg #[.func (.func 53) #[] #[], .func (.func 54) #[] #[], .int .i64 200, .int .i64 40, .func (.func 55) #[] #[]]) ∧ New w w' := by
  go_enter Tryd.func41, Tryd.ntmps41
  go_wp2_with fail
  refine bodyPost_ret (v := .agg #[.func (.func 53) #[] #[], .func (.func 54) #[] #[], .int .i64 200, .int .i64 40, .func (.func 55) #[] #[]]) (by simp [results, Tryd.results41, go_sem]) rfl ⟨rfl, by (repeat (first | (with_reducible exact New.refl _) | (with_reducible assumption) | ((with_reducible refine New.setB ?_ ?_ _); focus (first | omega | (simp; omega) | (simp; done))) | (with_reducible refine New.alloc ?_ _) | (with_reducible refine New.drew ?_) | (with_reducible refine New.drewN ?_ _) | (with_reducible refine New.hat ?_ _) | ((with_reducible apply New.snart); (with_reducible assumption))))⟩

set_option maxHeartbeats 1000000 in
theorem t_checked (C : CfgR) (hC : C.fine) (S : SoupV) (Bc Bs : Nat) (w : World) (hS : S.ok w) (hc : CellsAt w Bc 0 C.enc)
    (q0 : w.cell? ⟨Bs, 0, none⟩ = some (.slice S.a0 S.ts.length S.c0)) (q1 : w.cell? ⟨Bs, 1, none⟩ = some (.slice S.a1 S.bs.length S.c1)) (q2 : w.cell? ⟨Bs, 2, none⟩ = some (.slice S.a2 S.hs.length S.c2)) :
    Calls Tryd.prog 39 #[.pointer (some ⟨Bc, 0, none⟩), .pointer (some ⟨Bs, 0, none⟩)] w fun e w' => e = .returned (.bool (TriR.listB C S.ts)) ∧ New w w' := by
  have HK := Lib.hid (fun W => t_kind W)
  have HL := Lib.hid (fun W (n : New w W) => t_listMay C hC S W (hS.keep n))
  obtain ⟨c0, c1, c2, c3, c4, c5, c6⟩ := CfgR.at hc
  clear hc hS
  generalize TriR.listB C S.ts = v at *
  go_enter Tryd.func39, Tryd.ntmps39
  go_wp2_with fail
  (refine wp_region_hat (by kernel_rfl) (by kernel_rfl) ?_; intro hatc hatf; (repeat (go_big_quiet_step ((first | (go_at_call 41; exact Calls.hat (HK.out _)) | (go_at_call 40; exact Calls.hat (HL.out _ (Hat.h _))))))); refine wpQuiet_nil ?_; rintro _ ⟨x, rfl⟩)
  go_wp2_with fail
  go_ret
  exact ⟨rfl, x.h⟩

set_option maxHeartbeats 400000 in
theorem b_kind (w : World) : Calls Tryd.prog 44 #[] w fun e w' => e = .returned (.agg #[.func (.func 59) #[] #[], .func (.func 60) #[] #[], .int .i64 16, .int .i64 2, .func (.func 61) #[] #[]]) ∧ New w w' := by
  go_enter Tryd.func44, Tryd.ntmps44
  go_wp2_with fail
  refine bodyPost_ret (v := .agg #[.func (.func 59) #[] #[], .func (.func 60) #[] #[], .int .i64 16, .int .i64 2, .func (.func 61) #[] #[]]) (by simp [results, Tryd.results44, go_sem]) rfl ⟨rfl, by (repeat (first | (with_reducible exact New.refl _) | (with_reducible assumption) | ((with_reducible refine New.setB ?_ ?_ _); focus (first | omega | (simp; omega) | (simp; done))) | (with_reducible refine New.alloc ?_ _) | (with_reducible refine New.drew ?_) | (with_reducible refine New.drewN ?_ _) | (with_reducible refine New.hat ?_ _) | ((with_reducible apply New.snart); (with_reducible assumption))))⟩

set_option maxHeartbeats 1000000 in
theorem b_checked (C : CfgR) (hC : C.fine) (S : SoupV) (Bc Bs : Nat) (w : World) (hS : S.ok w) (hc : CellsAt w Bc 0 C.enc)
    (q0 : w.cell? ⟨Bs, 0, none⟩ = some (.slice S.a0 S.ts.length S.c0)) (q1 : w.cell? ⟨Bs, 1, none⟩ = some (.slice S.a1 S.bs.length S.c1)) (q2 : w.cell? ⟨Bs, 2, none⟩ = some (.slice S.a2 S.hs.length S.c2)) :
    Calls Tryd.prog 42 #[.pointer (some ⟨Bc, 0, none⟩), .pointer (some ⟨Bs, 0, none⟩)] w fun e w' => e = .returned (.bool (BoxR.listB C S.bs)) ∧ New w w' := by
  have HK := Lib.hid (fun W => b_kind W)
  have HL := Lib.hid (fun W (n : New w W) => b_listMay C hC S W (hS.keep n))
  obtain ⟨c0, c1, c2, c3, c4, c5, c6⟩ := CfgR.at hc
  clear hc hS
  generalize BoxR.listB C S.bs = v at *
  go_enter Tryd.func42, Tryd.ntmps42
  go_wp2_with fail
  (refine wp_region_hat (by kernel_rfl) (by kernel_rfl) ?_; intro hatc hatf; (repeat (go_big_quiet_step ((first | (go_at_call 44; exact Calls.hat (HK.out _)) | (go_at_call 43; exact Calls.hat (HL.out _ (Hat.h _))))))); refine wpQuiet_nil ?_; rintro _ ⟨x, rfl⟩)
  go_wp2_with fail
  go_ret
  exact ⟨rfl, x.h⟩

set_option maxHeartbeats 400000 in
theorem h_kind (w : World) : Calls Tryd.prog 47 #[] w fun e w' => e = .returned (.agg #[.func (.func 68) #[] #[], .func (.func 69) #[] #[], .int .i64 16, .int .i64 2, .func (.func 70) #[] #[]]) ∧ New w w' := by
  go_enter Tryd.func47, Tryd.ntmps47
  go_wp2_with fail
  refine bodyPost_ret (v := .agg #[.func (.func 68) #[] #[], .func (.func 69) #[] #[], .int .i64 16, .int .i64 2, .func (.func 70) #[] #[]]) (by simp [results, Tryd.results47, go_sem]) rfl ⟨rfl, by (repeat (first | (with_reducible exact New.refl _) | (with_reducible assumption) | ((with_reducible refine New.setB ?_ ?_ _); focus (first | omega | (simp; omega) | (simp; done))) | (with_reducible refine New.alloc ?_ _) | (with_reducible refine New.drew ?_) | (with_reducible refine New.drewN ?_ _) | (with_reducible refine New.hat ?_ _) | ((with_reducible apply New.snart); (with_reducible assumption))))⟩

set_option maxHeartbeats 1000000 in
theorem h_checked (C : CfgR) (hC : C.fine) (S : SoupV) (Bc Bs : Nat) (w : World) (hS : S.ok w) (hc : CellsAt w Bc 0 C.enc)
    (q0 : w.cell? ⟨Bs, 0, none⟩ = some (.slice S.a0 S.ts.length S.c0)) (q1 : w.cell? ⟨Bs, 1, none⟩ = some (.slice S.a1 S.bs.length S.c1)) (q2 : w.cell? ⟨Bs, 2, none⟩ = some (.slice S.a2 S.hs.length S.c2)) :
    Calls Tryd.prog 45 #[.pointer (some ⟨Bc, 0, none⟩), .pointer (some ⟨Bs, 0, none⟩)] w fun e w' => e = .returned (.bool (HopR.listB C S.hs)) ∧ New w w' := by
  have HK := Lib.hid (fun W => h_kind W)
  have HL := Lib.hid (fun W (n : New w W) => h_listMay C hC S W (hS.keep n))
  obtain ⟨c0, c1, c2, c3, c4, c5, c6⟩ := CfgR.at hc
  clear hc hS
  generalize HopR.listB C S.hs = v at *
  go_enter Tryd.func45, Tryd.ntmps45
  go_wp2_with fail
  (refine wp_region_hat (by kernel_rfl) (by kernel_rfl) ?_; intro hatc hatf; (repeat (go_big_quiet_step ((first | (go_at_call 47; exact Calls.hat (HK.out _)) | (go_at_call 46; exact Calls.hat (HL.out _ (Hat.h _))))))); refine wpQuiet_nil ?_; rintro _ ⟨x, rfl⟩)
  go_wp2_with fail
  go_ret
  exact ⟨rfl, x.h⟩
def SoupV.err (S : SoupV) (C : CfgR) : Int := if C.err ≠ 0 then 20 else if TriR.listB C S.ts = true ∧ BoxR.listB C S.bs = true ∧ HopR.listB C S.hs = true then 0 else 2

theorem Fn.three {f g h : Fn} {P : Fn → Prop} (h0 : P f) (h1 : P g) (h2 : P h) : ∀ j (hj : j < [f, g, h].length), P [f, g, h][j]
  | 0, _ => h0
  | 1, _ => h1
  | 2, _ => h2
  | _ + 3, hj => absurd hj (by simp)

set_option maxHeartbeats 2000000 in
set_option maxRecDepth 100000 in
theorem s_check (C : CfgR) (S : SoupV) (w : World) (hS : S.ok w) :
    Calls Tryd.prog 34 #[.agg #[.int .i64 C.cl, .int .i64 C.cb, .int .i64 C.ht, .int .i64 C.ri, .int .i64 C.ru, .int .i64 C.wd, .int .i64 C.dp], .agg #[.slice S.a0 S.ts.length S.c0, .slice S.a1 S.bs.length S.c1, .slice S.a2 S.hs.length S.c2]] w fun e w' => e = .returned (.int .i64 (S.err C)) ∧ New w w' := by
  have HC := Lib.hid (fun W => check_any C.cl C.cb C.ht C.ri C.ru C.wd C.dp W)
  obtain ⟨v, hv⟩ : ∃ v, v = S.err C := ⟨_, rfl⟩
  rw [← hv]
  unfold SoupV.err CfgR.err at hv
  obtain ⟨ce, hce⟩ : ∃ ce, ce = checkE C.cl C.cb C.ht C.ri C.ru C.wd C.dp := ⟨_, rfl⟩
  rw [← hce] at hv HC
  have htwo := checkE_two C.cl C.cb C.ht C.ri C.ru C.wd C.dp
  rw [← hce] at htwo
  rcases htwo with h0 | h0
  rotate_left
  · rw [h0] at hv HC
    have HV : Hid (v = 20) := by show v = 20; rw [hv]; simp
    clear hv hce h0
    go_enter Tryd.func34, Tryd.ntmps34
    go_wp2_with fail
    generalize hW : World.alloc _ _ = W
    have hn : New w W := by subst hW; (repeat (first | (with_reducible exact New.refl _) | (with_reducible assumption) | ((with_reducible refine New.setB ?_ ?_ _); focus (first | omega | (simp; omega) | (simp; done))) | (with_reducible refine New.alloc ?_ _) | (with_reducible refine New.drew ?_) | (with_reducible refine New.drewN ?_ _) | (with_reducible refine New.hat ?_ _) | ((with_reducible apply New.snart); (with_reducible assumption))))
    clear hW
    refine (HC.out _).mono ?_
    rintro e W1 ⟨rfl, n1, -⟩
    go_wp2_with fail
    go_ret
    rw [HV.out]
    exact ⟨rfl, hn.trans n1⟩
  · have hC : C.fine := CfgR.fine_of (hce.symm.trans h0)
    rw [h0] at hv HC
    clear hce h0
    have HT := Lib.hid (fun W => t_checked C hC S w.heap.size (w.heap.size + 1) W)
    have HB := Lib.hid (fun W => b_checked C hC S w.heap.size (w.heap.size + 1) W)
    have HH := Lib.hid (fun W => h_checked C hC S w.heap.size (w.heap.size + 1) W)
    clear hC
    obtain ⟨vt, hvt⟩ : ∃ v, v = TriR.listB C S.ts := ⟨_, rfl⟩
    obtain ⟨vb, hvb⟩ : ∃ v, v = BoxR.listB C S.bs := ⟨_, rfl⟩
    obtain ⟨vh, hvh⟩ : ∃ v, v = HopR.listB C S.hs := ⟨_, rfl⟩
    rw [← hvt, ← hvb, ← hvh] at hv
    rw [← hvt] at HT
    rw [← hvb] at HB
    rw [← hvh] at HH
    have HV := Lib.hid hv
    clear hvt hvb hvh hv
    have HS := Lib.hid hS
    clear hS
    go_enter Tryd.func34, Tryd.ntmps34
    go_wp2_with fail
    obtain ⟨W, hW⟩ : ∃ W, W = (w.alloc (.cells C.enc.toArray 32)).alloc (.cells #[.slice S.a0 S.ts.length S.c0, .slice S.a1 S.bs.length S.c1, .slice S.a2 S.hs.length S.c2] 79) := ⟨_, rfl⟩
    have hn : New w W := by subst hW; (repeat (first | (with_reducible exact New.refl _) | (with_reducible assumption) | ((with_reducible refine New.setB ?_ ?_ _); focus (first | omega | (simp; omega) | (simp; done))) | (with_reducible refine New.alloc ?_ _) | (with_reducible refine New.drew ?_) | (with_reducible refine New.drewN ?_ _) | (with_reducible refine New.hat ?_ _) | ((with_reducible apply New.snart); (with_reducible assumption))))
    have k0 : CellsAt W w.heap.size 0 C.enc := by subst hW; exact (cells_new w C.enc.toArray _).keep ((New.refl _).alloc _)
    have q0 : W.cell? ⟨w.heap.size + 1, 0, none⟩ = some (.slice S.a0 S.ts.length S.c0) := by subst hW; go_simp
    have q1 : W.cell? ⟨w.heap.size + 1, 1, none⟩ = some (.slice S.a1 S.bs.length S.c1) := by subst hW; go_simp
    have q2 : W.cell? ⟨w.heap.size + 1, 2, none⟩ = some (.slice S.a2 S.hs.length S.c2) := by subst hW; go_simp
    simp only [CfgR.enc] at hW
    rw [← hW]
    clear hW
    refine (HC.out _).mono ?_
    rintro e W1 ⟨rfl, n1', -⟩
    have n1 : New W W1 := n1'
    clear n1'
    replace hn := hn.trans n1
    have K0 := Lib.hid (k0.keep n1)
    replace q0 := n1.keep q0
    replace q1 := n1.keep q1
    replace q2 := n1.keep q2
    have Q0 := Lib.hid q0
    have Q1 := Lib.hid q1
    have Q2 := Lib.hid q2
    clear n1 k0 q0 q1 q2 HC
    go_wp2_with fail
    generalize hZ : World.alloc _ _ = Z
    have nZ : New W1 Z := by subst hZ; (repeat (first | (with_reducible exact New.refl _) | (with_reducible assumption) | ((with_reducible refine New.setB ?_ ?_ _); focus (first | omega | (simp; omega) | (simp; done))) | (with_reducible refine New.alloc ?_ _) | (with_reducible refine New.drew ?_) | (with_reducible refine New.drewN ?_ _) | (with_reducible refine New.hat ?_ _) | ((with_reducible apply New.snart); (with_reducible assumption))))
    have hat : FnAt Z W1.heap.size [⟨39, #[.pointer (some ⟨w.heap.size, 0, none⟩), .pointer (some ⟨w.heap.size + 1, 0, none⟩)], vt⟩, ⟨42, #[.pointer (some ⟨w.heap.size, 0, none⟩), .pointer (some ⟨w.heap.size + 1, 0, none⟩)], vb⟩, ⟨45, #[.pointer (some ⟨w.heap.size, 0, none⟩), .pointer (some ⟨w.heap.size + 1, 0, none⟩)], vh⟩] := by
      subst hZ
      exact fns_at _ _ _ _ rfl
    clear hZ
    have HA := Lib.hid (l_all Z W1.heap.size 3 _ (by simp) (Fn.three
      ⟨enters_of Tryd.func39 (by kernel_rfl) rfl, fun V hV => HT.out V (HS.out.keep ((hn.trans nZ).trans hV)) ((K0.out.keep nZ).keep hV) (hV.keep (nZ.keep Q0.out)) (hV.keep (nZ.keep Q1.out)) (hV.keep (nZ.keep Q2.out))⟩
      ⟨enters_of Tryd.func42 (by kernel_rfl) rfl, fun V hV => HB.out V (HS.out.keep ((hn.trans nZ).trans hV)) ((K0.out.keep nZ).keep hV) (hV.keep (nZ.keep Q0.out)) (hV.keep (nZ.keep Q1.out)) (hV.keep (nZ.keep Q2.out))⟩
      ⟨enters_of Tryd.func45 (by kernel_rfl) rfl, fun V hV => HH.out V (HS.out.keep ((hn.trans nZ).trans hV)) ((K0.out.keep nZ).keep hV) (hV.keep (nZ.keep Q0.out)) (hV.keep (nZ.keep Q1.out)) (hV.keep (nZ.keep Q2.out))⟩) Z (New.refl _) hat)
    replace hn := hn.trans nZ
    simp only [List.all_cons, List.all_nil, Bool.and_true] at HA
    obtain ⟨b, hb⟩ : ∃ b, b = (vt && (vb && vh)) := ⟨_, rfl⟩
    rw [← hb] at HA
    have HVb : Hid (v = if b = true then 0 else 2) := by
      show v = _
      rw [HV.out, hb]
      simp [Bool.and_eq_true]
    clear hat nZ K0 Q0 Q1 Q2 HT HB HH HV HS hb
    refine (HA.out).mono ?_
    rintro e W2 ⟨rfl, n1⟩
    replace hn := hn.trans n1
    cases b
    · have HV : Hid (v = 2) := HVb.out
      go_wp2_with fail
      go_ret
      rw [HV.out]
      exact ⟨rfl, hn⟩
    · have HV : Hid (v = 0) := HVb.out
      go_wp2_with fail
      go_ret
      rw [HV.out]
      exact ⟨rfl, hn⟩

end Go.Proofs.YtdbhlepbaepngaaDoor
