import Derived.Test.YtonngfogbnfbnaaGreatSoIBZ8
import Derived.Test.YtonngfogbnfbnaaGreatLoose
import Derived.Test.YtonngfogbnfbnaaGreatSoCOZ8
import Derived.Test.YtonngfogbnfbnaaGreatSoJTZ8
import Derived.Test.YtonngfogbnfbnaaGreatSoJHZ8
import Derived.Test.YtonngfogbnfbnaaGreatSoCEZ8
import Derived.Test.YtonngfogbnfbnaaGreatSoCKZ8
import Derived.Test.YtonngfogbnfbnaaGreatSoABZ8

/- Package soup: Tri, Box, Hop. -/
namespace Go.Proofs.YtonngfogbnfbnaaGreat
open Go.RowKit
set_option linter.unusedVariables false

def b_gotV (S : SoupV) (id z : Int) : Nat → Value
  | 0 => .agg #[.slice S.a0 S.ts.length S.c0, .slice S.a1 S.bs.length S.c1, .slice S.a2 S.hs.length S.c2]
  | 1 => .int .i64 id
  | 2 => .agg #[.func (.func 55) #[] #[], .func (.func 56) #[] #[], .int .i64 16, .int .i64 2, .func (.func 57) #[] #[]]
  | 3 => .tuple #[.agg #[.int .i64 (BoxR.got S.bs z).i, .int .i64 (BoxR.got S.bs z).x0, .int .i64 (BoxR.got S.bs z).z0, .int .i64 (BoxR.got S.bs z).x1, .int .i64 (BoxR.got S.bs z).z1, .int .i64 (BoxR.got S.bs z).y0, .int .i64 (BoxR.got S.bs z).y1, .int .i64 (BoxR.got S.bs z).ar], .bool (decide (0 ≤ z))]
  | 4 => .agg #[.int .i64 (BoxR.got S.bs z).i, .int .i64 (BoxR.got S.bs z).x0, .int .i64 (BoxR.got S.bs z).z0, .int .i64 (BoxR.got S.bs z).x1, .int .i64 (BoxR.got S.bs z).z1, .int .i64 (BoxR.got S.bs z).y0, .int .i64 (BoxR.got S.bs z).y1, .int .i64 (BoxR.got S.bs z).ar]
  | _ => .bool (decide (0 ≤ z))

set_option maxHeartbeats 4000000 in
set_option maxRecDepth 100000 in
theorem b_get (S : SoupV) (id z : Int) (hz : BoxR.IsFirst S.bs id z) (w : World) (hS : S.ok w) :
    Calls Tryz.prog 8 #[.agg #[.slice S.a0 S.ts.length S.c0, .slice S.a1 S.bs.length S.c1, .slice S.a2 S.hs.length S.c2], .int .i64 id] w fun e w' => e = .returned (.tuple #[.agg #[.int .i64 (BoxR.got S.bs z).i, .int .i64 (BoxR.got S.bs z).x0, .int .i64 (BoxR.got S.bs z).z0, .int .i64 (BoxR.got S.bs z).x1, .int .i64 (BoxR.got S.bs z).z1, .int .i64 (BoxR.got S.bs z).y0, .int .i64 (BoxR.got S.bs z).y1, .int .i64 (BoxR.got S.bs z).ar], .bool (decide (0 ≤ z))]) ∧ New w w' := by
  have HF := Lib.hid (fun W (n : New w W) => b_find S id z hz W (hS.keep n))
  have HK := Lib.hid (fun W => b_kind W)
  obtain ⟨V, hVV⟩ : ∃ V, V = b_gotV S id z := ⟨_, rfl⟩
  have E0 := congrFun hVV 0
  have E1 := congrFun hVV 1
  have E2 := congrFun hVV 2
  have E3 := congrFun hVV 3
  have E4 := congrFun hVV 4
  have E5 := congrFun hVV 5
  simp only [b_gotV] at E0 E1 E2 E3 E4 E5
  clear hVV hS hz
  generalize hg : BoxR.got S.bs z = r at *
  generalize hb : decide (0 ≤ z) = b at *
  clear hg hb
  go_enter Tryz.func8, Tryz.ntmps8
  go_upto_region 1 with fail
  generalize hW : World.alloc _ _ = W
  have hn : New w W := by subst hW; (repeat (first | (with_reducible exact New.refl _) | (with_reducible assumption) | ((with_reducible refine New.setB ?_ ?_ _); focus (first | omega | (simp; omega) | (simp; done))) | (with_reducible refine New.alloc ?_ _) | (with_reducible refine New.drew ?_) | (with_reducible refine New.drewN ?_ _) | (with_reducible refine New.hat ?_ _) | ((with_reducible apply New.snart); (with_reducible assumption))))
  have q0 : W.cell? ⟨w.heap.size, 0, none⟩ = some (.slice S.a0 S.ts.length S.c0) := by subst hW; go_simp
  have q1 : W.cell? ⟨w.heap.size, 1, none⟩ = some (.slice S.a1 S.bs.length S.c1) := by subst hW; go_simp
  have q2 : W.cell? ⟨w.heap.size, 2, none⟩ = some (.slice S.a2 S.hs.length S.c2) := by subst hW; go_simp
  have fz : Thr W (w.heap.size + 1) 8 := by subst hW; exact Thr.new _ _ _ _ (by simp)
  clear hW
  refine wp_region_loose 6 (fun i _ v => v = V i) (by kernel_rfl) (by kernel_rfl) (fun _ _ _ _ h _ => h) ?_ ?_
  · intro i o hi ho a' w' nn hr hd
    rcases (show i = 0 ∨ i = 1 ∨ i = 2 ∨ i = 3 ∨ i = 4 ∨ i = 5 by omega) with rfl | rfl | rfl | rfl | rfl | rfl <;> obtain rfl := Option.some.inj ho
    · have r2 : (a'.tmps[2]?).getD undef = .pointer (some ⟨w.heap.size, 0, none⟩) := (eval_get a' 2).symm.trans (hr 2 (by kernel_rfl))
      have x0 := nn.keep q0
      have x1 := nn.keep q1
      have x2 := nn.keep q2
      exact yields_value (V 0) (by rw [E0]; go_simp) ⟨New.refl _, rfl⟩
    · have r2 : (a'.tmps[1]?).getD undef = .int .i64 id := (eval_get a' 1).symm.trans (hr 1 (by kernel_rfl))
      exact yields_value (V 1) (by rw [E1]; go_simp) ⟨New.refl _, rfl⟩
    · exact yields_enter 24 #[] (by go_simp) ((HK.out _).mono fun e w'' ⟨he, hn⟩ => ⟨_, he, hn, E2.symm⟩)
    · have r6 : (a'.tmps[6]?).getD undef = _ := (eval_get a' 6).symm.trans <| (hd 0 6 (by omega) (by kernel_rfl) (by kernel_rfl)).trans E0
      have r7 : (a'.tmps[7]?).getD undef = _ := (eval_get a' 7).symm.trans <| (hd 1 7 (by omega) (by kernel_rfl) (by kernel_rfl)).trans E1
      have r8 : (a'.tmps[8]?).getD undef = _ := (eval_get a' 8).symm.trans <| (hd 2 8 (by omega) (by kernel_rfl) (by kernel_rfl)).trans E2
      exact yields_enter 23 #[.agg #[.slice S.a0 S.ts.length S.c0, .slice S.a1 S.bs.length S.c1, .slice S.a2 S.hs.length S.c2], .int .i64 id, .agg #[.func (.func 55) #[] #[], .func (.func 56) #[] #[], .int .i64 16, .int .i64 2, .func (.func 57) #[] #[]]] (by go_simp) ((HF.out _ (hn.trans nn)).mono fun e w'' ⟨he, hn⟩ => ⟨_, he, hn, E3.symm⟩)
    · have r9 : (a'.tmps[9]?).getD undef = _ := (eval_get a' 9).symm.trans <| (hd 3 9 (by omega) (by kernel_rfl) (by kernel_rfl)).trans E3
      exact yields_value (V 4) (by rw [E4]; go_simp) ⟨New.refl _, rfl⟩
    · have r9 : (a'.tmps[9]?).getD undef = _ := (eval_get a' 9).symm.trans <| (hd 3 9 (by omega) (by kernel_rfl) (by kernel_rfl)).trans E3
      exact yields_value (V 5) (by rw [E5]; go_simp) ⟨New.refl _, rfl⟩
  · intro vs w' nn hv
    have e4 := (hv 4 (by omega)).trans E4
    have e5 := (hv 5 (by omega)).trans E5
    simp only [List.take_succ_cons, List.take_zero, List.drop_succ_cons, List.drop_zero, putL, Act.put, List.setIfInBounds_toArray, List.set_cons_zero, List.set_cons_succ, Nat.reduceAdd, Nat.zero_add]
    rw [e4, e5]
    clear hv e4 e5 HF HK E0 E1 E2 E3 E4 E5 q0 q1 q2
    go_wp2_with (refine wpList_store_row rfl 39 _ _ rfl _ _ rfl rfl (fz.keep nn) (by kernel_rfl) (BoxR.enc_one r) (fun Z nZ kZ cZ => ?_))
    have nz := nZ w (hn.trans nn) (by omega)
    obtain ⟨r0, r1, r2, r3, r4, r5, r6, r7⟩ := BoxR.at (x := r) cZ
    clear nZ kZ cZ
    refine bodyPost_ret (v := .tuple #[.agg #[.int .i64 r.i, .int .i64 r.x0, .int .i64 r.z0, .int .i64 r.x1, .int .i64 r.z1, .int .i64 r.y0, .int .i64 r.y1, .int .i64 r.ar], .bool b]) (by simp [results, Tryz.results8, go_sem, r0, r1, r2, r3, r4, r5, r6, r7]) rfl ?_
    exact ⟨rfl, nz⟩

end Go.Proofs.YtonngfogbnfbnaaGreat

/- Package soup: the law of what soups tell, over values. -/
namespace Go.Proofs.YtonngfogbnfbnaaGreat
open Go.RowKit
set_option linter.unusedVariables false
set_option linter.unusedSimpArgs false
set_option maxRecDepth 100000

theorem SoupV.same_of {S T : SoupV} {a : List TriR} {b : List BoxR} {c : List HopR} (h1 : S.ts = a) (h2 : S.bs = b) (h3 : S.hs = c) (k1 : T.ts = a) (k2 : T.bs = b) (k3 : T.hs = c) : sameS S T = true := sameS_iff.2 ⟨h1.trans k1.symm, h2.trans k2.symm, h3.trans k3.symm⟩

set_option maxHeartbeats 20000000 in
theorem l_tells (C : CfgR) (S O : SoupV) (id kind : Int) (w : World) (hS : S.ok w) (hO : O.ok w) :
    Calls Tryz.prog 3 #[.agg #[.int .i64 C.cl, .int .i64 C.cb, .int .i64 C.ht, .int .i64 C.ri, .int .i64 C.ru, .int .i64 C.wd, .int .i64 C.dp], .agg #[.slice S.a0 S.ts.length S.c0, .slice S.a1 S.bs.length S.c1, .slice S.a2 S.hs.length S.c2], .agg #[.slice O.a0 O.ts.length O.c0, .slice O.a1 O.bs.length O.c1, .slice O.a2 O.hs.length O.c2], .int .i64 id, .int .i64 kind] w fun e w' => e = .returned (.bool true) ∧ New w w' := by
  have HG := Lib.hid (fun W (n : New w W) => s_great S W (hS.keep n))
  have HK := Lib.hid (fun W (n : New w W) => s_great O W (hO.keep n))
  have HW := Lib.hid s_wakes
  cases hg : S.great
  rotate_left
  · rw [hg] at HG
    clear hg hS hO HK
    go_enter Tryz.func3, Tryz.ntmps3
    go_wp2_with fail
    generalize hW : World.alloc _ _ = W
    have hn : New w W := by subst hW; (repeat (first | (with_reducible exact New.refl _) | (with_reducible assumption) | ((with_reducible refine New.setB ?_ ?_ _); focus (first | omega | (simp; omega) | (simp; done))) | (with_reducible refine New.alloc ?_ _) | (with_reducible refine New.drew ?_) | (with_reducible refine New.drewN ?_ _) | (with_reducible refine New.hat ?_ _) | ((with_reducible apply New.snart); (with_reducible assumption))))
    clear hW
    refine (HG.out _ hn).mono ?_
    rintro e W1 ⟨rfl, n1⟩
    go_wp2_with fail
    refine (HW.out _).mono ?_
    rintro e W2 ⟨rfl, n2⟩
    go_wp2_with fail
    go_ret
    exact ⟨rfl, (hn.trans n1).trans n2⟩
  rw [hg] at HG
  have hf := SoupV.few_of hg
  clear hg
  cases hg : O.great
  rotate_left
  · rw [hg] at HK
    clear hg hS hO hf
    go_enter Tryz.func3, Tryz.ntmps3
    go_wp2_with fail
    refine Calls.at (fun W hW => ?_)
    have g0 : W.cell? ⟨w.heap.size, 0, none⟩ = some (.int .i64 C.cl) := by subst hW; go_simp
    have g1 : W.cell? ⟨w.heap.size, 1, none⟩ = some (.int .i64 C.cb) := by subst hW; go_simp
    have g2 : W.cell? ⟨w.heap.size, 2, none⟩ = some (.int .i64 C.ht) := by subst hW; go_simp
    have g3 : W.cell? ⟨w.heap.size, 3, none⟩ = some (.int .i64 C.ri) := by subst hW; go_simp
    have g4 : W.cell? ⟨w.heap.size, 4, none⟩ = some (.int .i64 C.ru) := by subst hW; go_simp
    have g5 : W.cell? ⟨w.heap.size, 5, none⟩ = some (.int .i64 C.wd) := by subst hW; go_simp
    have g6 : W.cell? ⟨w.heap.size, 6, none⟩ = some (.int .i64 C.dp) := by subst hW; go_simp
    have q0 : W.cell? ⟨w.heap.size + 1, 0, none⟩ = some (.slice S.a0 S.ts.length S.c0) := by subst hW; go_simp
    have q1 : W.cell? ⟨w.heap.size + 1, 1, none⟩ = some (.slice S.a1 S.bs.length S.c1) := by subst hW; go_simp
    have q2 : W.cell? ⟨w.heap.size + 1, 2, none⟩ = some (.slice S.a2 S.hs.length S.c2) := by subst hW; go_simp
    have p0 : W.cell? ⟨w.heap.size + 1 + 1, 0, none⟩ = some (.slice O.a0 O.ts.length O.c0) := by subst hW; go_simp
    have p1 : W.cell? ⟨w.heap.size + 1 + 1, 1, none⟩ = some (.slice O.a1 O.bs.length O.c1) := by subst hW; go_simp
    have p2 : W.cell? ⟨w.heap.size + 1 + 1, 2, none⟩ = some (.slice O.a2 O.hs.length O.c2) := by subst hW; go_simp
    have hn : New w W := by subst hW; (repeat (first | (with_reducible exact New.refl _) | (with_reducible assumption) | ((with_reducible refine New.setB ?_ ?_ _); focus (first | omega | (simp; omega) | (simp; done))) | (with_reducible refine New.alloc ?_ _) | (with_reducible refine New.drew ?_) | (with_reducible refine New.drewN ?_ _) | (with_reducible refine New.hat ?_ _) | ((with_reducible apply New.snart); (with_reducible assumption))))
    clear hW
    refine (HG.out _ hn).mono ?_
    rintro e W1 ⟨rfl, n1⟩
    replace g0 := New.keep n1 g0
    replace g1 := New.keep n1 g1
    replace g2 := New.keep n1 g2
    replace g3 := New.keep n1 g3
    replace g4 := New.keep n1 g4
    replace g5 := New.keep n1 g5
    replace g6 := New.keep n1 g6
    replace q0 := New.keep n1 q0
    replace q1 := New.keep n1 q1
    replace q2 := New.keep n1 q2
    replace p0 := New.keep n1 p0
    replace p1 := New.keep n1 p1
    replace p2 := New.keep n1 p2
    replace hn := hn.trans n1
    clear n1
    go_wp2_with fail
    refine (HK.out _ hn).mono ?_
    rintro e W2 ⟨rfl, n1⟩
    go_wp2_with fail
    refine (HW.out _).mono ?_
    rintro e W3 ⟨rfl, n2⟩
    go_wp2_with fail
    go_ret
    exact ⟨rfl, (hn.trans n1).trans n2⟩
  rw [hg] at HK
  have hfO := SoupV.few_of hg
  clear hg
  obtain ⟨zt, hzt⟩ := TriR.isFirst S.ts id
  obtain ⟨zb, hzb⟩ := BoxR.isFirst S.bs id
  obtain ⟨zh, hzh⟩ := HopR.isFirst S.hs id
  have A1 := Lib.hid (fun W (n : New w W) => t_get S id zt hzt W (hS.keep n))
  have A2 := Lib.hid (fun W (n : New w W) => u_tget S id zt hzt W (hS.keep n))
  have A3 := Lib.hid (fun W (n : New w W) => b_get S id zb hzb W (hS.keep n))
  have A4 := Lib.hid (fun W (n : New w W) => u_bget S id zb hzb W (hS.keep n))
  have A5 := Lib.hid (fun W (n : New w W) => h_get S id zh hzh W (hS.keep n))
  have A6 := Lib.hid (fun W (n : New w W) => u_hget S id zh hzh W (hS.keep n))
  generalize TriR.got S.ts zt = rt at *
  generalize BoxR.got S.bs zb = rb at *
  generalize HopR.got S.hs zh = rh at *
  generalize decide (0 ≤ zt) = bt at *
  generalize decide (0 ≤ zb) = bb at *
  generalize decide (0 ≤ zh) = bh at *
  clear hzt hzb hzh
  obtain ⟨T, B, H, er, hd, hD⟩ := drop_any S kind id hf
  have A7 := Lib.hid (fun W (n : New w W) => hD W (hS.keep n))
  have A8 := Lib.hid (fun W (n : New w W) => u_drop S hf hd W (hS.keep n))
  have A9 := Lib.hid (fun W (n : New w W) => s_check C S W (hS.keep n))
  have A10 := Lib.hid (fun W (n : New w W) => u_check C S W (hS.keep n))
  have A11 := Lib.hid (fun W (n : New w W) => s_same S O W (hS.keep n) (hO.keep n) hf hfO)
  have A12 := Lib.hid (fun W (n : New w W) => u_same S O W (hS.keep n) (hO.keep n))
  have A13 := Lib.hid (fun W (n : New w W) => s_same S S W (hS.keep n) (hS.keep n) hf hf)
  rw [show sameS S S = true from sameS_iff.2 ⟨rfl, rfl, rfl⟩] at A13
  generalize S.err C = se at *
  generalize sameS S O = ss at *
  clear hD hd hS hO hf hfO
  have E1 := fun W => t_neq W rt rt
  have E2 := fun W => b_neq W rb rb
  have E3 := fun W => h_neq W rh rh
  rw [(TriR.eqB_iff rt rt).2 rfl] at E1
  rw [(BoxR.eqB_iff rb rb).2 rfl] at E2
  rw [(HopR.eqB_iff rh rh).2 rfl] at E3
  have b1 : (bt != bt) = false := by simp
  have b2 : (bb != bb) = false := by simp
  have b3 : (bh != bh) = false := by simp
  have b4 : (er == er) = true := by simp
  have b5 : (se == se) = true := by simp
  have b6 : (ss == ss) = true := by simp
  go_enter Tryz.func3, Tryz.ntmps3
  go_wp2_with fail
  refine Calls.at (fun W hW => ?_)
  have g0 : W.cell? ⟨w.heap.size, 0, none⟩ = some (.int .i64 C.cl) := by subst hW; go_simp
  have g1 : W.cell? ⟨w.heap.size, 1, none⟩ = some (.int .i64 C.cb) := by subst hW; go_simp
  have g2 : W.cell? ⟨w.heap.size, 2, none⟩ = some (.int .i64 C.ht) := by subst hW; go_simp
  have g3 : W.cell? ⟨w.heap.size, 3, none⟩ = some (.int .i64 C.ri) := by subst hW; go_simp
  have g4 : W.cell? ⟨w.heap.size, 4, none⟩ = some (.int .i64 C.ru) := by subst hW; go_simp
  have g5 : W.cell? ⟨w.heap.size, 5, none⟩ = some (.int .i64 C.wd) := by subst hW; go_simp
  have g6 : W.cell? ⟨w.heap.size, 6, none⟩ = some (.int .i64 C.dp) := by subst hW; go_simp
  have q0 : W.cell? ⟨w.heap.size + 1, 0, none⟩ = some (.slice S.a0 S.ts.length S.c0) := by subst hW; go_simp
  have q1 : W.cell? ⟨w.heap.size + 1, 1, none⟩ = some (.slice S.a1 S.bs.length S.c1) := by subst hW; go_simp
  have q2 : W.cell? ⟨w.heap.size + 1, 2, none⟩ = some (.slice S.a2 S.hs.length S.c2) := by subst hW; go_simp
  have p0 : W.cell? ⟨w.heap.size + 1 + 1, 0, none⟩ = some (.slice O.a0 O.ts.length O.c0) := by subst hW; go_simp
  have p1 : W.cell? ⟨w.heap.size + 1 + 1, 1, none⟩ = some (.slice O.a1 O.bs.length O.c1) := by subst hW; go_simp
  have p2 : W.cell? ⟨w.heap.size + 1 + 1, 2, none⟩ = some (.slice O.a2 O.hs.length O.c2) := by subst hW; go_simp
  have hn : New w W := by subst hW; (repeat (first | (with_reducible exact New.refl _) | (with_reducible assumption) | ((with_reducible refine New.setB ?_ ?_ _); focus (first | omega | (simp; omega) | (simp; done))) | (with_reducible refine New.alloc ?_ _) | (with_reducible refine New.drew ?_) | (with_reducible refine New.drewN ?_ _) | (with_reducible refine New.hat ?_ _) | ((with_reducible apply New.snart); (with_reducible assumption))))
  clear hW
  refine (HG.out _ hn).mono ?_
  rintro e W1 ⟨rfl, n1⟩
  replace g0 := New.keep n1 g0
  replace g1 := New.keep n1 g1
  replace g2 := New.keep n1 g2
  replace g3 := New.keep n1 g3
  replace g4 := New.keep n1 g4
  replace g5 := New.keep n1 g5
  replace g6 := New.keep n1 g6
  replace q0 := New.keep n1 q0
  replace q1 := New.keep n1 q1
  replace q2 := New.keep n1 q2
  replace p0 := New.keep n1 p0
  replace p1 := New.keep n1 p1
  replace p2 := New.keep n1 p2
  replace hn := hn.trans n1
  clear n1 HG
  go_wp2_with fail
  refine (HK.out _ hn).mono ?_
  rintro e W2 ⟨rfl, n1⟩
  replace g0 := New.keep n1 g0
  replace g1 := New.keep n1 g1
  replace g2 := New.keep n1 g2
  replace g3 := New.keep n1 g3
  replace g4 := New.keep n1 g4
  replace g5 := New.keep n1 g5
  replace g6 := New.keep n1 g6
  replace q0 := New.keep n1 q0
  replace q1 := New.keep n1 q1
  replace q2 := New.keep n1 q2
  replace p0 := New.keep n1 p0
  replace p1 := New.keep n1 p1
  replace p2 := New.keep n1 p2
  replace hn := hn.trans n1
  clear n1 HK
  go_wp2_with fail
  refine (A1.out _ hn).mono ?_
  rintro e Y1 ⟨rfl, n1⟩
  replace g0 := New.keep n1 g0
  replace g1 := New.keep n1 g1
  replace g2 := New.keep n1 g2
  replace g3 := New.keep n1 g3
  replace g4 := New.keep n1 g4
  replace g5 := New.keep n1 g5
  replace g6 := New.keep n1 g6
  replace q0 := New.keep n1 q0
  replace q1 := New.keep n1 q1
  replace q2 := New.keep n1 q2
  replace p0 := New.keep n1 p0
  replace p1 := New.keep n1 p1
  replace p2 := New.keep n1 p2
  replace hn := hn.trans n1
  clear n1 A1
  have sz0 : w.heap.size < Y1.heap.size := cell_lt g0
  have sz1 : w.heap.size + 1 < Y1.heap.size := cell_lt q0
  have sz2 : w.heap.size + 1 + 1 < Y1.heap.size := cell_lt p0
  go_wp2_with fail
  refine Calls.at (fun V2 hV => ?_)
  have n1 : New Y1 V2 := by subst hV; (repeat (first | (with_reducible exact New.refl _) | (with_reducible assumption) | ((with_reducible refine New.setB ?_ ?_ _); focus (first | omega | (simp; omega) | (simp; done))) | (with_reducible refine New.alloc ?_ _) | (with_reducible refine New.drew ?_) | (with_reducible refine New.drewN ?_ _) | (with_reducible refine New.hat ?_ _) | ((with_reducible apply New.snart); (with_reducible assumption))))
  have k1c0 : V2.cell? ⟨Y1.heap.size, 0, none⟩ = some (.int .i64 rt.i) := by subst hV; go_simp
  have k1c1 : V2.cell? ⟨Y1.heap.size, 1, none⟩ = some (.int .i64 rt.x0) := by subst hV; go_simp
  have k1c2 : V2.cell? ⟨Y1.heap.size, 2, none⟩ = some (.int .i64 rt.y0) := by subst hV; go_simp
  have k1c3 : V2.cell? ⟨Y1.heap.size, 3, none⟩ = some (.int .i64 rt.z0) := by subst hV; go_simp
  have k1c4 : V2.cell? ⟨Y1.heap.size, 4, none⟩ = some (.int .i64 rt.x1) := by subst hV; go_simp
  have k1c5 : V2.cell? ⟨Y1.heap.size, 5, none⟩ = some (.int .i64 rt.y1) := by subst hV; go_simp
  have k1c6 : V2.cell? ⟨Y1.heap.size, 6, none⟩ = some (.int .i64 rt.z1) := by subst hV; go_simp
  have k1c7 : V2.cell? ⟨Y1.heap.size, 7, none⟩ = some (.int .i64 rt.x2) := by subst hV; go_simp
  have k1c8 : V2.cell? ⟨Y1.heap.size, 8, none⟩ = some (.int .i64 rt.y2) := by subst hV; go_simp
  have k1c9 : V2.cell? ⟨Y1.heap.size, 9, none⟩ = some (.int .i64 rt.z2) := by subst hV; go_simp
  clear hV
  clear sz0
  clear sz1
  clear sz2
  replace g0 := New.keep n1 g0
  replace g1 := New.keep n1 g1
  replace g2 := New.keep n1 g2
  replace g3 := New.keep n1 g3
  replace g4 := New.keep n1 g4
  replace g5 := New.keep n1 g5
  replace g6 := New.keep n1 g6
  replace q0 := New.keep n1 q0
  replace q1 := New.keep n1 q1
  replace q2 := New.keep n1 q2
  replace p0 := New.keep n1 p0
  replace p1 := New.keep n1 p1
  replace p2 := New.keep n1 p2
  replace hn := hn.trans n1
  clear n1
  refine (A2.out _ hn).mono ?_
  rintro e Y2 ⟨rfl, n1⟩
  replace g0 := New.keep n1 g0
  replace g1 := New.keep n1 g1
  replace g2 := New.keep n1 g2
  replace g3 := New.keep n1 g3
  replace g4 := New.keep n1 g4
  replace g5 := New.keep n1 g5
  replace g6 := New.keep n1 g6
  replace q0 := New.keep n1 q0
  replace q1 := New.keep n1 q1
  replace q2 := New.keep n1 q2
  replace p0 := New.keep n1 p0
  replace p1 := New.keep n1 p1
  replace p2 := New.keep n1 p2
  replace k1c0 := New.keep n1 k1c0
  replace k1c1 := New.keep n1 k1c1
  replace k1c2 := New.keep n1 k1c2
  replace k1c3 := New.keep n1 k1c3
  replace k1c4 := New.keep n1 k1c4
  replace k1c5 := New.keep n1 k1c5
  replace k1c6 := New.keep n1 k1c6
  replace k1c7 := New.keep n1 k1c7
  replace k1c8 := New.keep n1 k1c8
  replace k1c9 := New.keep n1 k1c9
  replace hn := hn.trans n1
  clear n1 A2
  have sz0 : Y1.heap.size < Y2.heap.size := cell_lt k1c0
  have sz1 : w.heap.size < Y2.heap.size := cell_lt g0
  have sz2 : w.heap.size + 1 < Y2.heap.size := cell_lt q0
  have sz3 : w.heap.size + 1 + 1 < Y2.heap.size := cell_lt p0
  go_wp2_with fail
  refine Calls.at (fun V3 hV => ?_)
  have n1 : New Y2 V3 := by subst hV; (repeat (first | (with_reducible exact New.refl _) | (with_reducible assumption) | ((with_reducible refine New.setB ?_ ?_ _); focus (first | omega | (simp; omega) | (simp; done))) | (with_reducible refine New.alloc ?_ _) | (with_reducible refine New.drew ?_) | (with_reducible refine New.drewN ?_ _) | (with_reducible refine New.hat ?_ _) | ((with_reducible apply New.snart); (with_reducible assumption))))
  have k2c0 : V3.cell? ⟨Y2.heap.size, 0, none⟩ = some (.int .i64 rt.i) := by subst hV; go_simp
  have k2c1 : V3.cell? ⟨Y2.heap.size, 1, none⟩ = some (.int .i64 rt.x0) := by subst hV; go_simp
  have k2c2 : V3.cell? ⟨Y2.heap.size, 2, none⟩ = some (.int .i64 rt.y0) := by subst hV; go_simp
  have k2c3 : V3.cell? ⟨Y2.heap.size, 3, none⟩ = some (.int .i64 rt.z0) := by subst hV; go_simp
  have k2c4 : V3.cell? ⟨Y2.heap.size, 4, none⟩ = some (.int .i64 rt.x1) := by subst hV; go_simp
  have k2c5 : V3.cell? ⟨Y2.heap.size, 5, none⟩ = some (.int .i64 rt.y1) := by subst hV; go_simp
  have k2c6 : V3.cell? ⟨Y2.heap.size, 6, none⟩ = some (.int .i64 rt.z1) := by subst hV; go_simp
  have k2c7 : V3.cell? ⟨Y2.heap.size, 7, none⟩ = some (.int .i64 rt.x2) := by subst hV; go_simp
  have k2c8 : V3.cell? ⟨Y2.heap.size, 8, none⟩ = some (.int .i64 rt.y2) := by subst hV; go_simp
  have k2c9 : V3.cell? ⟨Y2.heap.size, 9, none⟩ = some (.int .i64 rt.z2) := by subst hV; go_simp
  clear hV
  clear sz0
  clear sz1
  clear sz2
  clear sz3
  replace g0 := New.keep n1 g0
  replace g1 := New.keep n1 g1
  replace g2 := New.keep n1 g2
  replace g3 := New.keep n1 g3
  replace g4 := New.keep n1 g4
  replace g5 := New.keep n1 g5
  replace g6 := New.keep n1 g6
  replace q0 := New.keep n1 q0
  replace q1 := New.keep n1 q1
  replace q2 := New.keep n1 q2
  replace p0 := New.keep n1 p0
  replace p1 := New.keep n1 p1
  replace p2 := New.keep n1 p2
  replace k1c0 := New.keep n1 k1c0
  replace k1c1 := New.keep n1 k1c1
  replace k1c2 := New.keep n1 k1c2
  replace k1c3 := New.keep n1 k1c3
  replace k1c4 := New.keep n1 k1c4
  replace k1c5 := New.keep n1 k1c5
  replace k1c6 := New.keep n1 k1c6
  replace k1c7 := New.keep n1 k1c7
  replace k1c8 := New.keep n1 k1c8
  replace k1c9 := New.keep n1 k1c9
  replace hn := hn.trans n1
  clear n1
  refine (A3.out _ hn).mono ?_
  rintro e Y3 ⟨rfl, n1⟩
  replace g0 := New.keep n1 g0
  replace g1 := New.keep n1 g1
  replace g2 := New.keep n1 g2
  replace g3 := New.keep n1 g3
  replace g4 := New.keep n1 g4
  replace g5 := New.keep n1 g5
  replace g6 := New.keep n1 g6
  replace q0 := New.keep n1 q0
  replace q1 := New.keep n1 q1
  replace q2 := New.keep n1 q2
  replace p0 := New.keep n1 p0
  replace p1 := New.keep n1 p1
  replace p2 := New.keep n1 p2
  replace k1c0 := New.keep n1 k1c0
  replace k1c1 := New.keep n1 k1c1
  replace k1c2 := New.keep n1 k1c2
  replace k1c3 := New.keep n1 k1c3
  replace k1c4 := New.keep n1 k1c4
  replace k1c5 := New.keep n1 k1c5
  replace k1c6 := New.keep n1 k1c6
  replace k1c7 := New.keep n1 k1c7
  replace k1c8 := New.keep n1 k1c8
  replace k1c9 := New.keep n1 k1c9
  replace k2c0 := New.keep n1 k2c0
  replace k2c1 := New.keep n1 k2c1
  replace k2c2 := New.keep n1 k2c2
  replace k2c3 := New.keep n1 k2c3
  replace k2c4 := New.keep n1 k2c4
  replace k2c5 := New.keep n1 k2c5
  replace k2c6 := New.keep n1 k2c6
  replace k2c7 := New.keep n1 k2c7
  replace k2c8 := New.keep n1 k2c8
  replace k2c9 := New.keep n1 k2c9
  replace hn := hn.trans n1
  clear n1 A3
  have sz0 : Y1.heap.size < Y3.heap.size := cell_lt k1c0
  have sz1 : Y2.heap.size < Y3.heap.size := cell_lt k2c0
  have sz2 : w.heap.size < Y3.heap.size := cell_lt g0
  have sz3 : w.heap.size + 1 < Y3.heap.size := cell_lt q0
  have sz4 : w.heap.size + 1 + 1 < Y3.heap.size := cell_lt p0
  go_wp2_with fail
  refine Calls.at (fun V4 hV => ?_)
  have n1 : New Y3 V4 := by subst hV; (repeat (first | (with_reducible exact New.refl _) | (with_reducible assumption) | ((with_reducible refine New.setB ?_ ?_ _); focus (first | omega | (simp; omega) | (simp; done))) | (with_reducible refine New.alloc ?_ _) | (with_reducible refine New.drew ?_) | (with_reducible refine New.drewN ?_ _) | (with_reducible refine New.hat ?_ _) | ((with_reducible apply New.snart); (with_reducible assumption))))
  have k3c0 : V4.cell? ⟨Y3.heap.size, 0, none⟩ = some (.int .i64 rb.i) := by subst hV; go_simp
  have k3c1 : V4.cell? ⟨Y3.heap.size, 1, none⟩ = some (.int .i64 rb.x0) := by subst hV; go_simp
  have k3c2 : V4.cell? ⟨Y3.heap.size, 2, none⟩ = some (.int .i64 rb.z0) := by subst hV; go_simp
  have k3c3 : V4.cell? ⟨Y3.heap.size, 3, none⟩ = some (.int .i64 rb.x1) := by subst hV; go_simp
  have k3c4 : V4.cell? ⟨Y3.heap.size, 4, none⟩ = some (.int .i64 rb.z1) := by subst hV; go_simp
  have k3c5 : V4.cell? ⟨Y3.heap.size, 5, none⟩ = some (.int .i64 rb.y0) := by subst hV; go_simp
  have k3c6 : V4.cell? ⟨Y3.heap.size, 6, none⟩ = some (.int .i64 rb.y1) := by subst hV; go_simp
  have k3c7 : V4.cell? ⟨Y3.heap.size, 7, none⟩ = some (.int .i64 rb.ar) := by subst hV; go_simp
  clear hV
  clear sz0
  clear sz1
  clear sz2
  clear sz3
  clear sz4
  replace g0 := New.keep n1 g0
  replace g1 := New.keep n1 g1
  replace g2 := New.keep n1 g2
  replace g3 := New.keep n1 g3
  replace g4 := New.keep n1 g4
  replace g5 := New.keep n1 g5
  replace g6 := New.keep n1 g6
  replace q0 := New.keep n1 q0
  replace q1 := New.keep n1 q1
  replace q2 := New.keep n1 q2
  replace p0 := New.keep n1 p0
  replace p1 := New.keep n1 p1
  replace p2 := New.keep n1 p2
  replace k1c0 := New.keep n1 k1c0
  replace k1c1 := New.keep n1 k1c1
  replace k1c2 := New.keep n1 k1c2
  replace k1c3 := New.keep n1 k1c3
  replace k1c4 := New.keep n1 k1c4
  replace k1c5 := New.keep n1 k1c5
  replace k1c6 := New.keep n1 k1c6
  replace k1c7 := New.keep n1 k1c7
  replace k1c8 := New.keep n1 k1c8
  replace k1c9 := New.keep n1 k1c9
  replace k2c0 := New.keep n1 k2c0
  replace k2c1 := New.keep n1 k2c1
  replace k2c2 := New.keep n1 k2c2
  replace k2c3 := New.keep n1 k2c3
  replace k2c4 := New.keep n1 k2c4
  replace k2c5 := New.keep n1 k2c5
  replace k2c6 := New.keep n1 k2c6
  replace k2c7 := New.keep n1 k2c7
  replace k2c8 := New.keep n1 k2c8
  replace k2c9 := New.keep n1 k2c9
  replace hn := hn.trans n1
  clear n1
  refine (A4.out _ hn).mono ?_
  rintro e Y4 ⟨rfl, n1⟩
  replace g0 := New.keep n1 g0
  replace g1 := New.keep n1 g1
  replace g2 := New.keep n1 g2
  replace g3 := New.keep n1 g3
  replace g4 := New.keep n1 g4
  replace g5 := New.keep n1 g5
  replace g6 := New.keep n1 g6
  replace q0 := New.keep n1 q0
  replace q1 := New.keep n1 q1
  replace q2 := New.keep n1 q2
  replace p0 := New.keep n1 p0
  replace p1 := New.keep n1 p1
  replace p2 := New.keep n1 p2
  replace k1c0 := New.keep n1 k1c0
  replace k1c1 := New.keep n1 k1c1
  replace k1c2 := New.keep n1 k1c2
  replace k1c3 := New.keep n1 k1c3
  replace k1c4 := New.keep n1 k1c4
  replace k1c5 := New.keep n1 k1c5
  replace k1c6 := New.keep n1 k1c6
  replace k1c7 := New.keep n1 k1c7
  replace k1c8 := New.keep n1 k1c8
  replace k1c9 := New.keep n1 k1c9
  replace k2c0 := New.keep n1 k2c0
  replace k2c1 := New.keep n1 k2c1
  replace k2c2 := New.keep n1 k2c2
  replace k2c3 := New.keep n1 k2c3
  replace k2c4 := New.keep n1 k2c4
  replace k2c5 := New.keep n1 k2c5
  replace k2c6 := New.keep n1 k2c6
  replace k2c7 := New.keep n1 k2c7
  replace k2c8 := New.keep n1 k2c8
  replace k2c9 := New.keep n1 k2c9
  replace k3c0 := New.keep n1 k3c0
  replace k3c1 := New.keep n1 k3c1
  replace k3c2 := New.keep n1 k3c2
  replace k3c3 := New.keep n1 k3c3
  replace k3c4 := New.keep n1 k3c4
  replace k3c5 := New.keep n1 k3c5
  replace k3c6 := New.keep n1 k3c6
  replace k3c7 := New.keep n1 k3c7
  replace hn := hn.trans n1
  clear n1 A4
  have sz0 : Y1.heap.size < Y4.heap.size := cell_lt k1c0
  have sz1 : Y2.heap.size < Y4.heap.size := cell_lt k2c0
  have sz2 : Y3.heap.size < Y4.heap.size := cell_lt k3c0
  have sz3 : w.heap.size < Y4.heap.size := cell_lt g0
  have sz4 : w.heap.size + 1 < Y4.heap.size := cell_lt q0
  have sz5 : w.heap.size + 1 + 1 < Y4.heap.size := cell_lt p0
  go_wp2_with fail
  refine Calls.at (fun V5 hV => ?_)
  have n1 : New Y4 V5 := by subst hV; (repeat (first | (with_reducible exact New.refl _) | (with_reducible assumption) | ((with_reducible refine New.setB ?_ ?_ _); focus (first | omega | (simp; omega) | (simp; done))) | (with_reducible refine New.alloc ?_ _) | (with_reducible refine New.drew ?_) | (with_reducible refine New.drewN ?_ _) | (with_reducible refine New.hat ?_ _) | ((with_reducible apply New.snart); (with_reducible assumption))))
  have k4c0 : V5.cell? ⟨Y4.heap.size, 0, none⟩ = some (.int .i64 rb.i) := by subst hV; go_simp
  have k4c1 : V5.cell? ⟨Y4.heap.size, 1, none⟩ = some (.int .i64 rb.x0) := by subst hV; go_simp
  have k4c2 : V5.cell? ⟨Y4.heap.size, 2, none⟩ = some (.int .i64 rb.z0) := by subst hV; go_simp
  have k4c3 : V5.cell? ⟨Y4.heap.size, 3, none⟩ = some (.int .i64 rb.x1) := by subst hV; go_simp
  have k4c4 : V5.cell? ⟨Y4.heap.size, 4, none⟩ = some (.int .i64 rb.z1) := by subst hV; go_simp
  have k4c5 : V5.cell? ⟨Y4.heap.size, 5, none⟩ = some (.int .i64 rb.y0) := by subst hV; go_simp
  have k4c6 : V5.cell? ⟨Y4.heap.size, 6, none⟩ = some (.int .i64 rb.y1) := by subst hV; go_simp
  have k4c7 : V5.cell? ⟨Y4.heap.size, 7, none⟩ = some (.int .i64 rb.ar) := by subst hV; go_simp
  clear hV
  clear sz0
  clear sz1
  clear sz2
  clear sz3
  clear sz4
  clear sz5
  replace g0 := New.keep n1 g0
  replace g1 := New.keep n1 g1
  replace g2 := New.keep n1 g2
  replace g3 := New.keep n1 g3
  replace g4 := New.keep n1 g4
  replace g5 := New.keep n1 g5
  replace g6 := New.keep n1 g6
  replace q0 := New.keep n1 q0
  replace q1 := New.keep n1 q1
  replace q2 := New.keep n1 q2
  replace p0 := New.keep n1 p0
  replace p1 := New.keep n1 p1
  replace p2 := New.keep n1 p2
  replace k1c0 := New.keep n1 k1c0
  replace k1c1 := New.keep n1 k1c1
  replace k1c2 := New.keep n1 k1c2
  replace k1c3 := New.keep n1 k1c3
  replace k1c4 := New.keep n1 k1c4
  replace k1c5 := New.keep n1 k1c5
  replace k1c6 := New.keep n1 k1c6
  replace k1c7 := New.keep n1 k1c7
  replace k1c8 := New.keep n1 k1c8
  replace k1c9 := New.keep n1 k1c9
  replace k2c0 := New.keep n1 k2c0
  replace k2c1 := New.keep n1 k2c1
  replace k2c2 := New.keep n1 k2c2
  replace k2c3 := New.keep n1 k2c3
  replace k2c4 := New.keep n1 k2c4
  replace k2c5 := New.keep n1 k2c5
  replace k2c6 := New.keep n1 k2c6
  replace k2c7 := New.keep n1 k2c7
  replace k2c8 := New.keep n1 k2c8
  replace k2c9 := New.keep n1 k2c9
  replace k3c0 := New.keep n1 k3c0
  replace k3c1 := New.keep n1 k3c1
  replace k3c2 := New.keep n1 k3c2
  replace k3c3 := New.keep n1 k3c3
  replace k3c4 := New.keep n1 k3c4
  replace k3c5 := New.keep n1 k3c5
  replace k3c6 := New.keep n1 k3c6
  replace k3c7 := New.keep n1 k3c7
  replace hn := hn.trans n1
  clear n1
  refine (A5.out _ hn).mono ?_
  rintro e Y5 ⟨rfl, n1⟩
  replace g0 := New.keep n1 g0
  replace g1 := New.keep n1 g1
  replace g2 := New.keep n1 g2
  replace g3 := New.keep n1 g3
  replace g4 := New.keep n1 g4
  replace g5 := New.keep n1 g5
  replace g6 := New.keep n1 g6
  replace q0 := New.keep n1 q0
  replace q1 := New.keep n1 q1
  replace q2 := New.keep n1 q2
  replace p0 := New.keep n1 p0
  replace p1 := New.keep n1 p1
  replace p2 := New.keep n1 p2
  replace k1c0 := New.keep n1 k1c0
  replace k1c1 := New.keep n1 k1c1
  replace k1c2 := New.keep n1 k1c2
  replace k1c3 := New.keep n1 k1c3
  replace k1c4 := New.keep n1 k1c4
  replace k1c5 := New.keep n1 k1c5
  replace k1c6 := New.keep n1 k1c6
  replace k1c7 := New.keep n1 k1c7
  replace k1c8 := New.keep n1 k1c8
  replace k1c9 := New.keep n1 k1c9
  replace k2c0 := New.keep n1 k2c0
  replace k2c1 := New.keep n1 k2c1
  replace k2c2 := New.keep n1 k2c2
  replace k2c3 := New.keep n1 k2c3
  replace k2c4 := New.keep n1 k2c4
  replace k2c5 := New.keep n1 k2c5
  replace k2c6 := New.keep n1 k2c6
  replace k2c7 := New.keep n1 k2c7
  replace k2c8 := New.keep n1 k2c8
  replace k2c9 := New.keep n1 k2c9
  replace k3c0 := New.keep n1 k3c0
  replace k3c1 := New.keep n1 k3c1
  replace k3c2 := New.keep n1 k3c2
  replace k3c3 := New.keep n1 k3c3
  replace k3c4 := New.keep n1 k3c4
  replace k3c5 := New.keep n1 k3c5
  replace k3c6 := New.keep n1 k3c6
  replace k3c7 := New.keep n1 k3c7
  replace k4c0 := New.keep n1 k4c0
  replace k4c1 := New.keep n1 k4c1
  replace k4c2 := New.keep n1 k4c2
  replace k4c3 := New.keep n1 k4c3
  replace k4c4 := New.keep n1 k4c4
  replace k4c5 := New.keep n1 k4c5
  replace k4c6 := New.keep n1 k4c6
  replace k4c7 := New.keep n1 k4c7
  replace hn := hn.trans n1
  clear n1 A5
  have sz0 : Y1.heap.size < Y5.heap.size := cell_lt k1c0
  have sz1 : Y2.heap.size < Y5.heap.size := cell_lt k2c0
  have sz2 : Y3.heap.size < Y5.heap.size := cell_lt k3c0
  have sz3 : Y4.heap.size < Y5.heap.size := cell_lt k4c0
  have sz4 : w.heap.size < Y5.heap.size := cell_lt g0
  have sz5 : w.heap.size + 1 < Y5.heap.size := cell_lt q0
  have sz6 : w.heap.size + 1 + 1 < Y5.heap.size := cell_lt p0
  go_wp2_with fail
  refine Calls.at (fun V6 hV => ?_)
  have n1 : New Y5 V6 := by subst hV; (repeat (first | (with_reducible exact New.refl _) | (with_reducible assumption) | ((with_reducible refine New.setB ?_ ?_ _); focus (first | omega | (simp; omega) | (simp; done))) | (with_reducible refine New.alloc ?_ _) | (with_reducible refine New.drew ?_) | (with_reducible refine New.drewN ?_ _) | (with_reducible refine New.hat ?_ _) | ((with_reducible apply New.snart); (with_reducible assumption))))
  have k5c0 : V6.cell? ⟨Y5.heap.size, 0, none⟩ = some (.int .i64 rh.i) := by subst hV; go_simp
  have k5c1 : V6.cell? ⟨Y5.heap.size, 1, none⟩ = some (.int .i64 rh.fx) := by subst hV; go_simp
  have k5c2 : V6.cell? ⟨Y5.heap.size, 2, none⟩ = some (.int .i64 rh.fz) := by subst hV; go_simp
  have k5c3 : V6.cell? ⟨Y5.heap.size, 3, none⟩ = some (.int .i64 rh.fy) := by subst hV; go_simp
  have k5c4 : V6.cell? ⟨Y5.heap.size, 4, none⟩ = some (.int .i64 rh.tx) := by subst hV; go_simp
  have k5c5 : V6.cell? ⟨Y5.heap.size, 5, none⟩ = some (.int .i64 rh.tz) := by subst hV; go_simp
  have k5c6 : V6.cell? ⟨Y5.heap.size, 6, none⟩ = some (.int .i64 rh.ty) := by subst hV; go_simp
  have k5c7 : V6.cell? ⟨Y5.heap.size, 7, none⟩ = some (.bool rh.bo) := by subst hV; go_simp
  have k5c8 : V6.cell? ⟨Y5.heap.size, 8, none⟩ = some (.int .i64 rh.ar) := by subst hV; go_simp
  have k5c9 : V6.cell? ⟨Y5.heap.size, 9, none⟩ = some (.int .i64 rh.co) := by subst hV; go_simp
  clear hV
  clear sz0
  clear sz1
  clear sz2
  clear sz3
  clear sz4
  clear sz5
  clear sz6
  replace g0 := New.keep n1 g0
  replace g1 := New.keep n1 g1
  replace g2 := New.keep n1 g2
  replace g3 := New.keep n1 g3
  replace g4 := New.keep n1 g4
  replace g5 := New.keep n1 g5
  replace g6 := New.keep n1 g6
  replace q0 := New.keep n1 q0
  replace q1 := New.keep n1 q1
  replace q2 := New.keep n1 q2
  replace p0 := New.keep n1 p0
  replace p1 := New.keep n1 p1
  replace p2 := New.keep n1 p2
  replace k1c0 := New.keep n1 k1c0
  replace k1c1 := New.keep n1 k1c1
  replace k1c2 := New.keep n1 k1c2
  replace k1c3 := New.keep n1 k1c3
  replace k1c4 := New.keep n1 k1c4
  replace k1c5 := New.keep n1 k1c5
  replace k1c6 := New.keep n1 k1c6
  replace k1c7 := New.keep n1 k1c7
  replace k1c8 := New.keep n1 k1c8
  replace k1c9 := New.keep n1 k1c9
  replace k2c0 := New.keep n1 k2c0
  replace k2c1 := New.keep n1 k2c1
  replace k2c2 := New.keep n1 k2c2
  replace k2c3 := New.keep n1 k2c3
  replace k2c4 := New.keep n1 k2c4
  replace k2c5 := New.keep n1 k2c5
  replace k2c6 := New.keep n1 k2c6
  replace k2c7 := New.keep n1 k2c7
  replace k2c8 := New.keep n1 k2c8
  replace k2c9 := New.keep n1 k2c9
  replace k3c0 := New.keep n1 k3c0
  replace k3c1 := New.keep n1 k3c1
  replace k3c2 := New.keep n1 k3c2
  replace k3c3 := New.keep n1 k3c3
  replace k3c4 := New.keep n1 k3c4
  replace k3c5 := New.keep n1 k3c5
  replace k3c6 := New.keep n1 k3c6
  replace k3c7 := New.keep n1 k3c7
  replace k4c0 := New.keep n1 k4c0
  replace k4c1 := New.keep n1 k4c1
  replace k4c2 := New.keep n1 k4c2
  replace k4c3 := New.keep n1 k4c3
  replace k4c4 := New.keep n1 k4c4
  replace k4c5 := New.keep n1 k4c5
  replace k4c6 := New.keep n1 k4c6
  replace k4c7 := New.keep n1 k4c7
  replace hn := hn.trans n1
  clear n1
  refine (A6.out _ hn).mono ?_
  rintro e Y6 ⟨rfl, n1⟩
  replace g0 := New.keep n1 g0
  replace g1 := New.keep n1 g1
  replace g2 := New.keep n1 g2
  replace g3 := New.keep n1 g3
  replace g4 := New.keep n1 g4
  replace g5 := New.keep n1 g5
  replace g6 := New.keep n1 g6
  replace q0 := New.keep n1 q0
  replace q1 := New.keep n1 q1
  replace q2 := New.keep n1 q2
  replace p0 := New.keep n1 p0
  replace p1 := New.keep n1 p1
  replace p2 := New.keep n1 p2
  replace k1c0 := New.keep n1 k1c0
  replace k1c1 := New.keep n1 k1c1
  replace k1c2 := New.keep n1 k1c2
  replace k1c3 := New.keep n1 k1c3
  replace k1c4 := New.keep n1 k1c4
  replace k1c5 := New.keep n1 k1c5
  replace k1c6 := New.keep n1 k1c6
  replace k1c7 := New.keep n1 k1c7
  replace k1c8 := New.keep n1 k1c8
  replace k1c9 := New.keep n1 k1c9
  replace k2c0 := New.keep n1 k2c0
  replace k2c1 := New.keep n1 k2c1
  replace k2c2 := New.keep n1 k2c2
  replace k2c3 := New.keep n1 k2c3
  replace k2c4 := New.keep n1 k2c4
  replace k2c5 := New.keep n1 k2c5
  replace k2c6 := New.keep n1 k2c6
  replace k2c7 := New.keep n1 k2c7
  replace k2c8 := New.keep n1 k2c8
  replace k2c9 := New.keep n1 k2c9
  replace k3c0 := New.keep n1 k3c0
  replace k3c1 := New.keep n1 k3c1
  replace k3c2 := New.keep n1 k3c2
  replace k3c3 := New.keep n1 k3c3
  replace k3c4 := New.keep n1 k3c4
  replace k3c5 := New.keep n1 k3c5
  replace k3c6 := New.keep n1 k3c6
  replace k3c7 := New.keep n1 k3c7
  replace k4c0 := New.keep n1 k4c0
  replace k4c1 := New.keep n1 k4c1
  replace k4c2 := New.keep n1 k4c2
  replace k4c3 := New.keep n1 k4c3
  replace k4c4 := New.keep n1 k4c4
  replace k4c5 := New.keep n1 k4c5
  replace k4c6 := New.keep n1 k4c6
  replace k4c7 := New.keep n1 k4c7
  replace k5c0 := New.keep n1 k5c0
  replace k5c1 := New.keep n1 k5c1
  replace k5c2 := New.keep n1 k5c2
  replace k5c3 := New.keep n1 k5c3
  replace k5c4 := New.keep n1 k5c4
  replace k5c5 := New.keep n1 k5c5
  replace k5c6 := New.keep n1 k5c6
  replace k5c7 := New.keep n1 k5c7
  replace k5c8 := New.keep n1 k5c8
  replace k5c9 := New.keep n1 k5c9
  replace hn := hn.trans n1
  clear n1 A6
  have sz0 : Y1.heap.size < Y6.heap.size := cell_lt k1c0
  have sz1 : Y2.heap.size < Y6.heap.size := cell_lt k2c0
  have sz2 : Y3.heap.size < Y6.heap.size := cell_lt k3c0
  have sz3 : Y4.heap.size < Y6.heap.size := cell_lt k4c0
  have sz4 : Y5.heap.size < Y6.heap.size := cell_lt k5c0
  have sz5 : w.heap.size < Y6.heap.size := cell_lt g0
  have sz6 : w.heap.size + 1 < Y6.heap.size := cell_lt q0
  have sz7 : w.heap.size + 1 + 1 < Y6.heap.size := cell_lt p0
  go_wp2_with fail
  refine Calls.at (fun V7 hV => ?_)
  have n1 : New Y6 V7 := by subst hV; (repeat (first | (with_reducible exact New.refl _) | (with_reducible assumption) | ((with_reducible refine New.setB ?_ ?_ _); focus (first | omega | (simp; omega) | (simp; done))) | (with_reducible refine New.alloc ?_ _) | (with_reducible refine New.drew ?_) | (with_reducible refine New.drewN ?_ _) | (with_reducible refine New.hat ?_ _) | ((with_reducible apply New.snart); (with_reducible assumption))))
  clear k1c0 k1c1 k1c2 k1c3 k1c4 k1c5 k1c6 k1c7 k1c8 k1c9 k2c0 k2c1 k2c2 k2c3 k2c4 k2c5 k2c6 k2c7 k2c8 k2c9 k3c0 k3c1 k3c2 k3c3 k3c4 k3c5 k3c6 k3c7 k4c0 k4c1 k4c2 k4c3 k4c4 k4c5 k4c6 k4c7 k5c0 k5c1 k5c2 k5c3 k5c4 k5c5 k5c6 k5c7 k5c8 k5c9
  clear hV
  clear sz0
  clear sz1
  clear sz2
  clear sz3
  clear sz4
  clear sz5
  clear sz6
  clear sz7
  replace g0 := New.keep n1 g0
  replace g1 := New.keep n1 g1
  replace g2 := New.keep n1 g2
  replace g3 := New.keep n1 g3
  replace g4 := New.keep n1 g4
  replace g5 := New.keep n1 g5
  replace g6 := New.keep n1 g6
  replace q0 := New.keep n1 q0
  replace q1 := New.keep n1 q1
  replace q2 := New.keep n1 q2
  replace p0 := New.keep n1 p0
  replace p1 := New.keep n1 p1
  replace p2 := New.keep n1 p2
  replace hn := hn.trans n1
  clear n1
  refine (A7.out _ hn).mono ?_
  rintro e Y7 ⟨S1, rfl, o1, h1, h2, h3, -, n1⟩
  replace g0 := New.keep n1 g0
  replace g1 := New.keep n1 g1
  replace g2 := New.keep n1 g2
  replace g3 := New.keep n1 g3
  replace g4 := New.keep n1 g4
  replace g5 := New.keep n1 g5
  replace g6 := New.keep n1 g6
  replace q0 := New.keep n1 q0
  replace q1 := New.keep n1 q1
  replace q2 := New.keep n1 q2
  replace p0 := New.keep n1 p0
  replace p1 := New.keep n1 p1
  replace p2 := New.keep n1 p2
  replace hn := hn.trans n1
  have O1 := Lib.hid o1
  have P1 := Lib.hid (And.intro h1 (And.intro h2 h3))
  clear o1 h1 h2 h3 n1 A7
  have sz0 : w.heap.size < Y7.heap.size := cell_lt g0
  have sz1 : w.heap.size + 1 < Y7.heap.size := cell_lt q0
  have sz2 : w.heap.size + 1 + 1 < Y7.heap.size := cell_lt p0
  go_wp2_with fail
  refine Calls.at (fun V8 hV => ?_)
  have n1 : New Y7 V8 := by subst hV; (repeat (first | (with_reducible exact New.refl _) | (with_reducible assumption) | ((with_reducible refine New.setB ?_ ?_ _); focus (first | omega | (simp; omega) | (simp; done))) | (with_reducible refine New.alloc ?_ _) | (with_reducible refine New.drew ?_) | (with_reducible refine New.drewN ?_ _) | (with_reducible refine New.hat ?_ _) | ((with_reducible apply New.snart); (with_reducible assumption))))
  have x0 : V8.cell? ⟨Y7.heap.size, 0, none⟩ = some (.slice S1.a0 S1.ts.length S1.c0) := by subst hV; go_simp
  have x1 : V8.cell? ⟨Y7.heap.size, 1, none⟩ = some (.slice S1.a1 S1.bs.length S1.c1) := by subst hV; go_simp
  have x2 : V8.cell? ⟨Y7.heap.size, 2, none⟩ = some (.slice S1.a2 S1.hs.length S1.c2) := by subst hV; go_simp
  clear hV
  clear sz0
  clear sz1
  clear sz2
  replace g0 := New.keep n1 g0
  replace g1 := New.keep n1 g1
  replace g2 := New.keep n1 g2
  replace g3 := New.keep n1 g3
  replace g4 := New.keep n1 g4
  replace g5 := New.keep n1 g5
  replace g6 := New.keep n1 g6
  replace q0 := New.keep n1 q0
  replace q1 := New.keep n1 q1
  replace q2 := New.keep n1 q2
  replace p0 := New.keep n1 p0
  replace p1 := New.keep n1 p1
  replace p2 := New.keep n1 p2
  replace hn := hn.trans n1
  replace O1 := Lib.hid (O1.out.keep n1)
  clear n1
  refine (A8.out _ hn).mono ?_
  rintro e Y8 ⟨S2, rfl, o1, h1, h2, h3, -, n1⟩
  replace g0 := New.keep n1 g0
  replace g1 := New.keep n1 g1
  replace g2 := New.keep n1 g2
  replace g3 := New.keep n1 g3
  replace g4 := New.keep n1 g4
  replace g5 := New.keep n1 g5
  replace g6 := New.keep n1 g6
  replace q0 := New.keep n1 q0
  replace q1 := New.keep n1 q1
  replace q2 := New.keep n1 q2
  replace p0 := New.keep n1 p0
  replace p1 := New.keep n1 p1
  replace p2 := New.keep n1 p2
  replace x0 := New.keep n1 x0
  replace x1 := New.keep n1 x1
  replace x2 := New.keep n1 x2
  replace hn := hn.trans n1
  replace O1 := Lib.hid (O1.out.keep n1)
  have O2 := Lib.hid o1
  have P2 := Lib.hid (And.intro h1 (And.intro h2 h3))
  clear o1 h1 h2 h3 n1 A8
  have sz0 : w.heap.size < Y8.heap.size := cell_lt g0
  have sz1 : w.heap.size + 1 < Y8.heap.size := cell_lt q0
  have sz2 : w.heap.size + 1 + 1 < Y8.heap.size := cell_lt p0
  have sz3 : Y7.heap.size < Y8.heap.size := cell_lt x0
  have XX := Lib.hid (fun W h1 h2 => u_same S1 S2 W h1 h2)
  rw [SoupV.same_of P1.out.1 P1.out.2.1 P1.out.2.2 P2.out.1 P2.out.2.1 P2.out.2.2] at XX
  clear P1 P2
  go_wp2_with fail
  refine Code.at (fun V9 hV => ?_)
  have n1 : New Y8 V9 := by subst hV; (repeat (first | (with_reducible exact New.refl _) | (with_reducible assumption) | ((with_reducible refine New.setB ?_ ?_ _); focus (first | omega | (simp; omega) | (simp; done))) | (with_reducible refine New.alloc ?_ _) | (with_reducible refine New.drew ?_) | (with_reducible refine New.drewN ?_ _) | (with_reducible refine New.hat ?_ _) | ((with_reducible apply New.snart); (with_reducible assumption))))
  have y0 : V9.cell? ⟨Y8.heap.size, 0, none⟩ = some (.slice S2.a0 S2.ts.length S2.c0) := by subst hV; go_simp
  have y1 : V9.cell? ⟨Y8.heap.size, 1, none⟩ = some (.slice S2.a1 S2.bs.length S2.c1) := by subst hV; go_simp
  have y2 : V9.cell? ⟨Y8.heap.size, 2, none⟩ = some (.slice S2.a2 S2.hs.length S2.c2) := by subst hV; go_simp
  clear hV sz0 sz1 sz2 sz3
  replace g0 := New.keep n1 g0
  replace g1 := New.keep n1 g1
  replace g2 := New.keep n1 g2
  replace g3 := New.keep n1 g3
  replace g4 := New.keep n1 g4
  replace g5 := New.keep n1 g5
  replace g6 := New.keep n1 g6
  replace q0 := New.keep n1 q0
  replace q1 := New.keep n1 q1
  replace q2 := New.keep n1 q2
  replace p0 := New.keep n1 p0
  replace p1 := New.keep n1 p1
  replace p2 := New.keep n1 p2
  replace x0 := New.keep n1 x0
  replace x1 := New.keep n1 x1
  replace x2 := New.keep n1 x2
  replace hn := hn.trans n1
  replace O1 := Lib.hid (O1.out.keep n1)
  replace O2 := Lib.hid (O2.out.keep n1)
  have B0 := Lib.hid (fun W (n : New V9 W) => XX.out W (O1.out.keep n) (O2.out.keep n))
  have B9 := Lib.hid (fun W (n : New V9 W) => A9.out W (hn.trans n))
  have B10 := Lib.hid (fun W (n : New V9 W) => A10.out W (hn.trans n))
  have B11 := Lib.hid (fun W (n : New V9 W) => A11.out W (hn.trans n))
  have B12 := Lib.hid (fun W (n : New V9 W) => A12.out W (hn.trans n))
  have B13 := Lib.hid (fun W (n : New V9 W) => A13.out W (hn.trans n))
  clear n1 XX O1 O2 A9 A10 A11 A12 A13 E1 E2 E3 b1 b2 b3
  refine wp_region_hat (by kernel_rfl) (by kernel_rfl) ?_
  intro hatc hatf
  iterate 21 (go_big_quiet_step ((first | (go_at_call 15; exact Calls.hat (B9.out _ (Hat.h _))) | (go_at_call 16; exact Calls.hat (B10.out _ (Hat.h _))) | (go_at_call 17; exact Calls.hat (B11.out _ (Hat.h _))) | (go_at_call 14; exact Calls.hat (B0.out _ (Hat.h _))) | (go_at_call 5; exact Calls.hat (HW.out _)))))
  (repeat (go_big_quiet_step ((first | (go_at_call 15; exact Calls.hat (B9.out _ (Hat.h _))) | (go_at_call 16; exact Calls.hat (B10.out _ (Hat.h _))) | (go_at_call 17; exact Calls.hat (B13.out _ (Hat.h _))) | (go_at_call 14; exact Calls.hat (B12.out _ (Hat.h _))) | (go_at_call 5; exact Calls.hat (HW.out _))))))
  refine wpQuiet_nil ?_
  rintro _ ⟨x, rfl⟩
  go_wp2_with fail
  go_ret
  exact ⟨rfl, hn.hat x⟩

end Go.Proofs.YtonngfogbnfbnaaGreat
