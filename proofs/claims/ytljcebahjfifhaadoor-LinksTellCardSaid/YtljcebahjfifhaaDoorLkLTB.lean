import Derived.Test.YtljcebahjfifhaaDoorLkBa
import Derived.Test.YtljcebahjfifhaaDoorLkBe
import Derived.Test.YtljcebahjfifhaaDoorOgU

/- The law LinksTell. -/
namespace Go.Proofs.YtljcebahjfifhaaDoor
open Go.RowKit
set_option linter.unusedVariables false

set_option maxHeartbeats 32000000 in
set_option maxRecDepth 100000 in
theorem l_linksTell (C : CfgR) (G : Gd) (a b : Fl) (x z k d d2 : Int) (w : World) (hG : G.ok w) (hD : Dirs w) : Calls Tryd.prog 3 #[.agg #[.int .i64 C.cl, .int .i64 C.cb, .int .i64 C.ht, .int .i64 C.ri, .int .i64 C.ru, .int .i64 C.wd, .int .i64 C.dp], .agg #[.int .i64 G.x, .int .i64 G.z, .int .i64 G.w, .int .i64 G.d, .slice G.ga G.L.length G.gc], .agg #[.int .i64 a.y, .int .i64 a.top, .int .i64 a.area], .agg #[.int .i64 b.y, .int .i64 b.top, .int .i64 b.area], .int .i64 x, .int .i64 z, .int .i64 k, .int .i64 d, .int .i64 d2] w fun e w' => e = .returned (.bool true) ∧ New w w' := by
  have KW := Lib.hid (fun W (q : New w W) => lk_wakes W (hD.new q))
  have KG := Lib.hid (fun W (q : New w W) => og_great G W (hG.keep q))
  have K1 := Lib.hid (fun W (q : New w W) => lk_To C G x z k d W (hG.keep q) (hD.new q))
  have K2 := Lib.hid (fun W (q : New w W) => lr_To C G x z k d W (hG.keep q))
  have K3 := Lib.hid (fun W (q : New w W) => lk_Diagonal C G x z k d d2 W (hG.keep q) (hD.new q))
  have K4 := Lib.hid (fun W (q : New w W) => lr_Diagonal C G x z k d d2 W (hG.keep q))
  have K5 := Lib.hid (fun W (q : New w W) => lk_Eight C G x z k W (hG.keep q) (hD.new q))
  have K6 := Lib.hid (fun W (q : New w W) => lr_Eight C G x z k W (hG.keep q))
  have K7 := Lib.hid (fun W (q : New w W) => lk_Step d W (hD.new q))
  have K8 := Lib.hid (fun W => lr_Step d W)
  have K9 := Lib.hid (fun W => lk_Linked C a b W)
  have K10 := Lib.hid (fun W => lr_Linked C a b W)
  have K11 := Lib.hid (fun W (q : New w W) => lk_Build C G W (hG.keep q) (hD.new q))
  have K12 := Lib.hid (fun W (q : New w W) => lr_Build C G W (hG.keep q))
  have hsm := lkT_small C G
  have K13 := Lib.hid (fun va vb W h1 h2 => lr_Same va vb (lkT C G) W h1 h2 hsm.1 hsm.2)
  unfold Greated at KG
  unfold LBuilt at K11 K12
  unfold stV at K7 K8
  generalize lkT C G = T at *
  generalize lkE C G = le at *
  generalize sdO (toT C G ⟨x, z, k⟩ d) = p1 at *
  generalize (toT C G ⟨x, z, k⟩ d).isSome = p2 at *
  generalize sdO (diT C G ⟨x, z, k⟩ d d2) = q1 at *
  generalize (diT C G ⟨x, z, k⟩ d d2).isSome = q2 at *
  generalize eiT C G ⟨x, z, k⟩ = ei at *
  generalize (ei == 8) = eb at *
  generalize dxD d = dx at *
  generalize dzD d = dz at *
  generalize okD d = dk at *
  generalize lkF C a b = lb at *
  generalize p1.k = pk at *
  generalize q1.k = qk at *
  obtain ⟨n, hn⟩ : ∃ n, n = G.L.length := ⟨_, rfl⟩
  rw [← hn] at KG K1 K2 K3 K4 K5 K6 K11 K12 ⊢
  clear hn hG hD hsm
  go_enter Tryd.func3, Tryd.ntmps3
  go_upto_region 1 with fail
  refine Code.at (fun W hW => ?_)
  have n0 : New w W := by subst hW; (repeat (first | (with_reducible exact New.refl _) | (with_reducible assumption) | ((with_reducible refine New.setB ?_ ?_ _); focus (first | omega | (simp; omega) | (simp; done))) | (with_reducible refine New.alloc ?_ _) | (with_reducible refine New.drew ?_) | (with_reducible refine New.drewN ?_ _) | (with_reducible refine New.hat ?_ _) | ((with_reducible apply New.snart); (with_reducible assumption))))
  ((have c0 : W.cell? ⟨w.heap.size, 0, none⟩ = some (.int .i64 C.cl) := (by subst hW; go_simp)); (have c1 : W.cell? ⟨w.heap.size, 1, none⟩ = some (.int .i64 C.cb) := (by subst hW; go_simp)); (have c2 : W.cell? ⟨w.heap.size, 2, none⟩ = some (.int .i64 C.ht) := (by subst hW; go_simp)); (have c3 : W.cell? ⟨w.heap.size, 3, none⟩ = some (.int .i64 C.ri) := (by subst hW; go_simp)); (have c4 : W.cell? ⟨w.heap.size, 4, none⟩ = some (.int .i64 C.ru) := (by subst hW; go_simp)); (have c5 : W.cell? ⟨w.heap.size, 5, none⟩ = some (.int .i64 C.wd) := (by subst hW; go_simp)); (have c6 : W.cell? ⟨w.heap.size, 6, none⟩ = some (.int .i64 C.dp) := (by subst hW; go_simp)))
  have g0 : W.cell? ⟨w.heap.size + 1, 0, none⟩ = some (.int .i64 G.x) := by subst hW; go_simp
  have g1 : W.cell? ⟨w.heap.size + 1, 1, none⟩ = some (.int .i64 G.z) := by subst hW; go_simp
  have g2 : W.cell? ⟨w.heap.size + 1, 2, none⟩ = some (.int .i64 G.w) := by subst hW; go_simp
  have g3 : W.cell? ⟨w.heap.size + 1, 3, none⟩ = some (.int .i64 G.d) := by subst hW; go_simp
  have g4 : W.cell? ⟨w.heap.size + 1, 4, none⟩ = some (.slice G.ga n G.gc) := by subst hW; go_simp
  have a0 : W.cell? ⟨w.heap.size + 1 + 1, 0, none⟩ = some (.int .i64 a.y) := by subst hW; go_simp
  have a1 : W.cell? ⟨w.heap.size + 1 + 1, 1, none⟩ = some (.int .i64 a.top) := by subst hW; go_simp
  have a2 : W.cell? ⟨w.heap.size + 1 + 1, 2, none⟩ = some (.int .i64 a.area) := by subst hW; go_simp
  have b0 : W.cell? ⟨w.heap.size + 1 + 1 + 1, 0, none⟩ = some (.int .i64 b.y) := by subst hW; go_simp
  have b1 : W.cell? ⟨w.heap.size + 1 + 1 + 1, 1, none⟩ = some (.int .i64 b.top) := by subst hW; go_simp
  have b2 : W.cell? ⟨w.heap.size + 1 + 1 + 1, 2, none⟩ = some (.int .i64 b.area) := by subst hW; go_simp
  clear hW
  have HCG := Lib.hid (fun W2 (q : New W W2) => And.intro (q.keep c0) (And.intro (q.keep c1) (And.intro (q.keep c2) (And.intro (q.keep c3) (And.intro (q.keep c4) (And.intro (q.keep c5) (And.intro (q.keep c6) (And.intro (q.keep g0) (And.intro (q.keep g1) (And.intro (q.keep g2) (And.intro (q.keep g3) (q.keep g4))))))))))))
  have HAB := Lib.hid (fun W2 (q : New W W2) => And.intro (q.keep a0) (And.intro (q.keep a1) (And.intro (q.keep a2) (And.intro (q.keep b0) (And.intro (q.keep b1) (q.keep b2))))))
  have N0 := Lib.hid n0
  clear a0 a1 a2 b0 b1 b2
  go_wp2_with fail
  refine (KG.out _ n0).mono ?_
  rintro e w1 ⟨bg, rfl, -, n1⟩
  have N1 := Lib.hid n1
  clear c0 c1 c2 c3 c4 c5 c6 g0 g1 g2 g3 g4
  clear n0 n1 KG
  cases bg
  rotate_left
  · go_wp2_with fail
    refine (KW.out _ (N0.out.trans N1.out)).mono ?_
    rintro e w2 ⟨rfl, n2⟩
    go_wp2_with fail
    go_ret
    exact ⟨rfl, (N0.out.trans N1.out).trans n2⟩
  obtain ⟨c0, c1, c2, c3, c4, c5, c6, g0, g1, g2, g3, g4⟩ := HCG.out _ N1.out
  go_wp2_with fail
  refine (K1.out _ (N0.out.trans N1.out)).mono ?_
  rintro e w2 ⟨rfl, n2⟩
  have N2 := Lib.hid (N1.out.trans n2)
  clear c0 c1 c2 c3 c4 c5 c6 g0 g1 g2 g3 g4
  clear n2 K1 N1
  obtain ⟨c0, c1, c2, c3, c4, c5, c6, g0, g1, g2, g3, g4⟩ := HCG.out _ N2.out
  go_wp2_with fail
  refine (K2.out _ (N0.out.trans N2.out)).mono ?_
  rintro e w3 ⟨rfl, n3⟩
  have N3 := Lib.hid (N2.out.trans n3)
  clear c0 c1 c2 c3 c4 c5 c6 g0 g1 g2 g3 g4
  clear n3 K2 N2
  obtain ⟨c0, c1, c2, c3, c4, c5, c6, g0, g1, g2, g3, g4⟩ := HCG.out _ N3.out
  go_wp2_with fail
  refine (K3.out _ (N0.out.trans N3.out)).mono ?_
  rintro e w4 ⟨rfl, n4⟩
  have N4 := Lib.hid (N3.out.trans n4)
  clear c0 c1 c2 c3 c4 c5 c6 g0 g1 g2 g3 g4
  clear n4 K3 N3
  obtain ⟨c0, c1, c2, c3, c4, c5, c6, g0, g1, g2, g3, g4⟩ := HCG.out _ N4.out
  go_wp2_with fail
  refine (K4.out _ (N0.out.trans N4.out)).mono ?_
  rintro e w5 ⟨rfl, n5⟩
  have N5 := Lib.hid (N4.out.trans n5)
  clear c0 c1 c2 c3 c4 c5 c6 g0 g1 g2 g3 g4
  clear n5 K4 N4
  obtain ⟨c0, c1, c2, c3, c4, c5, c6, g0, g1, g2, g3, g4⟩ := HCG.out _ N5.out
  go_wp2_with fail
  refine (K5.out _ (N0.out.trans N5.out)).mono ?_
  rintro e w6 ⟨rfl, n6⟩
  have N6 := Lib.hid (N5.out.trans n6)
  clear c0 c1 c2 c3 c4 c5 c6 g0 g1 g2 g3 g4
  clear n6 K5 N5
  obtain ⟨c0, c1, c2, c3, c4, c5, c6, g0, g1, g2, g3, g4⟩ := HCG.out _ N6.out
  go_wp2_with fail
  refine (K6.out _ (N0.out.trans N6.out)).mono ?_
  rintro e w7 ⟨rfl, n7⟩
  have N7 := Lib.hid (N6.out.trans n7)
  clear c0 c1 c2 c3 c4 c5 c6 g0 g1 g2 g3 g4
  clear n7 K6 N6
  obtain ⟨c0, c1, c2, c3, c4, c5, c6, g0, g1, g2, g3, g4⟩ := HCG.out _ N7.out
  go_wp2_with fail
  refine (K7.out _ (N0.out.trans N7.out)).mono ?_
  rintro e w8 ⟨rfl, n8⟩
  have N8 := Lib.hid (N7.out.trans n8)
  clear c0 c1 c2 c3 c4 c5 c6 g0 g1 g2 g3 g4
  clear n8 K7 N7
  obtain ⟨c0, c1, c2, c3, c4, c5, c6, g0, g1, g2, g3, g4⟩ := HCG.out _ N8.out
  go_wp2_with fail
  refine (K8.out _).mono ?_
  rintro e w9 ⟨rfl, n9⟩
  have N9 := Lib.hid (N8.out.trans n9)
  clear c0 c1 c2 c3 c4 c5 c6 g0 g1 g2 g3 g4
  clear n9 K8 N8
  obtain ⟨c0, c1, c2, c3, c4, c5, c6, g0, g1, g2, g3, g4⟩ := HCG.out _ N9.out
  obtain ⟨a0, a1, a2, b0, b1, b2⟩ := HAB.out _ N9.out
  have F9 := Lib.hid (fun (q : Hat w9) => K9.out q.w)
  have F10 := Lib.hid (fun (q : Hat w9) => K10.out q.w)
  have e1 : (pk != pk) = false := by simp
  have e2 : (p2 != p2) = false := by simp
  have e3 : (qk != qk) = false := by simp
  have e4 : (q2 != q2) = false := by simp
  have e5 : (ei != ei) = false := by simp
  have e6 : (eb != eb) = false := by simp
  have e7 : (dx != dx) = false := by simp
  have e8 : (dz != dz) = false := by simp
  have e9 : (dk != dk) = false := by simp
  have e10 : (lb != lb) = false := by simp
  go_upto_region 11 with fail
  (refine wp_region_hat (by kernel_rfl) (by kernel_rfl) ?_; intro hatc hatf; (repeat (go_big_quiet_step ((first | (go_at_call 17; with_reducible exact Calls.hat (F9.out _)) | (go_at_call 18; with_reducible exact Calls.hat (F10.out _)))))); refine wpQuiet_nil ?_; rintro _ ⟨q, rfl⟩)
  have N10 := Lib.hid (N9.out.trans q.h)
  clear c0 c1 c2 c3 c4 c5 c6 g0 g1 g2 g3 g4
  clear hatc hatf F9 F10 a0 a1 a2 b0 b1 b2 e1 e2 e3 e4 e5 e6 e7 e8 e9 e10 N9 K9 K10
  generalize q.w = wa at *
  clear q
  obtain ⟨c0, c1, c2, c3, c4, c5, c6, g0, g1, g2, g3, g4⟩ := HCG.out _ N10.out
  go_wp2_with fail
  refine (K11.out _ (N0.out.trans N10.out)).mono ?_
  rintro e wb ⟨va, rfl, hra, nb⟩
  have N11 := Lib.hid (N10.out.trans nb)
  have HRA := Lib.hid hra
  clear c0 c1 c2 c3 c4 c5 c6 g0 g1 g2 g3 g4
  clear nb hra K11 N10
  obtain ⟨c0, c1, c2, c3, c4, c5, c6, g0, g1, g2, g3, g4⟩ := HCG.out _ N11.out
  go_wp2_with fail
  refine (K12.out _ (N0.out.trans N11.out)).mono ?_
  rintro e wc ⟨vb, rfl, hrb, nc⟩
  have N12 := Lib.hid (N11.out.trans nc)
  have HRB := Lib.hid hrb
  have HRA2 := Lib.hid (HRA.out.keep nc)
  clear c0 c1 c2 c3 c4 c5 c6 g0 g1 g2 g3 g4
  clear nc hrb K12 N11 HRA
  have el : (le == le) = true := by simp
  go_wp2_with fail
  refine (K13.out va vb _ HRA2.out HRB.out).mono ?_
  rintro e wd ⟨rfl, nd⟩
  have N13 := Lib.hid (N12.out.trans nd)
  clear nd N12 K13 HRA2 HRB
  go_wp2_with fail
  refine (KW.out _ (N0.out.trans N13.out)).mono ?_
  rintro e we ⟨rfl, ne⟩
  go_wp2_with fail
  go_ret
  exact ⟨rfl, (N0.out.trans N13.out).trans ne⟩

end Go.Proofs.YtljcebahjfifhaaDoor
