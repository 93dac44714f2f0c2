import Derived.Test.YtljcebahjfifhaaDoorLkBb
import Derived.Test.YtljcebahjfifhaaDoorLkBa
import Derived.Test.YtljcebahjfifhaaDoorOgU

/- The law LinksEight. -/
namespace Go.Proofs.YtljcebahjfifhaaDoor
open Go.RowKit
set_option linter.unusedVariables false

set_option maxHeartbeats 16000000 in
set_option maxRecDepth 100000 in
theorem l_linksEight (C : CfgR) (G : Gd) (x z k : Int) (w : World) (hG : G.ok w) (hD : Dirs w) : Calls Tryd.prog 5 #[.agg #[.int .i64 C.cl, .int .i64 C.cb, .int .i64 C.ht, .int .i64 C.ri, .int .i64 C.ru, .int .i64 C.wd, .int .i64 C.dp], .agg #[.int .i64 G.x, .int .i64 G.z, .int .i64 G.w, .int .i64 G.d, .slice G.ga G.L.length G.gc], .int .i64 x, .int .i64 z, .int .i64 k] w fun e w' => e = .returned (.bool true) ∧ New w w' := by
  have KW := Lib.hid (fun W (q : New w W) => lk_wakes W (hD.new q))
  have KG := Lib.hid (fun W (q : New w W) => og_great G W (hG.keep q))
  have KE := Lib.hid (fun W (q : New w W) => lk_Eight C G x z k W (hG.keep q) (hD.new q))
  have KT := Lib.hid (fun d W (q : New w W) => lk_To C G x z k d W (hG.keep q) (hD.new q))
  have KD := Lib.hid (fun d d2 W (q : New w W) => lk_Diagonal C G x z k d d2 W (hG.keep q) (hD.new q))
  have HC := Lib.hid (fun n => cntE_small (grC C G) (grG C G) ⟨x, z, k⟩ n)
  have HS : Hid (∀ n, cntE (grC C G) (grG C G) ⟨x, z, k⟩ (n + 1) = cntE (grC C G) (grG C G) ⟨x, z, k⟩ n + nB (toT C G ⟨x, z, k⟩ n).isSome + nB (diT C G ⟨x, z, k⟩ n (nextD n)).isSome) := Lib.hid (fun n => rfl)
  have H0 : Hid (cntE (grC C G) (grG C G) ⟨x, z, k⟩ 0 = 0) := Lib.hid rfl
  have HE : Hid (eiT C G ⟨x, z, k⟩ = cntE (grC C G) (grG C G) ⟨x, z, k⟩ 4) := Lib.hid rfl
  generalize cntE (grC C G) (grG C G) ⟨x, z, k⟩ = cn at *
  generalize toT C G ⟨x, z, k⟩ = tn at *
  generalize diT C G ⟨x, z, k⟩ = dn at *
  generalize eiT C G ⟨x, z, k⟩ = ei at *
  unfold Greated at KG
  obtain ⟨n, hn⟩ : ∃ n, n = G.L.length := ⟨_, rfl⟩
  rw [← hn] at KG KE KT KD ⊢
  clear hn hG hD
  go_enter Tryd.func5, Tryd.ntmps5
  go_wp2_with fail
  refine Calls.at (fun W hW => ?_)
  have n0 : New w W := by subst hW; (repeat (first | (with_reducible exact New.refl _) | (with_reducible assumption) | ((with_reducible refine New.setB ?_ ?_ _); focus (first | omega | (simp; omega) | (simp; done))) | (with_reducible refine New.alloc ?_ _) | (with_reducible refine New.drew ?_) | (with_reducible refine New.drewN ?_ _) | (with_reducible refine New.hat ?_ _) | ((with_reducible apply New.snart); (with_reducible assumption))))
  ((have c0 : W.cell? ⟨w.heap.size, 0, none⟩ = some (.int .i64 C.cl) := (by subst hW; go_simp)); (have c1 : W.cell? ⟨w.heap.size, 1, none⟩ = some (.int .i64 C.cb) := (by subst hW; go_simp)); (have c2 : W.cell? ⟨w.heap.size, 2, none⟩ = some (.int .i64 C.ht) := (by subst hW; go_simp)); (have c3 : W.cell? ⟨w.heap.size, 3, none⟩ = some (.int .i64 C.ri) := (by subst hW; go_simp)); (have c4 : W.cell? ⟨w.heap.size, 4, none⟩ = some (.int .i64 C.ru) := (by subst hW; go_simp)); (have c5 : W.cell? ⟨w.heap.size, 5, none⟩ = some (.int .i64 C.wd) := (by subst hW; go_simp)); (have c6 : W.cell? ⟨w.heap.size, 6, none⟩ = some (.int .i64 C.dp) := (by subst hW; go_simp)))
  have g0 : W.cell? ⟨w.heap.size + 1, 0, none⟩ = some (.int .i64 G.x) := by subst hW; go_simp
  have g1 : W.cell? ⟨w.heap.size + 1, 1, none⟩ = some (.int .i64 G.z) := by subst hW; go_simp
  have g2 : W.cell? ⟨w.heap.size + 1, 2, none⟩ = some (.int .i64 G.w) := by subst hW; go_simp
  have g3 : W.cell? ⟨w.heap.size + 1, 3, none⟩ = some (.int .i64 G.d) := by subst hW; go_simp
  have g4 : W.cell? ⟨w.heap.size + 1, 4, none⟩ = some (.slice G.ga n G.gc) := by subst hW; go_simp
  clear hW
  have HCG := Lib.hid (fun W2 (q : New W W2) => And.intro (q.keep c0) (And.intro (q.keep c1) (And.intro (q.keep c2) (And.intro (q.keep c3) (And.intro (q.keep c4) (And.intro (q.keep c5) (And.intro (q.keep c6) (And.intro (q.keep g0) (And.intro (q.keep g1) (And.intro (q.keep g2) (And.intro (q.keep g3) (q.keep g4))))))))))))
  have N0 := Lib.hid n0
  clear c0 c1 c2 c3 c4 c5 c6 g0 g1 g2 g3 g4
  refine (KG.out _ n0).mono ?_
  rintro e w1 ⟨bg, rfl, -, n1⟩
  have N1 := Lib.hid n1
  clear n0 n1 KG
  cases bg
  rotate_left
  · go_wp2_with fail
    refine (KW.out _ (N0.out.trans N1.out)).mono ?_
    rintro e w2 ⟨rfl, n2⟩
    go_wp2_with fail
    go_ret
    exact ⟨rfl, (N0.out.trans N1.out).trans n2⟩
  obtain ⟨c0, c1, c2, c3, c4, c5, c6, g0, g1, g2, g3, g4⟩ := HCG.out _ N1.out
  go_wp2_with fail
  refine (KE.out _ (N0.out.trans N1.out)).mono ?_
  rintro e w2 ⟨rfl, n2⟩
  have N2 := Lib.hid (N1.out.trans n2)
  clear c0 c1 c2 c3 c4 c5 c6 g0 g1 g2 g3 g4
  clear n2 N1 KE
  go_wp2_with fail
  go_loopg [13, 31] 4 (fun gk s13 s31 wr => ∃ i : Nat, s31 = .int .i64 i ∧ s13 = .int .i64 (cn i) ∧ i ≤ 4 ∧ 4 - i ≤ gk ∧ Hid (New W wr))
  case atStart => exact ⟨0, rfl, by rw [H0.out], by omega, by omega, N2⟩
  case round =>
    obtain ⟨i, rfl, rfl, hi, hgk, hnr⟩ := hrel
    by_cases hlt : i < 4
    · have hs := HS.out i
      obtain ⟨c1, c2⟩ := HC.out i
      have hw1 : IntKind.i64.wrap ((i : Int) + 1) = i + 1 := IntWalk.i64_in _ (by omega)
      have hw2 : IntKind.i64.wrap (cn i + 1) = cn i + 1 := IntWalk.i64_in _ (by omega)
      have hw3 : IntKind.i64.wrap (cn i + 1 + 1) = cn i + 1 + 1 := IntWalk.i64_in _ (by omega)
      clear c1 c2
      have KTi := Lib.hid (KT.out i)
      have KDi := Lib.hid (KD.out i (nextD i))
      obtain ⟨o1, ho1⟩ : ∃ o, o = tn i := ⟨_, rfl⟩
      obtain ⟨o2, ho2⟩ : ∃ o, o = dn i (nextD i) := ⟨_, rfl⟩
      rw [← ho1] at KTi hs
      rw [← ho2] at KDi hs
      have HS1 := Lib.hid hs
      clear ho1 ho2 hs
      obtain ⟨c0, c1, c2, c3, c4, c5, c6, g0, g1, g2, g3, g4⟩ := HCG.out _ hnr.out
      go_wp2_with fail
      refine (KTi.out _ (N0.out.trans hnr.out)).mono ?_
      rintro e w4 ⟨rfl, n4⟩
      clear c0 c1 c2 c3 c4 c5 c6 g0 g1 g2 g3 g4
      have N4 := Lib.hid (hnr.out.trans n4)
      clear n4 KTi
      have hrem : (Int.tmod ((i : Int) + 1) 4) = nextD i := rfl
      generalize nextD i = ne at *
      cases f1 : o1.isSome
      · rw [f1] at HS1
        obtain ⟨c0, c1, c2, c3, c4, c5, c6, g0, g1, g2, g3, g4⟩ := HCG.out _ N4.out
        go_wp2_with fail
        refine (KDi.out _ (N0.out.trans N4.out)).mono ?_
        rintro e w6 ⟨rfl, n6⟩
        clear c0 c1 c2 c3 c4 c5 c6 g0 g1 g2 g3 g4
        clear KDi
        have N6 := N4.out.trans n6
        clear n6
        cases f2 : o2.isSome
        · rw [f2] at HS1
          have hnx : cn (i + 1) = cn i := by rw [HS1.out]; unfold nB; simp
          go_wp2_with fail
          go_roundg (4 - (i + 1))
          case measure => omega
          case rel => exact ⟨i + 1, by go_num, by rw [hnx], by omega, by omega, Lib.hid (by (repeat (first | (with_reducible exact New.refl _) | (with_reducible assumption) | ((with_reducible refine New.setB ?_ ?_ _); focus (first | omega | (simp; omega) | (simp; done))) | (with_reducible refine New.alloc ?_ _) | (with_reducible refine New.drew ?_) | (with_reducible refine New.drewN ?_ _) | (with_reducible refine New.hat ?_ _) | ((with_reducible apply New.snart); (with_reducible assumption)))))⟩
        · rw [f2] at HS1
          have hnx : cn (i + 1) = cn i + 1 := by rw [HS1.out]; unfold nB; simp
          go_wp2_with fail
          go_roundg (4 - (i + 1))
          case measure => omega
          case rel => exact ⟨i + 1, by go_num, by rw [hnx], by omega, by omega, Lib.hid (by (repeat (first | (with_reducible exact New.refl _) | (with_reducible assumption) | ((with_reducible refine New.setB ?_ ?_ _); focus (first | omega | (simp; omega) | (simp; done))) | (with_reducible refine New.alloc ?_ _) | (with_reducible refine New.drew ?_) | (with_reducible refine New.drewN ?_ _) | (with_reducible refine New.hat ?_ _) | ((with_reducible apply New.snart); (with_reducible assumption)))))⟩
      · rw [f1] at HS1
        obtain ⟨c0, c1, c2, c3, c4, c5, c6, g0, g1, g2, g3, g4⟩ := HCG.out _ N4.out
        go_wp2_with fail
        refine (KDi.out _ (N0.out.trans N4.out)).mono ?_
        rintro e w6 ⟨rfl, n6⟩
        clear c0 c1 c2 c3 c4 c5 c6 g0 g1 g2 g3 g4
        clear KDi
        have N6 := N4.out.trans n6
        clear n6
        cases f2 : o2.isSome
        · rw [f2] at HS1
          have hnx : cn (i + 1) = cn i + 1 := by rw [HS1.out]; unfold nB; simp
          go_wp2_with fail
          go_roundg (4 - (i + 1))
          case measure => omega
          case rel => exact ⟨i + 1, by go_num, by rw [hnx], by omega, by omega, Lib.hid (by (repeat (first | (with_reducible exact New.refl _) | (with_reducible assumption) | ((with_reducible refine New.setB ?_ ?_ _); focus (first | omega | (simp; omega) | (simp; done))) | (with_reducible refine New.alloc ?_ _) | (with_reducible refine New.drew ?_) | (with_reducible refine New.drewN ?_ _) | (with_reducible refine New.hat ?_ _) | ((with_reducible apply New.snart); (with_reducible assumption)))))⟩
        · rw [f2] at HS1
          have hnx : cn (i + 1) = cn i + 1 + 1 := by rw [HS1.out]; unfold nB; simp
          go_wp2_with fail
          go_roundg (4 - (i + 1))
          case measure => omega
          case rel => exact ⟨i + 1, by go_num, by rw [hnx], by omega, by omega, Lib.hid (by (repeat (first | (with_reducible exact New.refl _) | (with_reducible assumption) | ((with_reducible refine New.setB ?_ ?_ _); focus (first | omega | (simp; omega) | (simp; done))) | (with_reducible refine New.alloc ?_ _) | (with_reducible refine New.drew ?_) | (with_reducible refine New.drewN ?_ _) | (with_reducible refine New.hat ?_ _) | ((with_reducible apply New.snart); (with_reducible assumption)))))⟩
    · obtain rfl : i = 4 := by omega
      obtain ⟨c, hc⟩ : ∃ c, c = cn 4 := ⟨_, rfl⟩
      have hec : ei = c := HE.out.trans hc.symm
      rw [← hc, hec]
      have e1 : (c == c) = true := by simp
      have e2 : ((c == 8) == (c == 8)) = true := by simp
      clear hc hec
      go_wp2_with fail
      refine (KW.out _ (N0.out.trans hnr.out)).mono ?_
      rintro e w6 ⟨rfl, n6⟩
      go_wp2_with fail
      go_ret
      exact ⟨rfl, (N0.out.trans hnr.out).trans n6⟩

end Go.Proofs.YtljcebahjfifhaaDoor
