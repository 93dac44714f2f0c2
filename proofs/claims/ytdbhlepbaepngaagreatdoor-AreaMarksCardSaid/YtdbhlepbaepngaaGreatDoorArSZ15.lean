import Derived.ChangeKeysEq
import Derived.Test.YtdbhlepbaepngaaGreatDoorArNZ15
import Derived.Test.YtdbhlepbaepngaaGreatDoorArQZ15
import Derived.Test.YtdbhlepbaepngaaGreatDoorArKZ15
import Derived.Test.YtdbhlepbaepngaaGreatDoorArHZ15
import Derived.Test.YtdbhlepbaepngaaGreatDoorOgSZ15

/- The law AreaMarks. -/
namespace Go.Proofs.YtdbhlepbaepngaaGreatDoor
open Go.RowKit
set_option linter.unusedVariables false

theorem arr_eql (w : World) (c0 c1 c2 c3 c4 c5 c6 c7 : Int) : (binOp .eql 34 (.agg #[.int .i64 c0, .int .i64 c1, .int .i64 c2, .int .i64 c3, .int .i64 c4, .int .i64 c5, .int .i64 c6, .int .i64 c7]) (.agg #[.int .i64 c0, .int .i64 c1, .int .i64 c2, .int .i64 c3, .int .i64 c4, .int .i64 c5, .int .i64 c6, .int .i64 c7])).run Tryz.prog w = .ok (.bool true) w := by
  have hi : (Tryz.prog.info? 3).map (fun i => i.size) = some 1 := by kernel_rfl
  obtain ⟨i0, hi0⟩ : ∃ i0, Tryz.prog.info? 3 = some i0 := by
    cases h : Tryz.prog.info? 3 with
    | none => rw [h] at hi; cases hi
    | some i => exact ⟨i, rfl⟩
  have hc : Tryz.prog.cellsOf 3 = 1 := by kernel_rfl
  have e := run_equalIn_array (P := Tryz.prog) w 9999 (t := 34) (e := 3) (n := 8) (i := i0) #[.int .i64 c0, .int .i64 c1, .int .i64 c2, .int .i64 c3, .int .i64 c4, .int .i64 c5, .int .i64 c6, .int .i64 c7] #[.int .i64 c0, .int .i64 c1, .int .i64 c2, .int .i64 c3, .int .i64 c4, .int .i64 c5, .int .i64 c6, .int .i64 c7] (by kernel_rfl) hi0
  have hr : List.range 8 = [0, 1, 2, 3, 4, 5, 6, 7] := rfl
  rw [hr, hc] at e
  have h2 : (Op.eqItems 9999 3 1 #[.int .i64 c0, .int .i64 c1, .int .i64 c2, .int .i64 c3, .int .i64 c4, .int .i64 c5, .int .i64 c6, .int .i64 c7] #[.int .i64 c0, .int .i64 c1, .int .i64 c2, .int .i64 c3, .int .i64 c4, .int .i64 c5, .int .i64 c6, .int .i64 c7] [0, 1, 2, 3, 4, 5, 6, 7]).run Tryz.prog w = .ok true w := by
    simp only [Op.eqItems]
    go_simp
  go_simp
theorem same_outs {E : Int} {A B G : Gd} {l : List BoxR} (hE : E = 0 → gE G = 0 ∧ ∀ b ∈ l, 0 ≤ b.ar ∧ b.ar ≤ 7) (a1 : E = 0 → A.x = G.x ∧ A.z = G.z ∧ A.w = G.w ∧ A.d = G.d ∧ A.L = markL G l) (a2 : E ≠ 0 → A.x = 0 ∧ A.z = 0 ∧ A.w = 0 ∧ A.d = 0 ∧ A.L = [])
    (b1 : E = 0 → B.x = G.x ∧ B.z = G.z ∧ B.w = G.w ∧ B.d = G.d ∧ B.L = markL G l) (b2 : E ≠ 0 → B.x = 0 ∧ B.z = 0 ∧ B.w = 0 ∧ B.d = 0 ∧ B.L = []) : sameG A B = true ∧ smallL A.L ∧ smallL B.L := by
  by_cases h : E = 0
  · obtain ⟨h1, h2⟩ := hE h
    obtain ⟨q1, q2, q3, q4, q5⟩ := a1 h
    obtain ⟨p1, p2, p3, p4, p5⟩ := b1 h
    have hA : MadeBy A G l := ⟨q1, q2, q3, q4, q5⟩
    have hB : MadeBy B G l := ⟨p1, p2, p3, p4, p5⟩
    exact ⟨sameG_made hA hB, smallL_fine (hA.fine h1 h2), smallL_fine (hB.fine h1 h2)⟩
  · obtain ⟨q1, q2, q3, q4, q5⟩ := a2 h
    obtain ⟨p1, p2, p3, p4, p5⟩ := b2 h
    refine ⟨?_, ?_, ?_⟩
    · unfold sameG eqR
      rw [q1, q2, q3, q4, q5, p1, p2, p3, p4, p5]
      simp
    · rw [q5]; exact fun j hj => absurd hj (by simp)
    · rw [p5]; exact fun j hj => absurd hj (by simp)

set_option maxHeartbeats 8000000 in
set_option maxRecDepth 100000 in
theorem l_areaMarks (C : CfgR) (G : Gd) (at0 : Option Addr) (l : List BoxR) (cap : Nat) (w : World) (hN : Nowhere w) (hG : G.ok w) (hs : Sl BoxR.enc 8 w (.slice at0 l.length cap) l) :
    Calls Tryz.prog 3 #[.agg #[.int .i64 C.cl, .int .i64 C.cb, .int .i64 C.ht, .int .i64 C.ri, .int .i64 C.ru, .int .i64 C.wd, .int .i64 C.dp], .agg #[.int .i64 G.x, .int .i64 G.z, .int .i64 G.w, .int .i64 G.d, .slice G.ga G.L.length G.gc], .slice at0 l.length cap] w fun e w' => e = .returned (.bool true) ∧ New w w' := by
  have HL := hs.row'.2.2.2.2
  have hll : l.length ≤ maxLen := Nat.le_trans hs.row'.2.1 hs.row'.2.2.1
  have KW := Lib.hid (fun W n => ar_wakes W (hN.new (n : New w W)))
  have KG := Lib.hid (fun W n => ar_great G W (hG.keep (n : New w W)))
  have KM := Lib.hid (fun W n => ar_Mark C G at0 l cap hll W (hN.new (n : New w W)) (hG.keep n) (HL.keep n))
  have KR := Lib.hid (fun W n => rr_Mark C G at0 l cap hll W (hG.keep (n : New w W)) (HL.keep n))
  have KC := Lib.hid (fun W n => ar_Count G W (hG.keep (n : New w W)))
  have KD := Lib.hid (fun W n => rr_Count G W (hG.keep (n : New w W)))
  have hE0 : markE C G l = 0 → gE G = 0 ∧ ∀ b ∈ l, 0 ≤ b.ar ∧ b.ar ≤ 7 := fun h => by
    obtain ⟨-, q2, -, q4⟩ := markE_is h
    exact ⟨q2, fun b hb => may_area (q4 b hb)⟩
  generalize markE C G l = E at *
  have HSO := Lib.hid (fun (A B : Gd) a1 a2 b1 b2 => same_outs (A := A) (B := B) hE0 a1 a2 b1 b2)
  generalize markL G l = F at *
  generalize cntS (allG (colG G)) = cn at *
  unfold cntV at KC KD
  obtain ⟨gn, hgn⟩ : ∃ q, q = G.L.length := ⟨_, rfl⟩
  obtain ⟨ln, hln⟩ : ∃ q, q = l.length := ⟨_, rfl⟩
  rw [← hgn] at KG KM KR KC KD ⊢
  rw [← hln] at KM KR ⊢
  have HGN := Lib.hid hgn
  clear hgn hln hG hN hs HL hE0 hll
  go_enter Tryz.func3, Tryz.ntmps3
  go_upto_region 1 with fail
  refine Code.at (fun W0 hW => ?_)
  have n0 : New w W0 := by subst hW; (repeat (first | (with_reducible exact New.refl _) | (with_reducible assumption) | ((with_reducible refine New.setB ?_ ?_ _); focus (first | omega | (simp; omega) | (simp; done))) | (with_reducible refine New.alloc ?_ _) | (with_reducible refine New.drew ?_) | (with_reducible refine New.drewN ?_ _) | (with_reducible refine New.hat ?_ _) | ((with_reducible apply New.snart); (with_reducible assumption))))
  have c0 : W0.cell? ⟨w.heap.size, 0, none⟩ = some (.int .i64 C.cl) := by subst hW; go_simp
  have c1 : W0.cell? ⟨w.heap.size, 1, none⟩ = some (.int .i64 C.cb) := by subst hW; go_simp
  have c2 : W0.cell? ⟨w.heap.size, 2, none⟩ = some (.int .i64 C.ht) := by subst hW; go_simp
  have c3 : W0.cell? ⟨w.heap.size, 3, none⟩ = some (.int .i64 C.ri) := by subst hW; go_simp
  have c4 : W0.cell? ⟨w.heap.size, 4, none⟩ = some (.int .i64 C.ru) := by subst hW; go_simp
  have c5 : W0.cell? ⟨w.heap.size, 5, none⟩ = some (.int .i64 C.wd) := by subst hW; go_simp
  have c6 : W0.cell? ⟨w.heap.size, 6, none⟩ = some (.int .i64 C.dp) := by subst hW; go_simp
  have g0 : W0.cell? ⟨w.heap.size + 1, 0, none⟩ = some (.int .i64 G.x) := by subst hW; go_simp
  have g1 : W0.cell? ⟨w.heap.size + 1, 1, none⟩ = some (.int .i64 G.z) := by subst hW; go_simp
  have g2 : W0.cell? ⟨w.heap.size + 1, 2, none⟩ = some (.int .i64 G.w) := by subst hW; go_simp
  have g3 : W0.cell? ⟨w.heap.size + 1, 3, none⟩ = some (.int .i64 G.d) := by subst hW; go_simp
  have g4 : W0.cell? ⟨w.heap.size + 1, 4, none⟩ = some (.slice G.ga gn G.gc) := by subst hW; go_simp
  clear hW
  obtain ⟨Bc, hBc⟩ : ∃ q, q = w.heap.size := ⟨_, rfl⟩
  obtain ⟨Bg, hBg⟩ : ∃ q, q = w.heap.size + 1 := ⟨_, rfl⟩
  rw [← hBg] at g0 g1 g2 g3 g4
  rw [← hBc] at c0 c1 c2 c3 c4 c5 c6
  rw [← hBg, ← hBc]
  clear hBc hBg
  have HC := Lib.hid (fun W (q : New W0 W) => And.intro (q.keep c0) (And.intro (q.keep c1) (And.intro (q.keep c2) (And.intro (q.keep c3) (And.intro (q.keep c4) (And.intro (q.keep c5) (q.keep c6)))))))
  have HG := Lib.hid (fun W (q : New W0 W) => And.intro (q.keep g0) (And.intro (q.keep g1) (And.intro (q.keep g2) (And.intro (q.keep g3) (q.keep g4)))))
  have N0 := Lib.hid n0
  clear n0 c0 c1 c2 c3 c4 c5 c6
  go_wp2_with fail
  refine (KG.out _ N0.out).mono ?_
  rintro e w1 ⟨b1, rfl, hb1, n1⟩
  have N1 := Lib.hid n1
  clear n1 g0 g1 g2 g3 g4 KG hb1
  cases b1
  rotate_left
  · go_wp2_with fail
    refine (KW.out _ (N0.out.trans N1.out)).mono ?_
    rintro e w2 ⟨rfl, n2⟩
    have nn := N0.out.trans (N1.out.trans n2)
    go_wp2_with fail
    go_ret
    exact ⟨rfl, nn⟩
  by_cases h100 : 100 < ln
  · have hd : decide (100 < ln) = true := decide_eq_true h100
    have hd2 : ((ln : Int) > 100) := by omega
    clear h100
    go_wp2_with fail
    refine (KW.out _ (N0.out.trans N1.out)).mono ?_
    rintro e w2 ⟨rfl, n2⟩
    have nn := N0.out.trans (N1.out.trans n2)
    go_wp2_with fail
    go_ret
    exact ⟨rfl, nn⟩
  have hd : decide (100 < ln) = false := decide_eq_false h100
  have hd2 : ¬ ((ln : Int) > 100) := by omega
  obtain ⟨c0, c1, c2, c3, c4, c5, c6⟩ := HC.out _ N1.out
  obtain ⟨g0, g1, g2, g3, g4⟩ := HG.out _ N1.out
  clear h100
  go_wp2_with fail
  refine (KM.out _ (N0.out.trans N1.out)).mono ?_
  rintro e w4 ⟨A, rfl, hAr, hA1, hA2, n4⟩
  clear c0 c1 c2 c3 c4 c5 c6 g0 g1 g2 g3 g4 KM hd hd2
  go_upto_region 4 with fail
  refine Code.at (fun W5 hW => ?_)
  have n5 : New w4 W5 := by subst hW; (repeat (first | (with_reducible exact New.refl _) | (with_reducible assumption) | ((with_reducible refine New.setB ?_ ?_ _); focus (first | omega | (simp; omega) | (simp; done))) | (with_reducible refine New.alloc ?_ _) | (with_reducible refine New.drew ?_) | (with_reducible refine New.drewN ?_ _) | (with_reducible refine New.hat ?_ _) | ((with_reducible apply New.snart); (with_reducible assumption))))
  have u0 : W5.cell? ⟨w4.heap.size, 0, none⟩ = some (.int .i64 A.x) := by subst hW; go_simp
  have u1 : W5.cell? ⟨w4.heap.size, 1, none⟩ = some (.int .i64 A.z) := by subst hW; go_simp
  have u2 : W5.cell? ⟨w4.heap.size, 2, none⟩ = some (.int .i64 A.w) := by subst hW; go_simp
  have u3 : W5.cell? ⟨w4.heap.size, 3, none⟩ = some (.int .i64 A.d) := by subst hW; go_simp
  have u4 : W5.cell? ⟨w4.heap.size, 4, none⟩ = some (.slice A.ga A.L.length A.gc) := by subst hW; go_simp
  clear hW
  obtain ⟨PA, hPA⟩ : ∃ q, q = w4.heap.size := ⟨_, rfl⟩
  rw [← hPA] at u0 u1 u2 u3 u4
  rw [← hPA]
  clear hPA
  have HA := Lib.hid (fun W (q : New W5 W) => And.intro (q.keep u0) (And.intro (q.keep u1) (And.intro (q.keep u2) (And.intro (q.keep u3) (q.keep u4)))))
  have HAK := Lib.hid (fun W (n : New W5 W) => (hAr.rows.keep (n5.trans n) : A.ok W))
  have HA1 := Lib.hid hA1
  have HA2 := Lib.hid hA2
  have N5 := Lib.hid (N1.out.trans (n4.trans n5))
  clear u0 u1 u2 u3 u4 hAr hA1 hA2 n4 n5
  obtain ⟨c0, c1, c2, c3, c4, c5, c6⟩ := HC.out _ N5.out
  obtain ⟨g0, g1, g2, g3, g4⟩ := HG.out _ N5.out
  go_wp2_with fail
  refine (KR.out _ (N0.out.trans N5.out)).mono ?_
  rintro e w6 ⟨B, rfl, hBok, hB1, hB2, n6⟩
  clear c0 c1 c2 c3 c4 c5 c6 g0 g1 g2 g3 g4 KR
  go_upto_region 5 with fail
  refine Code.at (fun W7 hW => ?_)
  have n7 : New w6 W7 := by subst hW; (repeat (first | (with_reducible exact New.refl _) | (with_reducible assumption) | ((with_reducible refine New.setB ?_ ?_ _); focus (first | omega | (simp; omega) | (simp; done))) | (with_reducible refine New.alloc ?_ _) | (with_reducible refine New.drew ?_) | (with_reducible refine New.drewN ?_ _) | (with_reducible refine New.hat ?_ _) | ((with_reducible apply New.snart); (with_reducible assumption))))
  have v0 : W7.cell? ⟨w6.heap.size, 0, none⟩ = some (.int .i64 B.x) := by subst hW; go_simp
  have v1 : W7.cell? ⟨w6.heap.size, 1, none⟩ = some (.int .i64 B.z) := by subst hW; go_simp
  have v2 : W7.cell? ⟨w6.heap.size, 2, none⟩ = some (.int .i64 B.w) := by subst hW; go_simp
  have v3 : W7.cell? ⟨w6.heap.size, 3, none⟩ = some (.int .i64 B.d) := by subst hW; go_simp
  have v4 : W7.cell? ⟨w6.heap.size, 4, none⟩ = some (.slice B.ga B.L.length B.gc) := by subst hW; go_simp
  clear hW
  obtain ⟨PB, hPB⟩ : ∃ q, q = w6.heap.size := ⟨_, rfl⟩
  rw [← hPB] at v0 v1 v2 v3 v4
  rw [← hPB]
  clear hPB
  obtain ⟨hsame, hsA, hsB⟩ := HSO.out A B HA1.out HA2.out hB1 hB2
  have n67 := n6.trans n7
  have N7 := Lib.hid (N5.out.trans n67)
  have F1 : Hid (∀ q : Hat W7, Calls Tryz.prog 8 #[.agg #[.int .i64 A.x, .int .i64 A.z, .int .i64 A.w, .int .i64 A.d, .slice A.ga A.L.length A.gc], .agg #[.int .i64 B.x, .int .i64 B.z, .int .i64 B.w, .int .i64 B.d, .slice B.ga B.L.length B.gc]] q.w fun e w' => e = .returned (.bool true) ∧ New q.w w') := Lib.hid (fun q => by
    have h := rg_Same A B hsA hsB q.w (HAK.out q.w (n67.trans q.h)) (hBok.keep (n7.trans q.h))
    rw [hsame] at h
    exact h)
  have F2 := Lib.hid (fun (q : Hat W7) => KC.out q.w (N0.out.trans (N7.out.trans q.h)))
  have F3 := Lib.hid (fun (q : Hat W7) => KD.out q.w (N0.out.trans (N7.out.trans q.h)))
  have F4 := Lib.hid (fun (q : Hat W7) => KW.out q.w (N0.out.trans (N7.out.trans q.h)))
  obtain ⟨u0, u1, u2, u3, u4⟩ := HA.out _ n67
  obtain ⟨g0, g1, g2, g3, g4⟩ := HG.out _ N7.out
  have hEE : (E == E) = true := by simp
  have hq := fun W => arr_eql W (cn 0) (cn 1) (cn 2) (cn 3) (cn 4) (cn 5) (cn 6) (cn 7)
  clear hBok hB1 hB2 n6 n7 n67 hsame hsA hsB HSO KC KD
  generalize cn 0 = k0 at *
  generalize cn 1 = k1 at *
  generalize cn 2 = k2 at *
  generalize cn 3 = k3 at *
  generalize cn 4 = k4 at *
  generalize cn 5 = k5 at *
  generalize cn 6 = k6 at *
  generalize cn 7 = k7 at *
  (refine wp_region_hat (by kernel_rfl) (by kernel_rfl) ?_; intro hatc hatf; (repeat (go_big_quiet_step ((first | (go_at_call 8; with_reducible exact Calls.hat (F1.out _)) | (go_at_call 9; with_reducible exact Calls.hat (F2.out _)) | (go_at_call 10; with_reducible exact Calls.hat (F3.out _)) | (go_at_call 5; with_reducible exact Calls.hat (F4.out _)))))); refine wpQuiet_nil ?_; rintro _ ⟨q, rfl⟩)
  have nn := N0.out.trans (N7.out.trans q.h)
  clear u0 u1 u2 u3 u4 g0 g1 g2 g3 g4 v0 v1 v2 v3 v4 hq hEE
  go_wp2_with fail
  go_ret
  exact ⟨rfl, nn⟩

end Go.Proofs.YtdbhlepbaepngaaGreatDoor
