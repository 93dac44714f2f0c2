import Derived.Test.YtonngfogbnfbnaaGreatSoHBZ8
import Derived.Test.YtonngfogbnfbnaaGreatSoGZ8
import Derived.Test.YtonngfogbnfbnaaGreatSoSZ8

/- Package soup: one found. -/
namespace Go.Proofs.YtonngfogbnfbnaaGreat
open Go.RowKit
set_option linter.unusedVariables false

/-- What is found: the one at z, or the zero one. -/
def BoxR.got (l : List BoxR) (z : Int) : BoxR := if z < 0 then BoxR.zero else l[z.toNat]!
theorem BoxR.first_cases {l : List BoxR} {id z : Int} (hz : BoxR.IsFirst l id z) : z = -1 ∨ ∃ j : Nat, ∃ h : j < l.length, z = j ∧ BoxR.got l z = l[j] := by
  rcases hz with ⟨h, _⟩ | ⟨j, hj, rfl, _⟩
  · exact Or.inl h
  · refine Or.inr ⟨j, hj, rfl, ?_⟩
    unfold BoxR.got
    rw [if_neg (by omega), Int.toNat_natCast, getElem!_pos l j hj]

set_option maxHeartbeats 4000000 in
set_option maxRecDepth 100000 in
theorem b_find (S : SoupV) (id z : Int) (hz : BoxR.IsFirst S.bs id z) (w : World) (hS : S.ok w) :
    Calls Tryz.prog 23 #[.agg #[.slice S.a0 S.ts.length S.c0, .slice S.a1 S.bs.length S.c1, .slice S.a2 S.hs.length S.c2], .int .i64 id, .agg #[.func (.func 55) #[] #[], .func (.func 56) #[] #[], .int .i64 16, .int .i64 2, .func (.func 57) #[] #[]]] w fun e w' => e = .returned (.tuple #[.agg #[.int .i64 (BoxR.got S.bs z).i, .int .i64 (BoxR.got S.bs z).x0, .int .i64 (BoxR.got S.bs z).z0, .int .i64 (BoxR.got S.bs z).x1, .int .i64 (BoxR.got S.bs z).z1, .int .i64 (BoxR.got S.bs z).y0, .int .i64 (BoxR.got S.bs z).y1, .int .i64 (BoxR.got S.bs z).ar], .bool (decide (0 ≤ z))]) ∧ New w w' := by
  have hL := Lib.hid (fun b W => b_list b W)
  have hR := hS.b
  obtain ⟨ts, bs, hs, a0, a1, a2, c0, c1, c2⟩ := S
  simp only at hR hz ⊢
  obtain ⟨-, hc1, hc2, -, HR⟩ := hR.row
  have HF := Lib.hid (fun W (n : New w W) => b_first a1 bs c1 (by omega) id z hz W (HR.keep n))
  have HR' := Lib.hid HR
  unfold maxLen at hc2
  clear hR hS HR
  rcases BoxR.first_cases hz with rfl | ⟨j, hj, rfl, hg⟩
  · have e1 : BoxR.got bs (-1) = BoxR.zero := rfl
    rw [e1]
    clear e1 hz hc1 hc2
    go_enter Tryz.func23, Tryz.ntmps23
    go_wp2_with fail
    generalize hW : World.alloc _ _ = W
    have hn : New w W := by subst hW; (repeat (first | (with_reducible exact New.refl _) | (with_reducible assumption) | ((with_reducible refine New.setB ?_ ?_ _); focus (first | omega | (simp; omega) | (simp; done))) | (with_reducible refine New.alloc ?_ _) | (with_reducible refine New.drew ?_) | (with_reducible refine New.drewN ?_ _) | (with_reducible refine New.hat ?_ _) | ((with_reducible apply New.snart); (with_reducible assumption))))
    have q1 : W.cell? ⟨w.heap.size, 1, none⟩ = some (.slice a1 bs.length c1) := by subst hW; go_simp
    have k0 : W.cell? ⟨w.heap.size + 1, 0, none⟩ = some (.func (.func 55) #[] #[]) := by subst hW; go_simp
    have k1 : W.cell? ⟨w.heap.size + 1, 1, none⟩ = some (.func (.func 56) #[] #[]) := by subst hW; go_simp
    have fz : Thr W (w.heap.size + 1 + 1) 8 := by subst hW; exact Thr.new _ _ _ _ (by simp)
    clear hW
    refine (hL.out _ _).mono ?_
    rintro e w' ⟨rfl, rfl⟩
    go_wp2_with fail
    refine (HF.out _ hn).mono ?_
    rintro e W1 ⟨rfl, n1⟩
    replace fz := fz.keep n1
    have hz1 : w.heap.size + 1 + 1 < W1.heap.size := fz.lt (by omega)
    replace hn := hn.trans n1
    clear n1 HF hL q1 k0 k1
    go_wp2_with (refine wpList_store_row rfl 39 _ _ rfl _ _ rfl rfl (fz.keep (by (repeat (first | (with_reducible exact New.refl _) | (with_reducible assumption) | ((with_reducible refine New.setB ?_ ?_ _); focus (first | omega | (simp; omega) | (simp; done))) | (with_reducible refine New.alloc ?_ _) | (with_reducible refine New.drew ?_) | (with_reducible refine New.drewN ?_ _) | (with_reducible refine New.hat ?_ _) | ((with_reducible apply New.snart); (with_reducible assumption)))))) (by kernel_rfl) (BoxR.enc_one BoxR.zero) (fun Z nZ kZ cZ => ?_))
    have nz := nZ w (by (repeat (first | (with_reducible exact New.refl _) | (with_reducible assumption) | ((with_reducible refine New.setB ?_ ?_ _); focus (first | omega | (simp; omega) | (simp; done))) | (with_reducible refine New.alloc ?_ _) | (with_reducible refine New.drew ?_) | (with_reducible refine New.drewN ?_ _) | (with_reducible refine New.hat ?_ _) | ((with_reducible apply New.snart); (with_reducible assumption))))) (by omega)
    obtain ⟨r0, r1, r2, r3, r4, r5, r6, r7⟩ := BoxR.at (x := BoxR.zero) cZ
    clear nZ kZ cZ
    refine bodyPost_ret (v := .tuple #[.agg #[.int .i64 BoxR.zero.i, .int .i64 BoxR.zero.x0, .int .i64 BoxR.zero.z0, .int .i64 BoxR.zero.x1, .int .i64 BoxR.zero.z1, .int .i64 BoxR.zero.y0, .int .i64 BoxR.zero.y1, .int .i64 BoxR.zero.ar], .bool false]) (by simp [results, Tryz.results23, go_sem, r0, r1, r2, r3, r4, r5, r6, r7]) rfl ?_
    exact ⟨rfl, nz⟩
  · rw [hg]
    have hd : decide ((0 : Int) ≤ (j : Int)) = true := by simp
    rw [hd]
    clear hd hz hg
    go_enter Tryz.func23, Tryz.ntmps23
    go_wp2_with fail
    generalize hW : World.alloc _ _ = W
    have hn : New w W := by subst hW; (repeat (first | (with_reducible exact New.refl _) | (with_reducible assumption) | ((with_reducible refine New.setB ?_ ?_ _); focus (first | omega | (simp; omega) | (simp; done))) | (with_reducible refine New.alloc ?_ _) | (with_reducible refine New.drew ?_) | (with_reducible refine New.drewN ?_ _) | (with_reducible refine New.hat ?_ _) | ((with_reducible apply New.snart); (with_reducible assumption))))
    have q1 : W.cell? ⟨w.heap.size, 1, none⟩ = some (.slice a1 bs.length c1) := by subst hW; go_simp
    have k0 : W.cell? ⟨w.heap.size + 1, 0, none⟩ = some (.func (.func 55) #[] #[]) := by subst hW; go_simp
    have k1 : W.cell? ⟨w.heap.size + 1, 1, none⟩ = some (.func (.func 56) #[] #[]) := by subst hW; go_simp
    have fz : Thr W (w.heap.size + 1 + 1) 8 := by subst hW; exact Thr.new _ _ _ _ (by simp)
    clear hW
    refine (hL.out _ _).mono ?_
    rintro e w' ⟨rfl, rfl⟩
    go_wp2_with fail
    refine (HF.out _ hn).mono ?_
    rintro e W1 ⟨rfl, n1⟩
    replace fz := fz.keep n1
    have hz1 : w.heap.size + 1 + 1 < W1.heap.size := fz.lt (by omega)
    replace hn := hn.trans n1
    clear n1 HF hL q1 k0 k1
    obtain ⟨b, off, rfl, hA⟩ := HR'.out (by omega)
    have hA' := hA.keep hn
    obtain ⟨d0, d1, d2, d3, d4, d5, d6, d7⟩ := BoxR.cells hA' j hj
    clear hA hA'
    go_wp2_with (refine wpList_store_row rfl 39 _ _ rfl _ _ rfl rfl (fz.keep (by (repeat (first | (with_reducible exact New.refl _) | (with_reducible assumption) | ((with_reducible refine New.setB ?_ ?_ _); focus (first | omega | (simp; omega) | (simp; done))) | (with_reducible refine New.alloc ?_ _) | (with_reducible refine New.drew ?_) | (with_reducible refine New.drewN ?_ _) | (with_reducible refine New.hat ?_ _) | ((with_reducible apply New.snart); (with_reducible assumption)))))) (by kernel_rfl) (BoxR.enc_one bs[j]) (fun Z nZ kZ cZ => ?_))
    have nz := nZ w (by (repeat (first | (with_reducible exact New.refl _) | (with_reducible assumption) | ((with_reducible refine New.setB ?_ ?_ _); focus (first | omega | (simp; omega) | (simp; done))) | (with_reducible refine New.alloc ?_ _) | (with_reducible refine New.drew ?_) | (with_reducible refine New.drewN ?_ _) | (with_reducible refine New.hat ?_ _) | ((with_reducible apply New.snart); (with_reducible assumption))))) (by omega)
    obtain ⟨r0, r1, r2, r3, r4, r5, r6, r7⟩ := BoxR.at (x := bs[j]) cZ
    clear nZ kZ cZ
    refine bodyPost_ret (v := .tuple #[.agg #[.int .i64 bs[j].i, .int .i64 bs[j].x0, .int .i64 bs[j].z0, .int .i64 bs[j].x1, .int .i64 bs[j].z1, .int .i64 bs[j].y0, .int .i64 bs[j].y1, .int .i64 bs[j].ar], .bool true]) (by simp [results, Tryz.results23, go_sem, r0, r1, r2, r3, r4, r5, r6, r7]) rfl ?_
    exact ⟨rfl, nz⟩

end Go.Proofs.YtonngfogbnfbnaaGreat
