import Derived.Test.YtonngfogbnfbnaaGreatSoHTZ8
import Derived.Test.YtonngfogbnfbnaaGreatSoGZ8
import Derived.Test.YtonngfogbnfbnaaGreatSoSZ8

/- Package soup: one found. -/
namespace Go.Proofs.YtonngfogbnfbnaaGreat
open Go.RowKit
set_option linter.unusedVariables false

/-- What is found: the one at z, or the zero one. -/
def TriR.got (l : List TriR) (z : Int) : TriR := if z < 0 then TriR.zero else l[z.toNat]!
theorem TriR.first_cases {l : List TriR} {id z : Int} (hz : TriR.IsFirst l id z) : z = -1 ∨ ∃ j : Nat, ∃ h : j < l.length, z = j ∧ TriR.got l z = l[j] := by
  rcases hz with ⟨h, _⟩ | ⟨j, hj, rfl, _⟩
  · exact Or.inl h
  · refine Or.inr ⟨j, hj, rfl, ?_⟩
    unfold TriR.got
    rw [if_neg (by omega), Int.toNat_natCast, getElem!_pos l j hj]

set_option maxHeartbeats 4000000 in
set_option maxRecDepth 100000 in
theorem t_find (S : SoupV) (id z : Int) (hz : TriR.IsFirst S.ts id z) (w : World) (hS : S.ok w) :
    Calls Tryz.prog 21 #[.agg #[.slice S.a0 S.ts.length S.c0, .slice S.a1 S.bs.length S.c1, .slice S.a2 S.hs.length S.c2], .int .i64 id, .agg #[.func (.func 49) #[] #[], .func (.func 50) #[] #[], .int .i64 200, .int .i64 40, .func (.func 51) #[] #[]]] w fun e w' => e = .returned (.tuple #[.agg #[.int .i64 (TriR.got S.ts z).i, .int .i64 (TriR.got S.ts z).x0, .int .i64 (TriR.got S.ts z).y0, .int .i64 (TriR.got S.ts z).z0, .int .i64 (TriR.got S.ts z).x1, .int .i64 (TriR.got S.ts z).y1, .int .i64 (TriR.got S.ts z).z1, .int .i64 (TriR.got S.ts z).x2, .int .i64 (TriR.got S.ts z).y2, .int .i64 (TriR.got S.ts z).z2], .bool (decide (0 ≤ z))]) ∧ New w w' := by
  have hL := Lib.hid (fun b W => t_list b W)
  have hR := hS.t
  obtain ⟨ts, bs, hs, a0, a1, a2, c0, c1, c2⟩ := S
  simp only at hR hz ⊢
  obtain ⟨-, hc1, hc2, -, HR⟩ := hR.row
  have HF := Lib.hid (fun W (n : New w W) => t_first a0 ts c0 (by omega) id z hz W (HR.keep n))
  have HR' := Lib.hid HR
  unfold maxLen at hc2
  clear hR hS HR
  rcases TriR.first_cases hz with rfl | ⟨j, hj, rfl, hg⟩
  · have e1 : TriR.got ts (-1) = TriR.zero := rfl
    rw [e1]
    clear e1 hz hc1 hc2
    go_enter Tryz.func21, Tryz.ntmps21
    go_wp2_with fail
    generalize hW : World.alloc _ _ = W
    have hn : New w W := by subst hW; (repeat (first | (with_reducible exact New.refl _) | (with_reducible assumption) | ((with_reducible refine New.setB ?_ ?_ _); focus (first | omega | (simp; omega) | (simp; done))) | (with_reducible refine New.alloc ?_ _) | (with_reducible refine New.drew ?_) | (with_reducible refine New.drewN ?_ _) | (with_reducible refine New.hat ?_ _) | ((with_reducible apply New.snart); (with_reducible assumption))))
    have q0 : W.cell? ⟨w.heap.size, 0, none⟩ = some (.slice a0 ts.length c0) := by subst hW; go_simp
    have k0 : W.cell? ⟨w.heap.size + 1, 0, none⟩ = some (.func (.func 49) #[] #[]) := by subst hW; go_simp
    have k1 : W.cell? ⟨w.heap.size + 1, 1, none⟩ = some (.func (.func 50) #[] #[]) := by subst hW; go_simp
    have fz : Thr W (w.heap.size + 1 + 1) 10 := by subst hW; exact Thr.new _ _ _ _ (by simp)
    clear hW
    refine (hL.out _ _).mono ?_
    rintro e w' ⟨rfl, rfl⟩
    go_wp2_with fail
    refine (HF.out _ hn).mono ?_
    rintro e W1 ⟨rfl, n1⟩
    replace fz := fz.keep n1
    have hz1 : w.heap.size + 1 + 1 < W1.heap.size := fz.lt (by omega)
    replace hn := hn.trans n1
    clear n1 HF hL q0 k0 k1
    go_wp2_with (refine wpList_store_row rfl 35 _ _ rfl _ _ rfl rfl (fz.keep (by (repeat (first | (with_reducible exact New.refl _) | (with_reducible assumption) | ((with_reducible refine New.setB ?_ ?_ _); focus (first | omega | (simp; omega) | (simp; done))) | (with_reducible refine New.alloc ?_ _) | (with_reducible refine New.drew ?_) | (with_reducible refine New.drewN ?_ _) | (with_reducible refine New.hat ?_ _) | ((with_reducible apply New.snart); (with_reducible assumption)))))) (by kernel_rfl) (TriR.enc_one TriR.zero) (fun Z nZ kZ cZ => ?_))
    have nz := nZ w (by (repeat (first | (with_reducible exact New.refl _) | (with_reducible assumption) | ((with_reducible refine New.setB ?_ ?_ _); focus (first | omega | (simp; omega) | (simp; done))) | (with_reducible refine New.alloc ?_ _) | (with_reducible refine New.drew ?_) | (with_reducible refine New.drewN ?_ _) | (with_reducible refine New.hat ?_ _) | ((with_reducible apply New.snart); (with_reducible assumption))))) (by omega)
    obtain ⟨r0, r1, r2, r3, r4, r5, r6, r7, r8, r9⟩ := TriR.at (x := TriR.zero) cZ
    clear nZ kZ cZ
    refine bodyPost_ret (v := .tuple #[.agg #[.int .i64 TriR.zero.i, .int .i64 TriR.zero.x0, .int .i64 TriR.zero.y0, .int .i64 TriR.zero.z0, .int .i64 TriR.zero.x1, .int .i64 TriR.zero.y1, .int .i64 TriR.zero.z1, .int .i64 TriR.zero.x2, .int .i64 TriR.zero.y2, .int .i64 TriR.zero.z2], .bool false]) (by simp [results, Tryz.results21, go_sem, r0, r1, r2, r3, r4, r5, r6, r7, r8, r9]) rfl ?_
    exact ⟨rfl, nz⟩
  · rw [hg]
    have hd : decide ((0 : Int) ≤ (j : Int)) = true := by simp
    rw [hd]
    clear hd hz hg
    go_enter Tryz.func21, Tryz.ntmps21
    go_wp2_with fail
    generalize hW : World.alloc _ _ = W
    have hn : New w W := by subst hW; (repeat (first | (with_reducible exact New.refl _) | (with_reducible assumption) | ((with_reducible refine New.setB ?_ ?_ _); focus (first | omega | (simp; omega) | (simp; done))) | (with_reducible refine New.alloc ?_ _) | (with_reducible refine New.drew ?_) | (with_reducible refine New.drewN ?_ _) | (with_reducible refine New.hat ?_ _) | ((with_reducible apply New.snart); (with_reducible assumption))))
    have q0 : W.cell? ⟨w.heap.size, 0, none⟩ = some (.slice a0 ts.length c0) := by subst hW; go_simp
    have k0 : W.cell? ⟨w.heap.size + 1, 0, none⟩ = some (.func (.func 49) #[] #[]) := by subst hW; go_simp
    have k1 : W.cell? ⟨w.heap.size + 1, 1, none⟩ = some (.func (.func 50) #[] #[]) := by subst hW; go_simp
    have fz : Thr W (w.heap.size + 1 + 1) 10 := by subst hW; exact Thr.new _ _ _ _ (by simp)
    clear hW
    refine (hL.out _ _).mono ?_
    rintro e w' ⟨rfl, rfl⟩
    go_wp2_with fail
    refine (HF.out _ hn).mono ?_
    rintro e W1 ⟨rfl, n1⟩
    replace fz := fz.keep n1
    have hz1 : w.heap.size + 1 + 1 < W1.heap.size := fz.lt (by omega)
    replace hn := hn.trans n1
    clear n1 HF hL q0 k0 k1
    obtain ⟨b, off, rfl, hA⟩ := HR'.out (by omega)
    have hA' := hA.keep hn
    obtain ⟨d0, d1, d2, d3, d4, d5, d6, d7, d8, d9⟩ := TriR.cells hA' j hj
    clear hA hA'
    go_wp2_with (refine wpList_store_row rfl 35 _ _ rfl _ _ rfl rfl (fz.keep (by (repeat (first | (with_reducible exact New.refl _) | (with_reducible assumption) | ((with_reducible refine New.setB ?_ ?_ _); focus (first | omega | (simp; omega) | (simp; done))) | (with_reducible refine New.alloc ?_ _) | (with_reducible refine New.drew ?_) | (with_reducible refine New.drewN ?_ _) | (with_reducible refine New.hat ?_ _) | ((with_reducible apply New.snart); (with_reducible assumption)))))) (by kernel_rfl) (TriR.enc_one ts[j]) (fun Z nZ kZ cZ => ?_))
    have nz := nZ w (by (repeat (first | (with_reducible exact New.refl _) | (with_reducible assumption) | ((with_reducible refine New.setB ?_ ?_ _); focus (first | omega | (simp; omega) | (simp; done))) | (with_reducible refine New.alloc ?_ _) | (with_reducible refine New.drew ?_) | (with_reducible refine New.drewN ?_ _) | (with_reducible refine New.hat ?_ _) | ((with_reducible apply New.snart); (with_reducible assumption))))) (by omega)
    obtain ⟨r0, r1, r2, r3, r4, r5, r6, r7, r8, r9⟩ := TriR.at (x := ts[j]) cZ
    clear nZ kZ cZ
    refine bodyPost_ret (v := .tuple #[.agg #[.int .i64 ts[j].i, .int .i64 ts[j].x0, .int .i64 ts[j].y0, .int .i64 ts[j].z0, .int .i64 ts[j].x1, .int .i64 ts[j].y1, .int .i64 ts[j].z1, .int .i64 ts[j].x2, .int .i64 ts[j].y2, .int .i64 ts[j].z2], .bool true]) (by simp [results, Tryz.results21, go_sem, r0, r1, r2, r3, r4, r5, r6, r7, r8, r9]) rfl ?_
    exact ⟨rfl, nz⟩

end Go.Proofs.YtonngfogbnfbnaaGreat
