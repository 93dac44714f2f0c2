import Derived.Test.YtonngfogbnfbnaaGreatSoHHZ8
import Derived.Test.YtonngfogbnfbnaaGreatSoGZ8
import Derived.Test.YtonngfogbnfbnaaGreatSoSZ8

/- Package soup: one found. -/
namespace Go.Proofs.YtonngfogbnfbnaaGreat
open Go.RowKit
set_option linter.unusedVariables false

/-- What is found: the one at z, or the zero one. -/
def HopR.got (l : List HopR) (z : Int) : HopR := if z < 0 then HopR.zero else l[z.toNat]!
theorem HopR.first_cases {l : List HopR} {id z : Int} (hz : HopR.IsFirst l id z) : z = -1 ∨ ∃ j : Nat, ∃ h : j < l.length, z = j ∧ HopR.got l z = l[j] := by
  rcases hz with ⟨h, _⟩ | ⟨j, hj, rfl, _⟩
  · exact Or.inl h
  · refine Or.inr ⟨j, hj, rfl, ?_⟩
    unfold HopR.got
    rw [if_neg (by omega), Int.toNat_natCast, getElem!_pos l j hj]

set_option maxHeartbeats 4000000 in
set_option maxRecDepth 100000 in
theorem h_find (S : SoupV) (id z : Int) (hz : HopR.IsFirst S.hs id z) (w : World) (hS : S.ok w) :
    Calls Tryz.prog 25 #[.agg #[.slice S.a0 S.ts.length S.c0, .slice S.a1 S.bs.length S.c1, .slice S.a2 S.hs.length S.c2], .int .i64 id, .agg #[.func (.func 64) #[] #[], .func (.func 65) #[] #[], .int .i64 16, .int .i64 2, .func (.func 66) #[] #[]]] w fun e w' => e = .returned (.tuple #[.agg #[.int .i64 (HopR.got S.hs z).i, .int .i64 (HopR.got S.hs z).fx, .int .i64 (HopR.got S.hs z).fz, .int .i64 (HopR.got S.hs z).fy, .int .i64 (HopR.got S.hs z).tx, .int .i64 (HopR.got S.hs z).tz, .int .i64 (HopR.got S.hs z).ty, .bool (HopR.got S.hs z).bo, .int .i64 (HopR.got S.hs z).ar, .int .i64 (HopR.got S.hs z).co], .bool (decide (0 ≤ z))]) ∧ New w w' := by
  have hL := Lib.hid (fun b W => h_list b W)
  have hR := hS.h
  obtain ⟨ts, bs, hs, a0, a1, a2, c0, c1, c2⟩ := S
  simp only at hR hz ⊢
  obtain ⟨-, hc1, hc2, -, HR⟩ := hR.row
  have HF := Lib.hid (fun W (n : New w W) => h_first a2 hs c2 (by omega) id z hz W (HR.keep n))
  have HR' := Lib.hid HR
  unfold maxLen at hc2
  clear hR hS HR
  rcases HopR.first_cases hz with rfl | ⟨j, hj, rfl, hg⟩
  · have e1 : HopR.got hs (-1) = HopR.zero := rfl
    rw [e1]
    clear e1 hz hc1 hc2
    go_enter Tryz.func25, Tryz.ntmps25
    go_wp2_with fail
    generalize hW : World.alloc _ _ = W
    have hn : New w W := by subst hW; (repeat (first | (with_reducible exact New.refl _) | (with_reducible assumption) | ((with_reducible refine New.setB ?_ ?_ _); focus (first | omega | (simp; omega) | (simp; done))) | (with_reducible refine New.alloc ?_ _) | (with_reducible refine New.drew ?_) | (with_reducible refine New.drewN ?_ _) | (with_reducible refine New.hat ?_ _) | ((with_reducible apply New.snart); (with_reducible assumption))))
    have q2 : W.cell? ⟨w.heap.size, 2, none⟩ = some (.slice a2 hs.length c2) := by subst hW; go_simp
    have k0 : W.cell? ⟨w.heap.size + 1, 0, none⟩ = some (.func (.func 64) #[] #[]) := by subst hW; go_simp
    have k1 : W.cell? ⟨w.heap.size + 1, 1, none⟩ = some (.func (.func 65) #[] #[]) := by subst hW; go_simp
    have fz : Thr W (w.heap.size + 1 + 1) 10 := by subst hW; exact Thr.new _ _ _ _ (by simp)
    clear hW
    refine (hL.out _ _).mono ?_
    rintro e w' ⟨rfl, rfl⟩
    go_wp2_with fail
    refine (HF.out _ hn).mono ?_
    rintro e W1 ⟨rfl, n1⟩
    replace fz := fz.keep n1
    have hz1 : w.heap.size + 1 + 1 < W1.heap.size := fz.lt (by omega)
    replace hn := hn.trans n1
    clear n1 HF hL q2 k0 k1
    go_wp2_with (refine wpList_store_row rfl 45 _ _ rfl _ _ rfl rfl (fz.keep (by (repeat (first | (with_reducible exact New.refl _) | (with_reducible assumption) | ((with_reducible refine New.setB ?_ ?_ _); focus (first | omega | (simp; omega) | (simp; done))) | (with_reducible refine New.alloc ?_ _) | (with_reducible refine New.drew ?_) | (with_reducible refine New.drewN ?_ _) | (with_reducible refine New.hat ?_ _) | ((with_reducible apply New.snart); (with_reducible assumption)))))) (by kernel_rfl) (HopR.enc_one HopR.zero) (fun Z nZ kZ cZ => ?_))
    have nz := nZ w (by (repeat (first | (with_reducible exact New.refl _) | (with_reducible assumption) | ((with_reducible refine New.setB ?_ ?_ _); focus (first | omega | (simp; omega) | (simp; done))) | (with_reducible refine New.alloc ?_ _) | (with_reducible refine New.drew ?_) | (with_reducible refine New.drewN ?_ _) | (with_reducible refine New.hat ?_ _) | ((with_reducible apply New.snart); (with_reducible assumption))))) (by omega)
    obtain ⟨r0, r1, r2, r3, r4, r5, r6, r7, r8, r9⟩ := HopR.at (x := HopR.zero) cZ
    clear nZ kZ cZ
    refine bodyPost_ret (v := .tuple #[.agg #[.int .i64 HopR.zero.i, .int .i64 HopR.zero.fx, .int .i64 HopR.zero.fz, .int .i64 HopR.zero.fy, .int .i64 HopR.zero.tx, .int .i64 HopR.zero.tz, .int .i64 HopR.zero.ty, .bool HopR.zero.bo, .int .i64 HopR.zero.ar, .int .i64 HopR.zero.co], .bool false]) (by simp [results, Tryz.results25, go_sem, r0, r1, r2, r3, r4, r5, r6, r7, r8, r9]) rfl ?_
    exact ⟨rfl, nz⟩
  · rw [hg]
    have hd : decide ((0 : Int) ≤ (j : Int)) = true := by simp
    rw [hd]
    clear hd hz hg
    go_enter Tryz.func25, Tryz.ntmps25
    go_wp2_with fail
    generalize hW : World.alloc _ _ = W
    have hn : New w W := by subst hW; (repeat (first | (with_reducible exact New.refl _) | (with_reducible assumption) | ((with_reducible refine New.setB ?_ ?_ _); focus (first | omega | (simp; omega) | (simp; done))) | (with_reducible refine New.alloc ?_ _) | (with_reducible refine New.drew ?_) | (with_reducible refine New.drewN ?_ _) | (with_reducible refine New.hat ?_ _) | ((with_reducible apply New.snart); (with_reducible assumption))))
    have q2 : W.cell? ⟨w.heap.size, 2, none⟩ = some (.slice a2 hs.length c2) := by subst hW; go_simp
    have k0 : W.cell? ⟨w.heap.size + 1, 0, none⟩ = some (.func (.func 64) #[] #[]) := by subst hW; go_simp
    have k1 : W.cell? ⟨w.heap.size + 1, 1, none⟩ = some (.func (.func 65) #[] #[]) := by subst hW; go_simp
    have fz : Thr W (w.heap.size + 1 + 1) 10 := by subst hW; exact Thr.new _ _ _ _ (by simp)
    clear hW
    refine (hL.out _ _).mono ?_
    rintro e w' ⟨rfl, rfl⟩
    go_wp2_with fail
    refine (HF.out _ hn).mono ?_
    rintro e W1 ⟨rfl, n1⟩
    replace fz := fz.keep n1
    have hz1 : w.heap.size + 1 + 1 < W1.heap.size := fz.lt (by omega)
    replace hn := hn.trans n1
    clear n1 HF hL q2 k0 k1
    obtain ⟨b, off, rfl, hA⟩ := HR'.out (by omega)
    have hA' := hA.keep hn
    obtain ⟨d0, d1, d2, d3, d4, d5, d6, d7, d8, d9⟩ := HopR.cells hA' j hj
    clear hA hA'
    go_wp2_with (refine wpList_store_row rfl 45 _ _ rfl _ _ rfl rfl (fz.keep (by (repeat (first | (with_reducible exact New.refl _) | (with_reducible assumption) | ((with_reducible refine New.setB ?_ ?_ _); focus (first | omega | (simp; omega) | (simp; done))) | (with_reducible refine New.alloc ?_ _) | (with_reducible refine New.drew ?_) | (with_reducible refine New.drewN ?_ _) | (with_reducible refine New.hat ?_ _) | ((with_reducible apply New.snart); (with_reducible assumption)))))) (by kernel_rfl) (HopR.enc_one hs[j]) (fun Z nZ kZ cZ => ?_))
    have nz := nZ w (by (repeat (first | (with_reducible exact New.refl _) | (with_reducible assumption) | ((with_reducible refine New.setB ?_ ?_ _); focus (first | omega | (simp; omega) | (simp; done))) | (with_reducible refine New.alloc ?_ _) | (with_reducible refine New.drew ?_) | (with_reducible refine New.drewN ?_ _) | (with_reducible refine New.hat ?_ _) | ((with_reducible apply New.snart); (with_reducible assumption))))) (by omega)
    obtain ⟨r0, r1, r2, r3, r4, r5, r6, r7, r8, r9⟩ := HopR.at (x := hs[j]) cZ
    clear nZ kZ cZ
    refine bodyPost_ret (v := .tuple #[.agg #[.int .i64 hs[j].i, .int .i64 hs[j].fx, .int .i64 hs[j].fz, .int .i64 hs[j].fy, .int .i64 hs[j].tx, .int .i64 hs[j].tz, .int .i64 hs[j].ty, .bool hs[j].bo, .int .i64 hs[j].ar, .int .i64 hs[j].co], .bool true]) (by simp [results, Tryz.results25, go_sem, r0, r1, r2, r3, r4, r5, r6, r7, r8, r9]) rfl ?_
    exact ⟨rfl, nz⟩

end Go.Proofs.YtonngfogbnfbnaaGreat
