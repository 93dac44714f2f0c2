import Derived.Test.YtonngfogbnfbnaaGreatSoIHZ8

/- The document's package of soups: one found. -/
namespace Go.Proofs.YtonngfogbnfbnaaGreat
open Go.RowKit
set_option linter.unusedVariables false
set_option maxRecDepth 100000

set_option maxHeartbeats 4000000 in
theorem u_hget (S : SoupV) (id z : Int) (hz : HopR.IsFirst S.hs id z) (w : World) (hS : S.ok w) :
    Calls Tryz.prog 11 #[.agg #[.slice S.a0 S.ts.length S.c0, .slice S.a1 S.bs.length S.c1, .slice S.a2 S.hs.length S.c2], .int .i64 id] w fun e w' => e = .returned (.tuple #[.agg #[.int .i64 (HopR.got S.hs z).i, .int .i64 (HopR.got S.hs z).fx, .int .i64 (HopR.got S.hs z).fz, .int .i64 (HopR.got S.hs z).fy, .int .i64 (HopR.got S.hs z).tx, .int .i64 (HopR.got S.hs z).tz, .int .i64 (HopR.got S.hs z).ty, .bool (HopR.got S.hs z).bo, .int .i64 (HopR.got S.hs z).ar, .int .i64 (HopR.got S.hs z).co], .bool (decide (0 ≤ z))]) ∧ New w w' := by
  have HR := Lib.hid hS.h.row.2.2.2.2
  have hml := Nat.le_trans hS.h.row.2.1 hS.h.row.2.2.1
  unfold maxLen at hml
  obtain ⟨ts, bs, hs, a0, a1, a2, k0, k1, k2⟩ := S
  dsimp only at *
  clear hS
  have GN : Hid ((∀ j (h : j < hs.length), hs[j].i ≠ id) → z = -1) := Lib.hid (fun h => HopR.first_none hz h)
  have GH : Hid (∀ j (h : j < hs.length), hs[j].i = id → (∀ k (hk : k < j), hs[k].i ≠ id) → z = j ∧ HopR.got hs z = hs[j]) := Lib.hid (fun j h e hb => by
    have e1 := HopR.first_hit hz h e hb
    refine ⟨e1, ?_⟩
    unfold HopR.got
    rw [e1, if_neg (by omega), Int.toNat_natCast, getElem!_pos hs j h])
  have GZ : Hid (z = -1 → HopR.got hs z = HopR.zero) := Lib.hid (fun e => by unfold HopR.got; rw [if_pos (by omega)])
  clear hz
  go_enter Tryz.func11, Tryz.ntmps11
  go_wp2_with fail
  refine Code.at (fun W hW => ?_)
  have hn : New w W := by subst hW; (repeat (first | (with_reducible exact New.refl _) | (with_reducible assumption) | ((with_reducible refine New.setB ?_ ?_ _); focus (first | omega | (simp; omega) | (simp; done))) | (with_reducible refine New.alloc ?_ _) | (with_reducible refine New.drew ?_) | (with_reducible refine New.drewN ?_ _) | (with_reducible refine New.hat ?_ _) | ((with_reducible apply New.snart); (with_reducible assumption))))
  have q : W.cell? ⟨w.heap.size, 2, none⟩ = some (.slice a2 hs.length k2) := by subst hW; go_simp
  have fz : Thr W (w.heap.size + 1) 10 := by subst hW; exact Thr.new _ _ _ _ (by simp)
  clear hW
  go_loopg [6] hs.length (fun k i wr => ∃ m : Nat, i = .int .i64 m ∧ m + k = hs.length ∧ (∀ j (h : j < hs.length), j < m → hs[j].i ≠ id) ∧ New W wr)
  case atStart => exact ⟨0, rfl, by omega, fun j h hj => absurd hj (by omega), New.refl _⟩
  case round =>
    obtain ⟨m, rfl, hmk, hall, nr⟩ := hrel
    have HA := Lib.hid hall
    clear hall
    replace q := New.keep nr q
    replace fz := fz.keep nr
    replace hn := hn.trans nr
    have hsz : w.heap.size + 1 < wr.heap.size := fz.lt (by omega)
    by_cases hlt : m < hs.length
    · obtain ⟨b, off, rfl, hA⟩ := HR.out (by omega)
      have hA' := hA.keep hn
      obtain ⟨d0, d1, d2, d3, d4, d5, d6, d7, d8, d9⟩ := HopR.cells hA' m hlt
      clear hA hA'
      by_cases he : hs[m].i = id
      · have GE := Lib.hid (GH.out m hlt he (fun k hk => HA.out k (by omega) hk))
        have q1 : (hs[m].i == id) = true := by simpa using he
        have hd : decide ((0 : Int) ≤ z) = true := decide_eq_true (by have := GE.out.1; omega)
        replace hd := Lib.hid hd
        clear he GN GH GZ
        go_wp2_with (refine wpList_store_row rfl 45 _ _ rfl _ _ rfl rfl (fz.keep (by (repeat (first | (with_reducible exact New.refl _) | (with_reducible assumption) | ((with_reducible refine New.setB ?_ ?_ _); focus (first | omega | (simp; omega) | (simp; done))) | (with_reducible refine New.alloc ?_ _) | (with_reducible refine New.drew ?_) | (with_reducible refine New.drewN ?_ _) | (with_reducible refine New.hat ?_ _) | ((with_reducible apply New.snart); (with_reducible assumption)))))) (by kernel_rfl) (HopR.enc_one hs[m]) (fun Z nZ kZ cZ => ?_))
        have nz := nZ w (by (repeat (first | (with_reducible exact New.refl _) | (with_reducible assumption) | ((with_reducible refine New.setB ?_ ?_ _); focus (first | omega | (simp; omega) | (simp; done))) | (with_reducible refine New.alloc ?_ _) | (with_reducible refine New.drew ?_) | (with_reducible refine New.drewN ?_ _) | (with_reducible refine New.hat ?_ _) | ((with_reducible apply New.snart); (with_reducible assumption))))) (by omega)
        obtain ⟨r0, r1, r2, r3, r4, r5, r6, r7, r8, r9⟩ := HopR.at (x := hs[m]) cZ
        clear nZ kZ cZ
        refine bodyPost_ret (v := .tuple #[.agg #[.int .i64 hs[m].i, .int .i64 hs[m].fx, .int .i64 hs[m].fz, .int .i64 hs[m].fy, .int .i64 hs[m].tx, .int .i64 hs[m].tz, .int .i64 hs[m].ty, .bool hs[m].bo, .int .i64 hs[m].ar, .int .i64 hs[m].co], .bool true]) (by simp [results, Tryz.results11, go_sem, r0, r1, r2, r3, r4, r5, r6, r7, r8, r9]) rfl ?_
        refine ⟨?_, nz⟩
        rw [GE.out.2, hd.out]
      · have q1 : (hs[m].i == id) = false := by simpa using he
        go_wp2_with fail
        go_roundg (gk - 1)
        case measure => omega
        case rel => exact ⟨m + 1, by go_num, by omega, fun j h hj => by
          rcases Nat.lt_or_ge j m with h1 | h1
          · exact HA.out j h h1
          · obtain rfl : j = m := by omega
            exact he, nr⟩
    · have hz := GN.out (fun j h => HA.out j h (by omega))
      have hd : decide ((0 : Int) ≤ z) = false := decide_eq_false (by omega)
      replace hd := Lib.hid hd
      have GE := Lib.hid (GZ.out hz)
      clear hz GN GH GZ HA
      go_wp2_with (refine wpList_store_row rfl 45 _ _ rfl _ _ rfl rfl (fz.keep (by (repeat (first | (with_reducible exact New.refl _) | (with_reducible assumption) | ((with_reducible refine New.setB ?_ ?_ _); focus (first | omega | (simp; omega) | (simp; done))) | (with_reducible refine New.alloc ?_ _) | (with_reducible refine New.drew ?_) | (with_reducible refine New.drewN ?_ _) | (with_reducible refine New.hat ?_ _) | ((with_reducible apply New.snart); (with_reducible assumption)))))) (by kernel_rfl) (HopR.enc_one HopR.zero) (fun Z nZ kZ cZ => ?_))
      have nz := nZ w (by (repeat (first | (with_reducible exact New.refl _) | (with_reducible assumption) | ((with_reducible refine New.setB ?_ ?_ _); focus (first | omega | (simp; omega) | (simp; done))) | (with_reducible refine New.alloc ?_ _) | (with_reducible refine New.drew ?_) | (with_reducible refine New.drewN ?_ _) | (with_reducible refine New.hat ?_ _) | ((with_reducible apply New.snart); (with_reducible assumption))))) (by omega)
      obtain ⟨r0, r1, r2, r3, r4, r5, r6, r7, r8, r9⟩ := HopR.at (x := HopR.zero) cZ
      clear nZ kZ cZ
      refine bodyPost_ret (v := .tuple #[.agg #[.int .i64 HopR.zero.i, .int .i64 HopR.zero.fx, .int .i64 HopR.zero.fz, .int .i64 HopR.zero.fy, .int .i64 HopR.zero.tx, .int .i64 HopR.zero.tz, .int .i64 HopR.zero.ty, .bool HopR.zero.bo, .int .i64 HopR.zero.ar, .int .i64 HopR.zero.co], .bool false]) (by simp [results, Tryz.results11, go_sem, r0, r1, r2, r3, r4, r5, r6, r7, r8, r9]) rfl ?_
      refine ⟨?_, nz⟩
      rw [GE.out, hd.out]

end Go.Proofs.YtonngfogbnfbnaaGreat
