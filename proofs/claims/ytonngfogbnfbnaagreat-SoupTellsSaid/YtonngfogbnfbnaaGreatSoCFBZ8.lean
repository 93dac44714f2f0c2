import Derived.Test.YtonngfogbnfbnaaGreatSoIBZ8

/- The document's package of soups: one found. -/
namespace Go.Proofs.YtonngfogbnfbnaaGreat
open Go.RowKit
set_option linter.unusedVariables false
set_option maxRecDepth 100000

set_option maxHeartbeats 4000000 in
theorem u_bget (S : SoupV) (id z : Int) (hz : BoxR.IsFirst S.bs id z) (w : World) (hS : S.ok w) :
    Calls Tryz.prog 9 #[.agg #[.slice S.a0 S.ts.length S.c0, .slice S.a1 S.bs.length S.c1, .slice S.a2 S.hs.length S.c2], .int .i64 id] w fun e w' => e = .returned (.tuple #[.agg #[.int .i64 (BoxR.got S.bs z).i, .int .i64 (BoxR.got S.bs z).x0, .int .i64 (BoxR.got S.bs z).z0, .int .i64 (BoxR.got S.bs z).x1, .int .i64 (BoxR.got S.bs z).z1, .int .i64 (BoxR.got S.bs z).y0, .int .i64 (BoxR.got S.bs z).y1, .int .i64 (BoxR.got S.bs z).ar], .bool (decide (0 ≤ z))]) ∧ New w w' := by
  have HR := Lib.hid hS.b.row.2.2.2.2
  have hml := Nat.le_trans hS.b.row.2.1 hS.b.row.2.2.1
  unfold maxLen at hml
  obtain ⟨ts, bs, hs, a0, a1, a2, k0, k1, k2⟩ := S
  dsimp only at *
  clear hS
  have GN : Hid ((∀ j (h : j < bs.length), bs[j].i ≠ id) → z = -1) := Lib.hid (fun h => BoxR.first_none hz h)
  have GH : Hid (∀ j (h : j < bs.length), bs[j].i = id → (∀ k (hk : k < j), bs[k].i ≠ id) → z = j ∧ BoxR.got bs z = bs[j]) := Lib.hid (fun j h e hb => by
    have e1 := BoxR.first_hit hz h e hb
    refine ⟨e1, ?_⟩
    unfold BoxR.got
    rw [e1, if_neg (by omega), Int.toNat_natCast, getElem!_pos bs j h])
  have GZ : Hid (z = -1 → BoxR.got bs z = BoxR.zero) := Lib.hid (fun e => by unfold BoxR.got; rw [if_pos (by omega)])
  clear hz
  go_enter Tryz.func9, Tryz.ntmps9
  go_wp2_with fail
  refine Code.at (fun W hW => ?_)
  have hn : New w W := by subst hW; (repeat (first | (with_reducible exact New.refl _) | (with_reducible assumption) | ((with_reducible refine New.setB ?_ ?_ _); focus (first | omega | (simp; omega) | (simp; done))) | (with_reducible refine New.alloc ?_ _) | (with_reducible refine New.drew ?_) | (with_reducible refine New.drewN ?_ _) | (with_reducible refine New.hat ?_ _) | ((with_reducible apply New.snart); (with_reducible assumption))))
  have q : W.cell? ⟨w.heap.size, 1, none⟩ = some (.slice a1 bs.length k1) := by subst hW; go_simp
  have fz : Thr W (w.heap.size + 1) 8 := by subst hW; exact Thr.new _ _ _ _ (by simp)
  clear hW
  go_loopg [6] bs.length (fun k i wr => ∃ m : Nat, i = .int .i64 m ∧ m + k = bs.length ∧ (∀ j (h : j < bs.length), j < m → bs[j].i ≠ id) ∧ New W wr)
  case atStart => exact ⟨0, rfl, by omega, fun j h hj => absurd hj (by omega), New.refl _⟩
  case round =>
    obtain ⟨m, rfl, hmk, hall, nr⟩ := hrel
    have HA := Lib.hid hall
    clear hall
    replace q := New.keep nr q
    replace fz := fz.keep nr
    replace hn := hn.trans nr
    have hsz : w.heap.size + 1 < wr.heap.size := fz.lt (by omega)
    by_cases hlt : m < bs.length
    · obtain ⟨b, off, rfl, hA⟩ := HR.out (by omega)
      have hA' := hA.keep hn
      obtain ⟨d0, d1, d2, d3, d4, d5, d6, d7⟩ := BoxR.cells hA' m hlt
      clear hA hA'
      by_cases he : bs[m].i = id
      · have GE := Lib.hid (GH.out m hlt he (fun k hk => HA.out k (by omega) hk))
        have q1 : (bs[m].i == id) = true := by simpa using he
        have hd : decide ((0 : Int) ≤ z) = true := decide_eq_true (by have := GE.out.1; omega)
        replace hd := Lib.hid hd
        clear he GN GH GZ
        go_wp2_with (refine wpList_store_row rfl 39 _ _ rfl _ _ rfl rfl (fz.keep (by (repeat (first | (with_reducible exact New.refl _) | (with_reducible assumption) | ((with_reducible refine New.setB ?_ ?_ _); focus (first | omega | (simp; omega) | (simp; done))) | (with_reducible refine New.alloc ?_ _) | (with_reducible refine New.drew ?_) | (with_reducible refine New.drewN ?_ _) | (with_reducible refine New.hat ?_ _) | ((with_reducible apply New.snart); (with_reducible assumption)))))) (by kernel_rfl) (BoxR.enc_one bs[m]) (fun Z nZ kZ cZ => ?_))
        have nz := nZ w (by (repeat (first | (with_reducible exact New.refl _) | (with_reducible assumption) | ((with_reducible refine New.setB ?_ ?_ _); focus (first | omega | (simp; omega) | (simp; done))) | (with_reducible refine New.alloc ?_ _) | (with_reducible refine New.drew ?_) | (with_reducible refine New.drewN ?_ _) | (with_reducible refine New.hat ?_ _) | ((with_reducible apply New.snart); (with_reducible assumption))))) (by omega)
        obtain ⟨r0, r1, r2, r3, r4, r5, r6, r7⟩ := BoxR.at (x := bs[m]) cZ
        clear nZ kZ cZ
        refine bodyPost_ret (v := .tuple #[.agg #[.int .i64 bs[m].i, .int .i64 bs[m].x0, .int .i64 bs[m].z0, .int .i64 bs[m].x1, .int .i64 bs[m].z1, .int .i64 bs[m].y0, .int .i64 bs[m].y1, .int .i64 bs[m].ar], .bool true]) (by simp [results, Tryz.results9, go_sem, r0, r1, r2, r3, r4, r5, r6, r7]) rfl ?_
        refine ⟨?_, nz⟩
        rw [GE.out.2, hd.out]
      · have q1 : (bs[m].i == id) = false := by simpa using he
        go_wp2_with fail
        go_roundg (gk - 1)
        case measure => omega
        case rel => exact ⟨m + 1, by go_num, by omega, fun j h hj => by
          rcases Nat.lt_or_ge j m with h1 | h1
          · exact HA.out j h h1
          · obtain rfl : j = m := by omega
            exact he, nr⟩
    · have hz := GN.out (fun j h => HA.out j h (by omega))
      have hd : decide ((0 : Int) ≤ z) = false := decide_eq_false (by omega)
      replace hd := Lib.hid hd
      have GE := Lib.hid (GZ.out hz)
      clear hz GN GH GZ HA
      go_wp2_with (refine wpList_store_row rfl 39 _ _ rfl _ _ rfl rfl (fz.keep (by (repeat (first | (with_reducible exact New.refl _) | (with_reducible assumption) | ((with_reducible refine New.setB ?_ ?_ _); focus (first | omega | (simp; omega) | (simp; done))) | (with_reducible refine New.alloc ?_ _) | (with_reducible refine New.drew ?_) | (with_reducible refine New.drewN ?_ _) | (with_reducible refine New.hat ?_ _) | ((with_reducible apply New.snart); (with_reducible assumption)))))) (by kernel_rfl) (BoxR.enc_one BoxR.zero) (fun Z nZ kZ cZ => ?_))
      have nz := nZ w (by (repeat (first | (with_reducible exact New.refl _) | (with_reducible assumption) | ((with_reducible refine New.setB ?_ ?_ _); focus (first | omega | (simp; omega) | (simp; done))) | (with_reducible refine New.alloc ?_ _) | (with_reducible refine New.drew ?_) | (with_reducible refine New.drewN ?_ _) | (with_reducible refine New.hat ?_ _) | ((with_reducible apply New.snart); (with_reducible assumption))))) (by omega)
      obtain ⟨r0, r1, r2, r3, r4, r5, r6, r7⟩ := BoxR.at (x := BoxR.zero) cZ
      clear nZ kZ cZ
      refine bodyPost_ret (v := .tuple #[.agg #[.int .i64 BoxR.zero.i, .int .i64 BoxR.zero.x0, .int .i64 BoxR.zero.z0, .int .i64 BoxR.zero.x1, .int .i64 BoxR.zero.z1, .int .i64 BoxR.zero.y0, .int .i64 BoxR.zero.y1, .int .i64 BoxR.zero.ar], .bool false]) (by simp [results, Tryz.results9, go_sem, r0, r1, r2, r3, r4, r5, r6, r7]) rfl ?_
      refine ⟨?_, nz⟩
      rw [GE.out, hd.out]

end Go.Proofs.YtonngfogbnfbnaaGreat
