import Derived.Test.YtonngfogbnfbnaaSoHHZ9
import Derived.Test.YtonngfogbnfbnaaSoGZ9
import Derived.Test.YtonngfogbnfbnaaSoSZ9
import Derived.Test.YtonngfogbnfbnaaSoCEZ9
import Derived.Test.YtonngfogbnfbnaaSoCGZ9
import Derived.Test.YtonngfogbnfbnaaSoADHZ9

/- Package soup: one found. -/
namespace Go.Proofs.Ytonngfogbnfbnaa
open Go.RowKit
set_option linter.unusedVariables false

/-- What is found: the one at z, or the zero one. -/
def HopR.got (l : List HopR) (z : Int) : HopR := if z < 0 then HopR.zero else l[z.toNat]!
theorem HopR.first_cases {l : List HopR} {id z : Int} (hz : HopR.IsFirst l id z) : z = -1 ∨ ∃ j : Nat, ∃ h : j < l.length, z = j ∧ HopR.got l z = l[j] := by
  rcases hz with ⟨h, _⟩ | ⟨j, hj, rfl, _⟩
  · exact Or.inl h
  · refine Or.inr ⟨j, hj, rfl, ?_⟩
    unfold HopR.got
    rw [if_neg (by omega), Int.toNat_natCast, getElem!_pos l j hj]

end Go.Proofs.Ytonngfogbnfbnaa

/- The document's package of soups: one found. -/
namespace Go.Proofs.Ytonngfogbnfbnaa
open Go.RowKit
set_option linter.unusedVariables false
set_option maxRecDepth 100000

set_option maxHeartbeats 4000000 in
theorem u_hget (S : SoupV) (id z : Int) (hz : HopR.IsFirst S.hs id z) (w : World) (hS : S.ok w) :
    Calls Try.prog 36 #[.agg #[.slice S.a0 S.ts.length S.c0, .slice S.a1 S.bs.length S.c1, .slice S.a2 S.hs.length S.c2], .int .i64 id] w fun e w' => e = .returned (.tuple #[.agg #[.int .i64 (HopR.got S.hs z).i, .int .i64 (HopR.got S.hs z).fx, .int .i64 (HopR.got S.hs z).fz, .int .i64 (HopR.got S.hs z).fy, .int .i64 (HopR.got S.hs z).tx, .int .i64 (HopR.got S.hs z).tz, .int .i64 (HopR.got S.hs z).ty, .bool (HopR.got S.hs z).bo, .int .i64 (HopR.got S.hs z).ar, .int .i64 (HopR.got S.hs z).co], .bool (decide (0 ≤ z))]) ∧ New w w' := by
  have HR := Lib.hid hS.h.row.2.2.2.2
  have hml := Nat.le_trans hS.h.row.2.1 hS.h.row.2.2.1
  unfold maxLen at hml
  obtain ⟨ts, bs, hs, a0, a1, a2, k0, k1, k2⟩ := S
  dsimp only at *
  clear hS
  have GN : Hid ((∀ j (h : j < hs.length), hs[j].i ≠ id) → z = -1) := Lib.hid (fun h => HopR.first_none hz h)
  have GH : Hid (∀ j (h : j < hs.length), hs[j].i = id → (∀ k (hk : k < j), hs[k].i ≠ id) → z = j ∧ HopR.got hs z = hs[j]) := Lib.hid (fun j h e hb => by
    have e1 := HopR.first_hit hz h e hb
    refine ⟨e1, ?_⟩
    unfold HopR.got
    rw [e1, if_neg (by omega), Int.toNat_natCast, getElem!_pos hs j h])
  have GZ : Hid (z = -1 → HopR.got hs z = HopR.zero) := Lib.hid (fun e => by unfold HopR.got; rw [if_pos (by omega)])
  clear hz
  go_enter Try.func36, Try.ntmps36
  go_wp2_with fail
  refine Code.at (fun W hW => ?_)
  have hn : New w W := by subst hW; (repeat (first | (with_reducible exact New.refl _) | (with_reducible assumption) | ((with_reducible refine New.setB ?_ ?_ _); focus (first | omega | (simp; omega) | (simp; done))) | (with_reducible refine New.alloc ?_ _) | (with_reducible refine New.drew ?_) | (with_reducible refine New.drewN ?_ _) | (with_reducible refine New.hat ?_ _) | ((with_reducible apply New.snart); (with_reducible assumption))))
  have q : W.cell? ⟨w.heap.size, 2, none⟩ = some (.slice a2 hs.length k2) := by subst hW; go_simp
  have fz : Thr W (w.heap.size + 1) 10 := by subst hW; exact Thr.new _ _ _ _ (by simp)
  clear hW
  go_loopg [6] hs.length (fun k i wr => ∃ m : Nat, i = .int .i64 m ∧ m + k = hs.length ∧ (∀ j (h : j < hs.length), j < m → hs[j].i ≠ id) ∧ New W wr)
  case atStart => exact ⟨0, rfl, by omega, fun j h hj => absurd hj (by omega), New.refl _⟩
  case round =>
    obtain ⟨m, rfl, hmk, hall, nr⟩ := hrel
    have HA := Lib.hid hall
    clear hall
    replace q := New.keep nr q
    replace fz := fz.keep nr
    replace hn := hn.trans nr
    have hsz : w.heap.size + 1 < wr.heap.size := fz.lt (by omega)
    by_cases hlt : m < hs.length
    · obtain ⟨b, off, rfl, hA⟩ := HR.out (by omega)
      have hA' := hA.keep hn
      obtain ⟨d0, d1, d2, d3, d4, d5, d6, d7, d8, d9⟩ := HopR.cells hA' m hlt
      clear hA hA'
      by_cases he : hs[m].i = id
      · have GE := Lib.hid (GH.out m hlt he (fun k hk => HA.out k (by omega) hk))
        have q1 : (hs[m].i == id) = true := by simpa using he
        have hd : decide ((0 : Int) ≤ z) = true := decide_eq_true (by have := GE.out.1; omega)
        replace hd := Lib.hid hd
        clear he GN GH GZ
        go_wp2_with (refine wpList_store_row rfl 39 _ _ rfl _ _ rfl rfl (fz.keep (by (repeat (first | (with_reducible exact New.refl _) | (with_reducible assumption) | ((with_reducible refine New.setB ?_ ?_ _); focus (first | omega | (simp; omega) | (simp; done))) | (with_reducible refine New.alloc ?_ _) | (with_reducible refine New.drew ?_) | (with_reducible refine New.drewN ?_ _) | (with_reducible refine New.hat ?_ _) | ((with_reducible apply New.snart); (with_reducible assumption)))))) (by kernel_rfl) (HopR.enc_one hs[m]) (fun Z nZ kZ cZ => ?_))
        have nz := nZ w (by (repeat (first | (with_reducible exact New.refl _) | (with_reducible assumption) | ((with_reducible refine New.setB ?_ ?_ _); focus (first | omega | (simp; omega) | (simp; done))) | (with_reducible refine New.alloc ?_ _) | (with_reducible refine New.drew ?_) | (with_reducible refine New.drewN ?_ _) | (with_reducible refine New.hat ?_ _) | ((with_reducible apply New.snart); (with_reducible assumption))))) (by omega)
        obtain ⟨r0, r1, r2, r3, r4, r5, r6, r7, r8, r9⟩ := HopR.at (x := hs[m]) cZ
        clear nZ kZ cZ
        refine bodyPost_ret (v := .tuple #[.agg #[.int .i64 hs[m].i, .int .i64 hs[m].fx, .int .i64 hs[m].fz, .int .i64 hs[m].fy, .int .i64 hs[m].tx, .int .i64 hs[m].tz, .int .i64 hs[m].ty, .bool hs[m].bo, .int .i64 hs[m].ar, .int .i64 hs[m].co], .bool true]) (by simp [results, Try.results36, go_sem, r0, r1, r2, r3, r4, r5, r6, r7, r8, r9]) rfl ?_
        refine ⟨?_, nz⟩
        rw [GE.out.2, hd.out]
      · have q1 : (hs[m].i == id) = false := by simpa using he
        go_wp2_with fail
        go_roundg (gk - 1)
        case measure => omega
        case rel => exact ⟨m + 1, by go_num, by omega, fun j h hj => by
          rcases Nat.lt_or_ge j m with h1 | h1
          · exact HA.out j h h1
          · obtain rfl : j = m := by omega
            exact he, nr⟩
    · have hz := GN.out (fun j h => HA.out j h (by omega))
      have hd : decide ((0 : Int) ≤ z) = false := decide_eq_false (by omega)
      replace hd := Lib.hid hd
      have GE := Lib.hid (GZ.out hz)
      clear hz GN GH GZ HA
      go_wp2_with (refine wpList_store_row rfl 39 _ _ rfl _ _ rfl rfl (fz.keep (by (repeat (first | (with_reducible exact New.refl _) | (with_reducible assumption) | ((with_reducible refine New.setB ?_ ?_ _); focus (first | omega | (simp; omega) | (simp; done))) | (with_reducible refine New.alloc ?_ _) | (with_reducible refine New.drew ?_) | (with_reducible refine New.drewN ?_ _) | (with_reducible refine New.hat ?_ _) | ((with_reducible apply New.snart); (with_reducible assumption)))))) (by kernel_rfl) (HopR.enc_one HopR.zero) (fun Z nZ kZ cZ => ?_))
      have nz := nZ w (by (repeat (first | (with_reducible exact New.refl _) | (with_reducible assumption) | ((with_reducible refine New.setB ?_ ?_ _); focus (first | omega | (simp; omega) | (simp; done))) | (with_reducible refine New.alloc ?_ _) | (with_reducible refine New.drew ?_) | (with_reducible refine New.drewN ?_ _) | (with_reducible refine New.hat ?_ _) | ((with_reducible apply New.snart); (with_reducible assumption))))) (by omega)
      obtain ⟨r0, r1, r2, r3, r4, r5, r6, r7, r8, r9⟩ := HopR.at (x := HopR.zero) cZ
      clear nZ kZ cZ
      refine bodyPost_ret (v := .tuple #[.agg #[.int .i64 HopR.zero.i, .int .i64 HopR.zero.fx, .int .i64 HopR.zero.fz, .int .i64 HopR.zero.fy, .int .i64 HopR.zero.tx, .int .i64 HopR.zero.tz, .int .i64 HopR.zero.ty, .bool HopR.zero.bo, .int .i64 HopR.zero.ar, .int .i64 HopR.zero.co], .bool false]) (by simp [results, Try.results36, go_sem, r0, r1, r2, r3, r4, r5, r6, r7, r8, r9]) rfl ?_
      refine ⟨?_, nz⟩
      rw [GE.out, hd.out]

end Go.Proofs.Ytonngfogbnfbnaa

/- The document's package of soups: AddHop, refused. -/
namespace Go.Proofs.Ytonngfogbnfbnaa
open Go.RowKit
set_option linter.unusedVariables false
set_option linter.unusedSimpArgs false
set_option maxRecDepth 100000

/-- Whether an id is there, told twice. -/
theorem HopR.first_of_hit {l : List HopR} {id z : Int} {p : Nat} (hl : HopR.Rise l) (hp : HopR.Place l id p) (hz : HopR.IsFirst l id z) : decide (0 ≤ z) = HopR.hit l id p := by
  rw [Bool.eq_iff_iff, decide_eq_true_eq, HopR.hit_iff hl hp]
  constructor
  · intro h0
    rcases hz with ⟨h, _⟩ | ⟨j, hj, _, he, _⟩
    · omega
    · exact ⟨l[j], List.getElem_mem hj, he⟩
  · rintro ⟨y, hy, he⟩
    obtain ⟨j, hj, rfl⟩ := List.getElem_of_mem hy
    rcases hz with ⟨_, h⟩ | ⟨k, hk, rfl, _⟩
    · exact absurd he (h j hj)
    · omega

set_option maxHeartbeats 4000000 in
theorem u_hadd_err (C : CfgR) (S : SoupV) (x : HopR) (w : World) (hS : S.ok w) (h : S.err C ≠ 0) :
    Calls Try.prog 13 #[.agg #[.int .i64 C.cl, .int .i64 C.cb, .int .i64 C.ht, .int .i64 C.ri, .int .i64 C.ru, .int .i64 C.wd, .int .i64 C.dp], .agg #[.slice S.a0 S.ts.length S.c0, .slice S.a1 S.bs.length S.c1, .slice S.a2 S.hs.length S.c2], .agg #[.int .i64 x.i, .int .i64 x.fx, .int .i64 x.fz, .int .i64 x.fy, .int .i64 x.tx, .int .i64 x.tz, .int .i64 x.ty, .bool x.bo, .int .i64 x.ar, .int .i64 x.co]] w (SoupE [] [] [] (S.err C) w) := by
  have KC := Lib.hid (fun W n => u_check C S W (hS.keep n))
  generalize S.err C = er at *
  have qe : (er != 0) = true := by simpa using h
  clear h hS
  go_enter Try.func13, Try.ntmps13
  go_wp2_with fail
  refine Calls.at (fun W hW => ?_)
  have hn : New w W := by subst hW; (repeat (first | (with_reducible exact New.refl _) | (with_reducible assumption) | ((with_reducible refine New.setB ?_ ?_ _); focus (first | omega | (simp; omega) | (simp; done))) | (with_reducible refine New.alloc ?_ _) | (with_reducible refine New.drew ?_) | (with_reducible refine New.drewN ?_ _) | (with_reducible refine New.hat ?_ _) | ((with_reducible apply New.snart); (with_reducible assumption))))
  ((have g0 : World.cell? (W) ⟨w.heap.size, 0, none⟩ = some (.int .i64 C.cl) := (by subst hW; go_simp)); (have g1 : World.cell? (W) ⟨w.heap.size, 1, none⟩ = some (.int .i64 C.cb) := (by subst hW; go_simp)); (have g2 : World.cell? (W) ⟨w.heap.size, 2, none⟩ = some (.int .i64 C.ht) := (by subst hW; go_simp)); (have g3 : World.cell? (W) ⟨w.heap.size, 3, none⟩ = some (.int .i64 C.ri) := (by subst hW; go_simp)); (have g4 : World.cell? (W) ⟨w.heap.size, 4, none⟩ = some (.int .i64 C.ru) := (by subst hW; go_simp)); (have g5 : World.cell? (W) ⟨w.heap.size, 5, none⟩ = some (.int .i64 C.wd) := (by subst hW; go_simp)); (have g6 : World.cell? (W) ⟨w.heap.size, 6, none⟩ = some (.int .i64 C.dp) := (by subst hW; go_simp)))
  have q0 : W.cell? ⟨w.heap.size + 1, 0, none⟩ = some (.slice S.a0 S.ts.length S.c0) := by subst hW; go_simp
  have q1 : W.cell? ⟨w.heap.size + 1, 1, none⟩ = some (.slice S.a1 S.bs.length S.c1) := by subst hW; go_simp
  have q2 : W.cell? ⟨w.heap.size + 1, 2, none⟩ = some (.slice S.a2 S.hs.length S.c2) := by subst hW; go_simp
  ((have d0 : World.cell? (W) ⟨w.heap.size + 1 + 1, 0, none⟩ = some (.int .i64 x.i) := (by subst hW; go_simp)); (have d1 : World.cell? (W) ⟨w.heap.size + 1 + 1, 1, none⟩ = some (.int .i64 x.fx) := (by subst hW; go_simp)); (have d2 : World.cell? (W) ⟨w.heap.size + 1 + 1, 2, none⟩ = some (.int .i64 x.fz) := (by subst hW; go_simp)); (have d3 : World.cell? (W) ⟨w.heap.size + 1 + 1, 3, none⟩ = some (.int .i64 x.fy) := (by subst hW; go_simp)); (have d4 : World.cell? (W) ⟨w.heap.size + 1 + 1, 4, none⟩ = some (.int .i64 x.tx) := (by subst hW; go_simp)); (have d5 : World.cell? (W) ⟨w.heap.size + 1 + 1, 5, none⟩ = some (.int .i64 x.tz) := (by subst hW; go_simp)); (have d6 : World.cell? (W) ⟨w.heap.size + 1 + 1, 6, none⟩ = some (.int .i64 x.ty) := (by subst hW; go_simp)); (have d7 : World.cell? (W) ⟨w.heap.size + 1 + 1, 7, none⟩ = some (.bool x.bo) := (by subst hW; go_simp)); (have d8 : World.cell? (W) ⟨w.heap.size + 1 + 1, 8, none⟩ = some (.int .i64 x.ar) := (by subst hW; go_simp)); (have d9 : World.cell? (W) ⟨w.heap.size + 1 + 1, 9, none⟩ = some (.int .i64 x.co) := (by subst hW; go_simp)))
  have fz : Thr W (w.heap.size + 1 + 1 + 1) 3 := by subst hW; exact Thr.new _ #[.slice none 0 0, .slice none 0 0, .slice none 0 0] _ _ (by simp)
  clear hW
  refine (KC.out _ hn).mono ?_
  rintro e W1 ⟨rfl, n1⟩
  replace g0 := New.keep (n1) g0; replace g1 := New.keep (n1) g1; replace g2 := New.keep (n1) g2; replace g3 := New.keep (n1) g3; replace g4 := New.keep (n1) g4; replace g5 := New.keep (n1) g5; replace g6 := New.keep (n1) g6
  replace q0 := New.keep n1 q0
  replace q1 := New.keep n1 q1
  replace q2 := New.keep n1 q2
  replace d0 := New.keep (n1) d0; replace d1 := New.keep (n1) d1; replace d2 := New.keep (n1) d2; replace d3 := New.keep (n1) d3; replace d4 := New.keep (n1) d4; replace d5 := New.keep (n1) d5; replace d6 := New.keep (n1) d6; replace d7 := New.keep (n1) d7; replace d8 := New.keep (n1) d8; replace d9 := New.keep (n1) d9
  replace fz := fz.keep n1
  replace hn := hn.trans n1
  have sz : w.heap.size + 1 + 1 + 1 < W1.heap.size := fz.lt (by omega)
  clear n1
  go_wp2_with (refine wpList_store_row rfl 28 _ _ rfl _ _ rfl rfl (fz.keep (by (repeat (first | (with_reducible exact New.refl _) | (with_reducible assumption) | ((with_reducible refine New.setB ?_ ?_ _); focus (first | omega | (simp; omega) | (simp; done))) | (with_reducible refine New.alloc ?_ _) | (with_reducible refine New.drew ?_) | (with_reducible refine New.drewN ?_ _) | (with_reducible refine New.hat ?_ _) | ((with_reducible apply New.snart); (with_reducible assumption)))))) (by kernel_rfl) (by intro v hv; simp at hv; rcases hv with rfl | rfl | rfl <;> rfl) (fun Z nZ kZ cZ => ?_))
  have nz := nZ w (by (repeat (first | (with_reducible exact New.refl _) | (with_reducible assumption) | ((with_reducible refine New.setB ?_ ?_ _); focus (first | omega | (simp; omega) | (simp; done))) | (with_reducible refine New.alloc ?_ _) | (with_reducible refine New.drew ?_) | (with_reducible refine New.drewN ?_ _) | (with_reducible refine New.hat ?_ _) | ((with_reducible apply New.snart); (with_reducible assumption))))) (by omega)
  have r0 : Z.cell? ⟨w.heap.size + 1 + 1 + 1, 0, none⟩ = some (.slice none 0 0) := by have := cZ 0 (by simp); simpa using this
  have r1 : Z.cell? ⟨w.heap.size + 1 + 1 + 1, 1, none⟩ = some (.slice none 0 0) := by have := cZ 1 (by simp); simpa using this
  have r2 : Z.cell? ⟨w.heap.size + 1 + 1 + 1, 2, none⟩ = some (.slice none 0 0) := by have := cZ 2 (by simp); simpa using this
  clear nZ kZ cZ
  refine bodyPost_ret (v := .tuple #[.agg #[.slice none 0 0, .slice none 0 0, .slice none 0 0], .int .i64 er]) (by simp [results, Try.results13, go_sem, r0, r1, r2]) rfl ?_
  exact ⟨SoupV.none, rfl, SoupV.none_ok _, rfl, rfl, rfl, SoupV.none_own _, nz⟩

set_option maxHeartbeats 4000000 in
theorem u_hadd_wrong (C : CfgR) (S : SoupV) (x : HopR) (w : World) (hS : S.ok w) (h : S.err C = 0) (hm : x.may C = false) :
    Calls Try.prog 13 #[.agg #[.int .i64 C.cl, .int .i64 C.cb, .int .i64 C.ht, .int .i64 C.ri, .int .i64 C.ru, .int .i64 C.wd, .int .i64 C.dp], .agg #[.slice S.a0 S.ts.length S.c0, .slice S.a1 S.bs.length S.c1, .slice S.a2 S.hs.length S.c2], .agg #[.int .i64 x.i, .int .i64 x.fx, .int .i64 x.fz, .int .i64 x.fy, .int .i64 x.tx, .int .i64 x.tz, .int .i64 x.ty, .bool x.bo, .int .i64 x.ar, .int .i64 x.co]] w (SoupE [] [] [] 2 w) := by
  have hC := CfgR.fine_of (SoupV.err_zero h).1
  have KC := Lib.hid (fun W n => u_check C S W (hS.keep n))
  rw [h] at KC
  have KI := Lib.hid (fun W => u_id x.i W)
  have KM := Lib.hid (fun W => u_mayHop C x W)
  rw [HopR.may_id C x] at hm
  clear h hS hC
  go_enter Try.func13, Try.ntmps13
  go_wp2_with fail
  refine Calls.at (fun W hW => ?_)
  have hn : New w W := by subst hW; (repeat (first | (with_reducible exact New.refl _) | (with_reducible assumption) | ((with_reducible refine New.setB ?_ ?_ _); focus (first | omega | (simp; omega) | (simp; done))) | (with_reducible refine New.alloc ?_ _) | (with_reducible refine New.drew ?_) | (with_reducible refine New.drewN ?_ _) | (with_reducible refine New.hat ?_ _) | ((with_reducible apply New.snart); (with_reducible assumption))))
  ((have g0 : World.cell? (W) ⟨w.heap.size, 0, none⟩ = some (.int .i64 C.cl) := (by subst hW; go_simp)); (have g1 : World.cell? (W) ⟨w.heap.size, 1, none⟩ = some (.int .i64 C.cb) := (by subst hW; go_simp)); (have g2 : World.cell? (W) ⟨w.heap.size, 2, none⟩ = some (.int .i64 C.ht) := (by subst hW; go_simp)); (have g3 : World.cell? (W) ⟨w.heap.size, 3, none⟩ = some (.int .i64 C.ri) := (by subst hW; go_simp)); (have g4 : World.cell? (W) ⟨w.heap.size, 4, none⟩ = some (.int .i64 C.ru) := (by subst hW; go_simp)); (have g5 : World.cell? (W) ⟨w.heap.size, 5, none⟩ = some (.int .i64 C.wd) := (by subst hW; go_simp)); (have g6 : World.cell? (W) ⟨w.heap.size, 6, none⟩ = some (.int .i64 C.dp) := (by subst hW; go_simp)))
  have q0 : W.cell? ⟨w.heap.size + 1, 0, none⟩ = some (.slice S.a0 S.ts.length S.c0) := by subst hW; go_simp
  have q1 : W.cell? ⟨w.heap.size + 1, 1, none⟩ = some (.slice S.a1 S.bs.length S.c1) := by subst hW; go_simp
  have q2 : W.cell? ⟨w.heap.size + 1, 2, none⟩ = some (.slice S.a2 S.hs.length S.c2) := by subst hW; go_simp
  ((have d0 : World.cell? (W) ⟨w.heap.size + 1 + 1, 0, none⟩ = some (.int .i64 x.i) := (by subst hW; go_simp)); (have d1 : World.cell? (W) ⟨w.heap.size + 1 + 1, 1, none⟩ = some (.int .i64 x.fx) := (by subst hW; go_simp)); (have d2 : World.cell? (W) ⟨w.heap.size + 1 + 1, 2, none⟩ = some (.int .i64 x.fz) := (by subst hW; go_simp)); (have d3 : World.cell? (W) ⟨w.heap.size + 1 + 1, 3, none⟩ = some (.int .i64 x.fy) := (by subst hW; go_simp)); (have d4 : World.cell? (W) ⟨w.heap.size + 1 + 1, 4, none⟩ = some (.int .i64 x.tx) := (by subst hW; go_simp)); (have d5 : World.cell? (W) ⟨w.heap.size + 1 + 1, 5, none⟩ = some (.int .i64 x.tz) := (by subst hW; go_simp)); (have d6 : World.cell? (W) ⟨w.heap.size + 1 + 1, 6, none⟩ = some (.int .i64 x.ty) := (by subst hW; go_simp)); (have d7 : World.cell? (W) ⟨w.heap.size + 1 + 1, 7, none⟩ = some (.bool x.bo) := (by subst hW; go_simp)); (have d8 : World.cell? (W) ⟨w.heap.size + 1 + 1, 8, none⟩ = some (.int .i64 x.ar) := (by subst hW; go_simp)); (have d9 : World.cell? (W) ⟨w.heap.size + 1 + 1, 9, none⟩ = some (.int .i64 x.co) := (by subst hW; go_simp)))
  have fz : Thr W (w.heap.size + 1 + 1 + 1) 3 := by subst hW; exact Thr.new _ #[.slice none 0 0, .slice none 0 0, .slice none 0 0] _ _ (by simp)
  clear hW
  refine (KC.out _ hn).mono ?_
  rintro e W1 ⟨rfl, n1⟩
  replace g0 := New.keep (n1) g0; replace g1 := New.keep (n1) g1; replace g2 := New.keep (n1) g2; replace g3 := New.keep (n1) g3; replace g4 := New.keep (n1) g4; replace g5 := New.keep (n1) g5; replace g6 := New.keep (n1) g6
  replace q0 := New.keep n1 q0
  replace q1 := New.keep n1 q1
  replace q2 := New.keep n1 q2
  replace d0 := New.keep (n1) d0; replace d1 := New.keep (n1) d1; replace d2 := New.keep (n1) d2; replace d3 := New.keep (n1) d3; replace d4 := New.keep (n1) d4; replace d5 := New.keep (n1) d5; replace d6 := New.keep (n1) d6; replace d7 := New.keep (n1) d7; replace d8 := New.keep (n1) d8; replace d9 := New.keep (n1) d9
  replace fz := fz.keep n1
  replace hn := hn.trans n1
  have sz : w.heap.size + 1 + 1 + 1 < W1.heap.size := fz.lt (by omega)
  clear n1
  go_wp2_with fail
  refine (KI.out _).mono ?_
  rintro e W2 ⟨rfl, n1⟩
  replace g0 := New.keep (n1) g0; replace g1 := New.keep (n1) g1; replace g2 := New.keep (n1) g2; replace g3 := New.keep (n1) g3; replace g4 := New.keep (n1) g4; replace g5 := New.keep (n1) g5; replace g6 := New.keep (n1) g6
  replace q0 := New.keep n1 q0
  replace q1 := New.keep n1 q1
  replace q2 := New.keep n1 q2
  replace d0 := New.keep (n1) d0; replace d1 := New.keep (n1) d1; replace d2 := New.keep (n1) d2; replace d3 := New.keep (n1) d3; replace d4 := New.keep (n1) d4; replace d5 := New.keep (n1) d5; replace d6 := New.keep (n1) d6; replace d7 := New.keep (n1) d7; replace d8 := New.keep (n1) d8; replace d9 := New.keep (n1) d9
  replace fz := fz.keep n1
  replace hn := hn.trans n1
  have sz : w.heap.size + 1 + 1 + 1 < W2.heap.size := fz.lt (by omega)
  clear n1
  cases hi : idB x.i
  · clear hm hi
    go_wp2_with (refine wpList_store_row rfl 28 _ _ rfl _ _ rfl rfl (fz.keep (by (repeat (first | (with_reducible exact New.refl _) | (with_reducible assumption) | ((with_reducible refine New.setB ?_ ?_ _); focus (first | omega | (simp; omega) | (simp; done))) | (with_reducible refine New.alloc ?_ _) | (with_reducible refine New.drew ?_) | (with_reducible refine New.drewN ?_ _) | (with_reducible refine New.hat ?_ _) | ((with_reducible apply New.snart); (with_reducible assumption)))))) (by kernel_rfl) (by intro v hv; simp at hv; rcases hv with rfl | rfl | rfl <;> rfl) (fun Z nZ kZ cZ => ?_))
    have nz := nZ w (by (repeat (first | (with_reducible exact New.refl _) | (with_reducible assumption) | ((with_reducible refine New.setB ?_ ?_ _); focus (first | omega | (simp; omega) | (simp; done))) | (with_reducible refine New.alloc ?_ _) | (with_reducible refine New.drew ?_) | (with_reducible refine New.drewN ?_ _) | (with_reducible refine New.hat ?_ _) | ((with_reducible apply New.snart); (with_reducible assumption))))) (by omega)
    have r0 : Z.cell? ⟨w.heap.size + 1 + 1 + 1, 0, none⟩ = some (.slice none 0 0) := by have := cZ 0 (by simp); simpa using this
    have r1 : Z.cell? ⟨w.heap.size + 1 + 1 + 1, 1, none⟩ = some (.slice none 0 0) := by have := cZ 1 (by simp); simpa using this
    have r2 : Z.cell? ⟨w.heap.size + 1 + 1 + 1, 2, none⟩ = some (.slice none 0 0) := by have := cZ 2 (by simp); simpa using this
    clear nZ kZ cZ
    refine bodyPost_ret (v := .tuple #[.agg #[.slice none 0 0, .slice none 0 0, .slice none 0 0], .int .i64 2]) (by simp [results, Try.results13, go_sem, r0, r1, r2]) rfl ?_
    exact ⟨SoupV.none, rfl, SoupV.none_ok _, rfl, rfl, rfl, SoupV.none_own _, nz⟩
  rw [hi, Bool.true_and] at hm
  rw [hm] at KM
  clear hi hm
  go_wp2_with fail
  refine (KM.out _).mono ?_
  rintro e W3 ⟨rfl, n1⟩
  replace g0 := New.keep (n1) g0; replace g1 := New.keep (n1) g1; replace g2 := New.keep (n1) g2; replace g3 := New.keep (n1) g3; replace g4 := New.keep (n1) g4; replace g5 := New.keep (n1) g5; replace g6 := New.keep (n1) g6
  replace q0 := New.keep n1 q0
  replace q1 := New.keep n1 q1
  replace q2 := New.keep n1 q2
  replace d0 := New.keep (n1) d0; replace d1 := New.keep (n1) d1; replace d2 := New.keep (n1) d2; replace d3 := New.keep (n1) d3; replace d4 := New.keep (n1) d4; replace d5 := New.keep (n1) d5; replace d6 := New.keep (n1) d6; replace d7 := New.keep (n1) d7; replace d8 := New.keep (n1) d8; replace d9 := New.keep (n1) d9
  replace fz := fz.keep n1
  replace hn := hn.trans n1
  have sz : w.heap.size + 1 + 1 + 1 < W3.heap.size := fz.lt (by omega)
  clear n1
  go_wp2_with (refine wpList_store_row rfl 28 _ _ rfl _ _ rfl rfl (fz.keep (by (repeat (first | (with_reducible exact New.refl _) | (with_reducible assumption) | ((with_reducible refine New.setB ?_ ?_ _); focus (first | omega | (simp; omega) | (simp; done))) | (with_reducible refine New.alloc ?_ _) | (with_reducible refine New.drew ?_) | (with_reducible refine New.drewN ?_ _) | (with_reducible refine New.hat ?_ _) | ((with_reducible apply New.snart); (with_reducible assumption)))))) (by kernel_rfl) (by intro v hv; simp at hv; rcases hv with rfl | rfl | rfl <;> rfl) (fun Z nZ kZ cZ => ?_))
  have nz := nZ w (by (repeat (first | (with_reducible exact New.refl _) | (with_reducible assumption) | ((with_reducible refine New.setB ?_ ?_ _); focus (first | omega | (simp; omega) | (simp; done))) | (with_reducible refine New.alloc ?_ _) | (with_reducible refine New.drew ?_) | (with_reducible refine New.drewN ?_ _) | (with_reducible refine New.hat ?_ _) | ((with_reducible apply New.snart); (with_reducible assumption))))) (by omega)
  have r0 : Z.cell? ⟨w.heap.size + 1 + 1 + 1, 0, none⟩ = some (.slice none 0 0) := by have := cZ 0 (by simp); simpa using this
  have r1 : Z.cell? ⟨w.heap.size + 1 + 1 + 1, 1, none⟩ = some (.slice none 0 0) := by have := cZ 1 (by simp); simpa using this
  have r2 : Z.cell? ⟨w.heap.size + 1 + 1 + 1, 2, none⟩ = some (.slice none 0 0) := by have := cZ 2 (by simp); simpa using this
  clear nZ kZ cZ
  refine bodyPost_ret (v := .tuple #[.agg #[.slice none 0 0, .slice none 0 0, .slice none 0 0], .int .i64 2]) (by simp [results, Try.results13, go_sem, r0, r1, r2]) rfl ?_
  exact ⟨SoupV.none, rfl, SoupV.none_ok _, rfl, rfl, rfl, SoupV.none_own _, nz⟩

set_option maxHeartbeats 4000000 in
theorem u_hadd_twice (C : CfgR) (S : SoupV) (x : HopR) (w : World) (hS : S.ok w) (h : S.err C = 0) (hm : x.may C = true) (p : Nat) (hp : HopR.Place S.hs x.i p) (hh : HopR.hit S.hs x.i p = true) :
    Calls Try.prog 13 #[.agg #[.int .i64 C.cl, .int .i64 C.cb, .int .i64 C.ht, .int .i64 C.ri, .int .i64 C.ru, .int .i64 C.wd, .int .i64 C.dp], .agg #[.slice S.a0 S.ts.length S.c0, .slice S.a1 S.bs.length S.c1, .slice S.a2 S.hs.length S.c2], .agg #[.int .i64 x.i, .int .i64 x.fx, .int .i64 x.fz, .int .i64 x.fy, .int .i64 x.tx, .int .i64 x.tz, .int .i64 x.ty, .bool x.bo, .int .i64 x.ar, .int .i64 x.co]] w (SoupE [] [] [] 50 w) := by
  have hC := CfgR.fine_of (SoupV.err_zero h).1
  have KC := Lib.hid (fun W n => u_check C S W (hS.keep n))
  rw [h] at KC
  have KI := Lib.hid (fun W => u_id x.i W)
  have KM := Lib.hid (fun W => u_mayHop C x W)
  rw [HopR.may_id C x, Bool.and_eq_true] at hm
  rw [hm.1] at KI
  rw [hm.2] at KM
  obtain ⟨z, hz⟩ := HopR.isFirst S.hs x.i
  have KT := Lib.hid (fun W n => u_hget S x.i z hz W (hS.keep n))
  have hd := HopR.first_of_hit (HopR.listB_iff.1 (HopR.err_list h)).2.2 hp hz
  rw [hh] at hd
  rw [hd] at KT
  clear hd hz h hm hp hh hC hS
  go_enter Try.func13, Try.ntmps13
  go_wp2_with fail
  refine Calls.at (fun W hW => ?_)
  have hn : New w W := by subst hW; (repeat (first | (with_reducible exact New.refl _) | (with_reducible assumption) | ((with_reducible refine New.setB ?_ ?_ _); focus (first | omega | (simp; omega) | (simp; done))) | (with_reducible refine New.alloc ?_ _) | (with_reducible refine New.drew ?_) | (with_reducible refine New.drewN ?_ _) | (with_reducible refine New.hat ?_ _) | ((with_reducible apply New.snart); (with_reducible assumption))))
  ((have g0 : World.cell? (W) ⟨w.heap.size, 0, none⟩ = some (.int .i64 C.cl) := (by subst hW; go_simp)); (have g1 : World.cell? (W) ⟨w.heap.size, 1, none⟩ = some (.int .i64 C.cb) := (by subst hW; go_simp)); (have g2 : World.cell? (W) ⟨w.heap.size, 2, none⟩ = some (.int .i64 C.ht) := (by subst hW; go_simp)); (have g3 : World.cell? (W) ⟨w.heap.size, 3, none⟩ = some (.int .i64 C.ri) := (by subst hW; go_simp)); (have g4 : World.cell? (W) ⟨w.heap.size, 4, none⟩ = some (.int .i64 C.ru) := (by subst hW; go_simp)); (have g5 : World.cell? (W) ⟨w.heap.size, 5, none⟩ = some (.int .i64 C.wd) := (by subst hW; go_simp)); (have g6 : World.cell? (W) ⟨w.heap.size, 6, none⟩ = some (.int .i64 C.dp) := (by subst hW; go_simp)))
  have q0 : W.cell? ⟨w.heap.size + 1, 0, none⟩ = some (.slice S.a0 S.ts.length S.c0) := by subst hW; go_simp
  have q1 : W.cell? ⟨w.heap.size + 1, 1, none⟩ = some (.slice S.a1 S.bs.length S.c1) := by subst hW; go_simp
  have q2 : W.cell? ⟨w.heap.size + 1, 2, none⟩ = some (.slice S.a2 S.hs.length S.c2) := by subst hW; go_simp
  ((have d0 : World.cell? (W) ⟨w.heap.size + 1 + 1, 0, none⟩ = some (.int .i64 x.i) := (by subst hW; go_simp)); (have d1 : World.cell? (W) ⟨w.heap.size + 1 + 1, 1, none⟩ = some (.int .i64 x.fx) := (by subst hW; go_simp)); (have d2 : World.cell? (W) ⟨w.heap.size + 1 + 1, 2, none⟩ = some (.int .i64 x.fz) := (by subst hW; go_simp)); (have d3 : World.cell? (W) ⟨w.heap.size + 1 + 1, 3, none⟩ = some (.int .i64 x.fy) := (by subst hW; go_simp)); (have d4 : World.cell? (W) ⟨w.heap.size + 1 + 1, 4, none⟩ = some (.int .i64 x.tx) := (by subst hW; go_simp)); (have d5 : World.cell? (W) ⟨w.heap.size + 1 + 1, 5, none⟩ = some (.int .i64 x.tz) := (by subst hW; go_simp)); (have d6 : World.cell? (W) ⟨w.heap.size + 1 + 1, 6, none⟩ = some (.int .i64 x.ty) := (by subst hW; go_simp)); (have d7 : World.cell? (W) ⟨w.heap.size + 1 + 1, 7, none⟩ = some (.bool x.bo) := (by subst hW; go_simp)); (have d8 : World.cell? (W) ⟨w.heap.size + 1 + 1, 8, none⟩ = some (.int .i64 x.ar) := (by subst hW; go_simp)); (have d9 : World.cell? (W) ⟨w.heap.size + 1 + 1, 9, none⟩ = some (.int .i64 x.co) := (by subst hW; go_simp)))
  have fz : Thr W (w.heap.size + 1 + 1 + 1) 3 := by subst hW; exact Thr.new _ #[.slice none 0 0, .slice none 0 0, .slice none 0 0] _ _ (by simp)
  clear hW
  refine (KC.out _ hn).mono ?_
  rintro e W1 ⟨rfl, n1⟩
  replace g0 := New.keep (n1) g0; replace g1 := New.keep (n1) g1; replace g2 := New.keep (n1) g2; replace g3 := New.keep (n1) g3; replace g4 := New.keep (n1) g4; replace g5 := New.keep (n1) g5; replace g6 := New.keep (n1) g6
  replace q0 := New.keep n1 q0
  replace q1 := New.keep n1 q1
  replace q2 := New.keep n1 q2
  replace d0 := New.keep (n1) d0; replace d1 := New.keep (n1) d1; replace d2 := New.keep (n1) d2; replace d3 := New.keep (n1) d3; replace d4 := New.keep (n1) d4; replace d5 := New.keep (n1) d5; replace d6 := New.keep (n1) d6; replace d7 := New.keep (n1) d7; replace d8 := New.keep (n1) d8; replace d9 := New.keep (n1) d9
  replace fz := fz.keep n1
  replace hn := hn.trans n1
  have sz : w.heap.size + 1 + 1 + 1 < W1.heap.size := fz.lt (by omega)
  clear n1
  go_wp2_with fail
  refine (KI.out _).mono ?_
  rintro e W2 ⟨rfl, n1⟩
  replace g0 := New.keep (n1) g0; replace g1 := New.keep (n1) g1; replace g2 := New.keep (n1) g2; replace g3 := New.keep (n1) g3; replace g4 := New.keep (n1) g4; replace g5 := New.keep (n1) g5; replace g6 := New.keep (n1) g6
  replace q0 := New.keep n1 q0
  replace q1 := New.keep n1 q1
  replace q2 := New.keep n1 q2
  replace d0 := New.keep (n1) d0; replace d1 := New.keep (n1) d1; replace d2 := New.keep (n1) d2; replace d3 := New.keep (n1) d3; replace d4 := New.keep (n1) d4; replace d5 := New.keep (n1) d5; replace d6 := New.keep (n1) d6; replace d7 := New.keep (n1) d7; replace d8 := New.keep (n1) d8; replace d9 := New.keep (n1) d9
  replace fz := fz.keep n1
  replace hn := hn.trans n1
  have sz : w.heap.size + 1 + 1 + 1 < W2.heap.size := fz.lt (by omega)
  clear n1
  go_wp2_with fail
  refine (KM.out _).mono ?_
  rintro e W3 ⟨rfl, n1⟩
  replace g0 := New.keep (n1) g0; replace g1 := New.keep (n1) g1; replace g2 := New.keep (n1) g2; replace g3 := New.keep (n1) g3; replace g4 := New.keep (n1) g4; replace g5 := New.keep (n1) g5; replace g6 := New.keep (n1) g6
  replace q0 := New.keep n1 q0
  replace q1 := New.keep n1 q1
  replace q2 := New.keep n1 q2
  replace d0 := New.keep (n1) d0; replace d1 := New.keep (n1) d1; replace d2 := New.keep (n1) d2; replace d3 := New.keep (n1) d3; replace d4 := New.keep (n1) d4; replace d5 := New.keep (n1) d5; replace d6 := New.keep (n1) d6; replace d7 := New.keep (n1) d7; replace d8 := New.keep (n1) d8; replace d9 := New.keep (n1) d9
  replace fz := fz.keep n1
  replace hn := hn.trans n1
  have sz : w.heap.size + 1 + 1 + 1 < W3.heap.size := fz.lt (by omega)
  clear n1
  go_wp2_with fail
  refine (KT.out _ hn).mono ?_
  rintro e W4 ⟨rfl, n1⟩
  replace g0 := New.keep (n1) g0; replace g1 := New.keep (n1) g1; replace g2 := New.keep (n1) g2; replace g3 := New.keep (n1) g3; replace g4 := New.keep (n1) g4; replace g5 := New.keep (n1) g5; replace g6 := New.keep (n1) g6
  replace q0 := New.keep n1 q0
  replace q1 := New.keep n1 q1
  replace q2 := New.keep n1 q2
  replace d0 := New.keep (n1) d0; replace d1 := New.keep (n1) d1; replace d2 := New.keep (n1) d2; replace d3 := New.keep (n1) d3; replace d4 := New.keep (n1) d4; replace d5 := New.keep (n1) d5; replace d6 := New.keep (n1) d6; replace d7 := New.keep (n1) d7; replace d8 := New.keep (n1) d8; replace d9 := New.keep (n1) d9
  replace fz := fz.keep n1
  replace hn := hn.trans n1
  have sz : w.heap.size + 1 + 1 + 1 < W4.heap.size := fz.lt (by omega)
  have sz1 : w.heap.size + 1 < W4.heap.size := by omega
  have sz2 : w.heap.size + 1 + 1 < W4.heap.size := by omega
  clear n1
  go_wp2_with (refine wpList_store_row rfl 28 _ _ rfl _ _ rfl rfl (fz.keep (by (repeat (first | (with_reducible exact New.refl _) | (with_reducible assumption) | ((with_reducible refine New.setB ?_ ?_ _); focus (first | omega | (simp; omega) | (simp; done))) | (with_reducible refine New.alloc ?_ _) | (with_reducible refine New.drew ?_) | (with_reducible refine New.drewN ?_ _) | (with_reducible refine New.hat ?_ _) | ((with_reducible apply New.snart); (with_reducible assumption)))))) (by kernel_rfl) (by intro v hv; simp at hv; rcases hv with rfl | rfl | rfl <;> rfl) (fun Z nZ kZ cZ => ?_))
  have nz := nZ w (by (repeat (first | (with_reducible exact New.refl _) | (with_reducible assumption) | ((with_reducible refine New.setB ?_ ?_ _); focus (first | omega | (simp; omega) | (simp; done))) | (with_reducible refine New.alloc ?_ _) | (with_reducible refine New.drew ?_) | (with_reducible refine New.drewN ?_ _) | (with_reducible refine New.hat ?_ _) | ((with_reducible apply New.snart); (with_reducible assumption))))) (by omega)
  have r0 : Z.cell? ⟨w.heap.size + 1 + 1 + 1, 0, none⟩ = some (.slice none 0 0) := by have := cZ 0 (by simp); simpa using this
  have r1 : Z.cell? ⟨w.heap.size + 1 + 1 + 1, 1, none⟩ = some (.slice none 0 0) := by have := cZ 1 (by simp); simpa using this
  have r2 : Z.cell? ⟨w.heap.size + 1 + 1 + 1, 2, none⟩ = some (.slice none 0 0) := by have := cZ 2 (by simp); simpa using this
  clear nZ kZ cZ
  refine bodyPost_ret (v := .tuple #[.agg #[.slice none 0 0, .slice none 0 0, .slice none 0 0], .int .i64 50]) (by simp [results, Try.results13, go_sem, r0, r1, r2]) rfl ?_
  exact ⟨SoupV.none, rfl, SoupV.none_ok _, rfl, rfl, rfl, SoupV.none_own _, nz⟩

set_option maxHeartbeats 4000000 in
theorem u_hadd_full (C : CfgR) (S : SoupV) (x : HopR) (w : World) (hS : S.ok w) (h : S.err C = 0) (hm : x.may C = true) (p : Nat) (hp : HopR.Place S.hs x.i p) (hh : HopR.hit S.hs x.i p = false) (hf : S.hs.length = 16) :
    Calls Try.prog 13 #[.agg #[.int .i64 C.cl, .int .i64 C.cb, .int .i64 C.ht, .int .i64 C.ri, .int .i64 C.ru, .int .i64 C.wd, .int .i64 C.dp], .agg #[.slice S.a0 S.ts.length S.c0, .slice S.a1 S.bs.length S.c1, .slice S.a2 S.hs.length S.c2], .agg #[.int .i64 x.i, .int .i64 x.fx, .int .i64 x.fz, .int .i64 x.fy, .int .i64 x.tx, .int .i64 x.tz, .int .i64 x.ty, .bool x.bo, .int .i64 x.ar, .int .i64 x.co]] w (SoupE [] [] [] 51 w) := by
  have hC := CfgR.fine_of (SoupV.err_zero h).1
  have KC := Lib.hid (fun W n => u_check C S W (hS.keep n))
  rw [h] at KC
  have KI := Lib.hid (fun W => u_id x.i W)
  have KM := Lib.hid (fun W => u_mayHop C x W)
  rw [HopR.may_id C x, Bool.and_eq_true] at hm
  rw [hm.1] at KI
  rw [hm.2] at KM
  obtain ⟨z, hz⟩ := HopR.isFirst S.hs x.i
  have KT := Lib.hid (fun W n => u_hget S x.i z hz W (hS.keep n))
  have hd := HopR.first_of_hit (HopR.listB_iff.1 (HopR.err_list h)).2.2 hp hz
  rw [hh] at hd
  rw [hd] at KT
  clear hd hz h hm hp hh hC hS
  have qf : decide ((16 : Int) ≤ (S.hs.length : Int)) = true := decide_eq_true (by omega)
  clear hf
  go_enter Try.func13, Try.ntmps13
  go_wp2_with fail
  refine Calls.at (fun W hW => ?_)
  have hn : New w W := by subst hW; (repeat (first | (with_reducible exact New.refl _) | (with_reducible assumption) | ((with_reducible refine New.setB ?_ ?_ _); focus (first | omega | (simp; omega) | (simp; done))) | (with_reducible refine New.alloc ?_ _) | (with_reducible refine New.drew ?_) | (with_reducible refine New.drewN ?_ _) | (with_reducible refine New.hat ?_ _) | ((with_reducible apply New.snart); (with_reducible assumption))))
  ((have g0 : World.cell? (W) ⟨w.heap.size, 0, none⟩ = some (.int .i64 C.cl) := (by subst hW; go_simp)); (have g1 : World.cell? (W) ⟨w.heap.size, 1, none⟩ = some (.int .i64 C.cb) := (by subst hW; go_simp)); (have g2 : World.cell? (W) ⟨w.heap.size, 2, none⟩ = some (.int .i64 C.ht) := (by subst hW; go_simp)); (have g3 : World.cell? (W) ⟨w.heap.size, 3, none⟩ = some (.int .i64 C.ri) := (by subst hW; go_simp)); (have g4 : World.cell? (W) ⟨w.heap.size, 4, none⟩ = some (.int .i64 C.ru) := (by subst hW; go_simp)); (have g5 : World.cell? (W) ⟨w.heap.size, 5, none⟩ = some (.int .i64 C.wd) := (by subst hW; go_simp)); (have g6 : World.cell? (W) ⟨w.heap.size, 6, none⟩ = some (.int .i64 C.dp) := (by subst hW; go_simp)))
  have q0 : W.cell? ⟨w.heap.size + 1, 0, none⟩ = some (.slice S.a0 S.ts.length S.c0) := by subst hW; go_simp
  have q1 : W.cell? ⟨w.heap.size + 1, 1, none⟩ = some (.slice S.a1 S.bs.length S.c1) := by subst hW; go_simp
  have q2 : W.cell? ⟨w.heap.size + 1, 2, none⟩ = some (.slice S.a2 S.hs.length S.c2) := by subst hW; go_simp
  ((have d0 : World.cell? (W) ⟨w.heap.size + 1 + 1, 0, none⟩ = some (.int .i64 x.i) := (by subst hW; go_simp)); (have d1 : World.cell? (W) ⟨w.heap.size + 1 + 1, 1, none⟩ = some (.int .i64 x.fx) := (by subst hW; go_simp)); (have d2 : World.cell? (W) ⟨w.heap.size + 1 + 1, 2, none⟩ = some (.int .i64 x.fz) := (by subst hW; go_simp)); (have d3 : World.cell? (W) ⟨w.heap.size + 1 + 1, 3, none⟩ = some (.int .i64 x.fy) := (by subst hW; go_simp)); (have d4 : World.cell? (W) ⟨w.heap.size + 1 + 1, 4, none⟩ = some (.int .i64 x.tx) := (by subst hW; go_simp)); (have d5 : World.cell? (W) ⟨w.heap.size + 1 + 1, 5, none⟩ = some (.int .i64 x.tz) := (by subst hW; go_simp)); (have d6 : World.cell? (W) ⟨w.heap.size + 1 + 1, 6, none⟩ = some (.int .i64 x.ty) := (by subst hW; go_simp)); (have d7 : World.cell? (W) ⟨w.heap.size + 1 + 1, 7, none⟩ = some (.bool x.bo) := (by subst hW; go_simp)); (have d8 : World.cell? (W) ⟨w.heap.size + 1 + 1, 8, none⟩ = some (.int .i64 x.ar) := (by subst hW; go_simp)); (have d9 : World.cell? (W) ⟨w.heap.size + 1 + 1, 9, none⟩ = some (.int .i64 x.co) := (by subst hW; go_simp)))
  have fz : Thr W (w.heap.size + 1 + 1 + 1) 3 := by subst hW; exact Thr.new _ #[.slice none 0 0, .slice none 0 0, .slice none 0 0] _ _ (by simp)
  clear hW
  refine (KC.out _ hn).mono ?_
  rintro e W1 ⟨rfl, n1⟩
  replace g0 := New.keep (n1) g0; replace g1 := New.keep (n1) g1; replace g2 := New.keep (n1) g2; replace g3 := New.keep (n1) g3; replace g4 := New.keep (n1) g4; replace g5 := New.keep (n1) g5; replace g6 := New.keep (n1) g6
  replace q0 := New.keep n1 q0
  replace q1 := New.keep n1 q1
  replace q2 := New.keep n1 q2
  replace d0 := New.keep (n1) d0; replace d1 := New.keep (n1) d1; replace d2 := New.keep (n1) d2; replace d3 := New.keep (n1) d3; replace d4 := New.keep (n1) d4; replace d5 := New.keep (n1) d5; replace d6 := New.keep (n1) d6; replace d7 := New.keep (n1) d7; replace d8 := New.keep (n1) d8; replace d9 := New.keep (n1) d9
  replace fz := fz.keep n1
  replace hn := hn.trans n1
  have sz : w.heap.size + 1 + 1 + 1 < W1.heap.size := fz.lt (by omega)
  clear n1
  go_wp2_with fail
  refine (KI.out _).mono ?_
  rintro e W2 ⟨rfl, n1⟩
  replace g0 := New.keep (n1) g0; replace g1 := New.keep (n1) g1; replace g2 := New.keep (n1) g2; replace g3 := New.keep (n1) g3; replace g4 := New.keep (n1) g4; replace g5 := New.keep (n1) g5; replace g6 := New.keep (n1) g6
  replace q0 := New.keep n1 q0
  replace q1 := New.keep n1 q1
  replace q2 := New.keep n1 q2
  replace d0 := New.keep (n1) d0; replace d1 := New.keep (n1) d1; replace d2 := New.keep (n1) d2; replace d3 := New.keep (n1) d3; replace d4 := New.keep (n1) d4; replace d5 := New.keep (n1) d5; replace d6 := New.keep (n1) d6; replace d7 := New.keep (n1) d7; replace d8 := New.keep (n1) d8; replace d9 := New.keep (n1) d9
  replace fz := fz.keep n1
  replace hn := hn.trans n1
  have sz : w.heap.size + 1 + 1 + 1 < W2.heap.size := fz.lt (by omega)
  clear n1
  go_wp2_with fail
  refine (KM.out _).mono ?_
  rintro e W3 ⟨rfl, n1⟩
  replace g0 := New.keep (n1) g0; replace g1 := New.keep (n1) g1; replace g2 := New.keep (n1) g2; replace g3 := New.keep (n1) g3; replace g4 := New.keep (n1) g4; replace g5 := New.keep (n1) g5; replace g6 := New.keep (n1) g6
  replace q0 := New.keep n1 q0
  replace q1 := New.keep n1 q1
  replace q2 := New.keep n1 q2
  replace d0 := New.keep (n1) d0; replace d1 := New.keep (n1) d1; replace d2 := New.keep (n1) d2; replace d3 := New.keep (n1) d3; replace d4 := New.keep (n1) d4; replace d5 := New.keep (n1) d5; replace d6 := New.keep (n1) d6; replace d7 := New.keep (n1) d7; replace d8 := New.keep (n1) d8; replace d9 := New.keep (n1) d9
  replace fz := fz.keep n1
  replace hn := hn.trans n1
  have sz : w.heap.size + 1 + 1 + 1 < W3.heap.size := fz.lt (by omega)
  clear n1
  go_wp2_with fail
  refine (KT.out _ hn).mono ?_
  rintro e W4 ⟨rfl, n1⟩
  replace g0 := New.keep (n1) g0; replace g1 := New.keep (n1) g1; replace g2 := New.keep (n1) g2; replace g3 := New.keep (n1) g3; replace g4 := New.keep (n1) g4; replace g5 := New.keep (n1) g5; replace g6 := New.keep (n1) g6
  replace q0 := New.keep n1 q0
  replace q1 := New.keep n1 q1
  replace q2 := New.keep n1 q2
  replace d0 := New.keep (n1) d0; replace d1 := New.keep (n1) d1; replace d2 := New.keep (n1) d2; replace d3 := New.keep (n1) d3; replace d4 := New.keep (n1) d4; replace d5 := New.keep (n1) d5; replace d6 := New.keep (n1) d6; replace d7 := New.keep (n1) d7; replace d8 := New.keep (n1) d8; replace d9 := New.keep (n1) d9
  replace fz := fz.keep n1
  replace hn := hn.trans n1
  have sz : w.heap.size + 1 + 1 + 1 < W4.heap.size := fz.lt (by omega)
  have sz1 : w.heap.size + 1 < W4.heap.size := by omega
  have sz2 : w.heap.size + 1 + 1 < W4.heap.size := by omega
  clear n1
  go_wp2_with (refine wpList_store_row rfl 28 _ _ rfl _ _ rfl rfl (fz.keep (by (repeat (first | (with_reducible exact New.refl _) | (with_reducible assumption) | ((with_reducible refine New.setB ?_ ?_ _); focus (first | omega | (simp; omega) | (simp; done))) | (with_reducible refine New.alloc ?_ _) | (with_reducible refine New.drew ?_) | (with_reducible refine New.drewN ?_ _) | (with_reducible refine New.hat ?_ _) | ((with_reducible apply New.snart); (with_reducible assumption)))))) (by kernel_rfl) (by intro v hv; simp at hv; rcases hv with rfl | rfl | rfl <;> rfl) (fun Z nZ kZ cZ => ?_))
  have nz := nZ w (by (repeat (first | (with_reducible exact New.refl _) | (with_reducible assumption) | ((with_reducible refine New.setB ?_ ?_ _); focus (first | omega | (simp; omega) | (simp; done))) | (with_reducible refine New.alloc ?_ _) | (with_reducible refine New.drew ?_) | (with_reducible refine New.drewN ?_ _) | (with_reducible refine New.hat ?_ _) | ((with_reducible apply New.snart); (with_reducible assumption))))) (by omega)
  have r0 : Z.cell? ⟨w.heap.size + 1 + 1 + 1, 0, none⟩ = some (.slice none 0 0) := by have := cZ 0 (by simp); simpa using this
  have r1 : Z.cell? ⟨w.heap.size + 1 + 1 + 1, 1, none⟩ = some (.slice none 0 0) := by have := cZ 1 (by simp); simpa using this
  have r2 : Z.cell? ⟨w.heap.size + 1 + 1 + 1, 2, none⟩ = some (.slice none 0 0) := by have := cZ 2 (by simp); simpa using this
  clear nZ kZ cZ
  refine bodyPost_ret (v := .tuple #[.agg #[.slice none 0 0, .slice none 0 0, .slice none 0 0], .int .i64 51]) (by simp [results, Try.results13, go_sem, r0, r1, r2]) rfl ?_
  exact ⟨SoupV.none, rfl, SoupV.none_ok _, rfl, rfl, rfl, SoupV.none_own _, nz⟩

end Go.Proofs.Ytonngfogbnfbnaa
