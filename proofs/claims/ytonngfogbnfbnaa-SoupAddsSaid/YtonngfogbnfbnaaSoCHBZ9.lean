import Derived.Test.YtonngfogbnfbnaaSoHBZ9
import Derived.Test.YtonngfogbnfbnaaSoGZ9
import Derived.Test.YtonngfogbnfbnaaSoSZ9
import Derived.Test.YtonngfogbnfbnaaSoCEZ9
import Derived.Test.YtonngfogbnfbnaaSoCGZ9
import Derived.Test.YtonngfogbnfbnaaSoADBZ9

/- Package soup: one found. -/
namespace Go.Proofs.Ytonngfogbnfbnaa
open Go.RowKit
set_option linter.unusedVariables false

/-- What is found: the one at z, or the zero one. -/
def BoxR.got (l : List BoxR) (z : Int) : BoxR := if z < 0 then BoxR.zero else l[z.toNat]!
theorem BoxR.first_cases {l : List BoxR} {id z : Int} (hz : BoxR.IsFirst l id z) : z = -1 ∨ ∃ j : Nat, ∃ h : j < l.length, z = j ∧ BoxR.got l z = l[j] := by
  rcases hz with ⟨h, _⟩ | ⟨j, hj, rfl, _⟩
  · exact Or.inl h
  · refine Or.inr ⟨j, hj, rfl, ?_⟩
    unfold BoxR.got
    rw [if_neg (by omega), Int.toNat_natCast, getElem!_pos l j hj]

end Go.Proofs.Ytonngfogbnfbnaa

/- The document's package of soups: one found. -/
namespace Go.Proofs.Ytonngfogbnfbnaa
open Go.RowKit
set_option linter.unusedVariables false
set_option maxRecDepth 100000

set_option maxHeartbeats 4000000 in
theorem u_bget (S : SoupV) (id z : Int) (hz : BoxR.IsFirst S.bs id z) (w : World) (hS : S.ok w) :
    Calls Try.prog 32 #[.agg #[.slice S.a0 S.ts.length S.c0, .slice S.a1 S.bs.length S.c1, .slice S.a2 S.hs.length S.c2], .int .i64 id] w fun e w' => e = .returned (.tuple #[.agg #[.int .i64 (BoxR.got S.bs z).i, .int .i64 (BoxR.got S.bs z).x0, .int .i64 (BoxR.got S.bs z).z0, .int .i64 (BoxR.got S.bs z).x1, .int .i64 (BoxR.got S.bs z).z1, .int .i64 (BoxR.got S.bs z).y0, .int .i64 (BoxR.got S.bs z).y1, .int .i64 (BoxR.got S.bs z).ar], .bool (decide (0 ≤ z))]) ∧ New w w' := by
  have HR := Lib.hid hS.b.row.2.2.2.2
  have hml := Nat.le_trans hS.b.row.2.1 hS.b.row.2.2.1
  unfold maxLen at hml
  obtain ⟨ts, bs, hs, a0, a1, a2, k0, k1, k2⟩ := S
  dsimp only at *
  clear hS
  have GN : Hid ((∀ j (h : j < bs.length), bs[j].i ≠ id) → z = -1) := Lib.hid (fun h => BoxR.first_none hz h)
  have GH : Hid (∀ j (h : j < bs.length), bs[j].i = id → (∀ k (hk : k < j), bs[k].i ≠ id) → z = j ∧ BoxR.got bs z = bs[j]) := Lib.hid (fun j h e hb => by
    have e1 := BoxR.first_hit hz h e hb
    refine ⟨e1, ?_⟩
    unfold BoxR.got
    rw [e1, if_neg (by omega), Int.toNat_natCast, getElem!_pos bs j h])
  have GZ : Hid (z = -1 → BoxR.got bs z = BoxR.zero) := Lib.hid (fun e => by unfold BoxR.got; rw [if_pos (by omega)])
  clear hz
  go_enter Try.func32, Try.ntmps32
  go_wp2_with fail
  refine Code.at (fun W hW => ?_)
  have hn : New w W := by subst hW; (repeat (first | (with_reducible exact New.refl _) | (with_reducible assumption) | ((with_reducible refine New.setB ?_ ?_ _); focus (first | omega | (simp; omega) | (simp; done))) | (with_reducible refine New.alloc ?_ _) | (with_reducible refine New.drew ?_) | (with_reducible refine New.drewN ?_ _) | (with_reducible refine New.hat ?_ _) | ((with_reducible apply New.snart); (with_reducible assumption))))
  have q : W.cell? ⟨w.heap.size, 1, none⟩ = some (.slice a1 bs.length k1) := by subst hW; go_simp
  have fz : Thr W (w.heap.size + 1) 8 := by subst hW; exact Thr.new _ _ _ _ (by simp)
  clear hW
  go_loopg [6] bs.length (fun k i wr => ∃ m : Nat, i = .int .i64 m ∧ m + k = bs.length ∧ (∀ j (h : j < bs.length), j < m → bs[j].i ≠ id) ∧ New W wr)
  case atStart => exact ⟨0, rfl, by omega, fun j h hj => absurd hj (by omega), New.refl _⟩
  case round =>
    obtain ⟨m, rfl, hmk, hall, nr⟩ := hrel
    have HA := Lib.hid hall
    clear hall
    replace q := New.keep nr q
    replace fz := fz.keep nr
    replace hn := hn.trans nr
    have hsz : w.heap.size + 1 < wr.heap.size := fz.lt (by omega)
    by_cases hlt : m < bs.length
    · obtain ⟨b, off, rfl, hA⟩ := HR.out (by omega)
      have hA' := hA.keep hn
      obtain ⟨d0, d1, d2, d3, d4, d5, d6, d7⟩ := BoxR.cells hA' m hlt
      clear hA hA'
      by_cases he : bs[m].i = id
      · have GE := Lib.hid (GH.out m hlt he (fun k hk => HA.out k (by omega) hk))
        have q1 : (bs[m].i == id) = true := by simpa using he
        have hd : decide ((0 : Int) ≤ z) = true := decide_eq_true (by have := GE.out.1; omega)
        replace hd := Lib.hid hd
        clear he GN GH GZ
        go_wp2_with (refine wpList_store_row rfl 35 _ _ rfl _ _ rfl rfl (fz.keep (by (repeat (first | (with_reducible exact New.refl _) | (with_reducible assumption) | ((with_reducible refine New.setB ?_ ?_ _); focus (first | omega | (simp; omega) | (simp; done))) | (with_reducible refine New.alloc ?_ _) | (with_reducible refine New.drew ?_) | (with_reducible refine New.drewN ?_ _) | (with_reducible refine New.hat ?_ _) | ((with_reducible apply New.snart); (with_reducible assumption)))))) (by kernel_rfl) (BoxR.enc_one bs[m]) (fun Z nZ kZ cZ => ?_))
        have nz := nZ w (by (repeat (first | (with_reducible exact New.refl _) | (with_reducible assumption) | ((with_reducible refine New.setB ?_ ?_ _); focus (first | omega | (simp; omega) | (simp; done))) | (with_reducible refine New.alloc ?_ _) | (with_reducible refine New.drew ?_) | (with_reducible refine New.drewN ?_ _) | (with_reducible refine New.hat ?_ _) | ((with_reducible apply New.snart); (with_reducible assumption))))) (by omega)
        obtain ⟨r0, r1, r2, r3, r4, r5, r6, r7⟩ := BoxR.at (x := bs[m]) cZ
        clear nZ kZ cZ
        refine bodyPost_ret (v := .tuple #[.agg #[.int .i64 bs[m].i, .int .i64 bs[m].x0, .int .i64 bs[m].z0, .int .i64 bs[m].x1, .int .i64 bs[m].z1, .int .i64 bs[m].y0, .int .i64 bs[m].y1, .int .i64 bs[m].ar], .bool true]) (by simp [results, Try.results32, go_sem, r0, r1, r2, r3, r4, r5, r6, r7]) rfl ?_
        refine ⟨?_, nz⟩
        rw [GE.out.2, hd.out]
      · have q1 : (bs[m].i == id) = false := by simpa using he
        go_wp2_with fail
        go_roundg (gk - 1)
        case measure => omega
        case rel => exact ⟨m + 1, by go_num, by omega, fun j h hj => by
          rcases Nat.lt_or_ge j m with h1 | h1
          · exact HA.out j h h1
          · obtain rfl : j = m := by omega
            exact he, nr⟩
    · have hz := GN.out (fun j h => HA.out j h (by omega))
      have hd : decide ((0 : Int) ≤ z) = false := decide_eq_false (by omega)
      replace hd := Lib.hid hd
      have GE := Lib.hid (GZ.out hz)
      clear hz GN GH GZ HA
      go_wp2_with (refine wpList_store_row rfl 35 _ _ rfl _ _ rfl rfl (fz.keep (by (repeat (first | (with_reducible exact New.refl _) | (with_reducible assumption) | ((with_reducible refine New.setB ?_ ?_ _); focus (first | omega | (simp; omega) | (simp; done))) | (with_reducible refine New.alloc ?_ _) | (with_reducible refine New.drew ?_) | (with_reducible refine New.drewN ?_ _) | (with_reducible refine New.hat ?_ _) | ((with_reducible apply New.snart); (with_reducible assumption)))))) (by kernel_rfl) (BoxR.enc_one BoxR.zero) (fun Z nZ kZ cZ => ?_))
      have nz := nZ w (by (repeat (first | (with_reducible exact New.refl _) | (with_reducible assumption) | ((with_reducible refine New.setB ?_ ?_ _); focus (first | omega | (simp; omega) | (simp; done))) | (with_reducible refine New.alloc ?_ _) | (with_reducible refine New.drew ?_) | (with_reducible refine New.drewN ?_ _) | (with_reducible refine New.hat ?_ _) | ((with_reducible apply New.snart); (with_reducible assumption))))) (by omega)
      obtain ⟨r0, r1, r2, r3, r4, r5, r6, r7⟩ := BoxR.at (x := BoxR.zero) cZ
      clear nZ kZ cZ
      refine bodyPost_ret (v := .tuple #[.agg #[.int .i64 BoxR.zero.i, .int .i64 BoxR.zero.x0, .int .i64 BoxR.zero.z0, .int .i64 BoxR.zero.x1, .int .i64 BoxR.zero.z1, .int .i64 BoxR.zero.y0, .int .i64 BoxR.zero.y1, .int .i64 BoxR.zero.ar], .bool false]) (by simp [results, Try.results32, go_sem, r0, r1, r2, r3, r4, r5, r6, r7]) rfl ?_
      refine ⟨?_, nz⟩
      rw [GE.out, hd.out]

end Go.Proofs.Ytonngfogbnfbnaa

/- The document's package of soups: AddBox, refused. -/
namespace Go.Proofs.Ytonngfogbnfbnaa
open Go.RowKit
set_option linter.unusedVariables false
set_option linter.unusedSimpArgs false
set_option maxRecDepth 100000

/-- Whether an id is there, told twice. -/
theorem BoxR.first_of_hit {l : List BoxR} {id z : Int} {p : Nat} (hl : BoxR.Rise l) (hp : BoxR.Place l id p) (hz : BoxR.IsFirst l id z) : decide (0 ≤ z) = BoxR.hit l id p := by
  rw [Bool.eq_iff_iff, decide_eq_true_eq, BoxR.hit_iff hl hp]
  constructor
  · intro h0
    rcases hz with ⟨h, _⟩ | ⟨j, hj, _, he, _⟩
    · omega
    · exact ⟨l[j], List.getElem_mem hj, he⟩
  · rintro ⟨y, hy, he⟩
    obtain ⟨j, hj, rfl⟩ := List.getElem_of_mem hy
    rcases hz with ⟨_, h⟩ | ⟨k, hk, rfl, _⟩
    · exact absurd he (h j hj)
    · omega

set_option maxHeartbeats 4000000 in
theorem u_badd_err (C : CfgR) (S : SoupV) (x : BoxR) (w : World) (hS : S.ok w) (h : S.err C ≠ 0) :
    Calls Try.prog 11 #[.agg #[.int .i64 C.cl, .int .i64 C.cb, .int .i64 C.ht, .int .i64 C.ri, .int .i64 C.ru, .int .i64 C.wd, .int .i64 C.dp], .agg #[.slice S.a0 S.ts.length S.c0, .slice S.a1 S.bs.length S.c1, .slice S.a2 S.hs.length S.c2], .agg #[.int .i64 x.i, .int .i64 x.x0, .int .i64 x.z0, .int .i64 x.x1, .int .i64 x.z1, .int .i64 x.y0, .int .i64 x.y1, .int .i64 x.ar]] w (SoupE [] [] [] (S.err C) w) := by
  have KC := Lib.hid (fun W n => u_check C S W (hS.keep n))
  generalize S.err C = er at *
  have qe : (er != 0) = true := by simpa using h
  clear h hS
  go_enter Try.func11, Try.ntmps11
  go_wp2_with fail
  refine Calls.at (fun W hW => ?_)
  have hn : New w W := by subst hW; (repeat (first | (with_reducible exact New.refl _) | (with_reducible assumption) | ((with_reducible refine New.setB ?_ ?_ _); focus (first | omega | (simp; omega) | (simp; done))) | (with_reducible refine New.alloc ?_ _) | (with_reducible refine New.drew ?_) | (with_reducible refine New.drewN ?_ _) | (with_reducible refine New.hat ?_ _) | ((with_reducible apply New.snart); (with_reducible assumption))))
  ((have g0 : World.cell? (W) ⟨w.heap.size, 0, none⟩ = some (.int .i64 C.cl) := (by subst hW; go_simp)); (have g1 : World.cell? (W) ⟨w.heap.size, 1, none⟩ = some (.int .i64 C.cb) := (by subst hW; go_simp)); (have g2 : World.cell? (W) ⟨w.heap.size, 2, none⟩ = some (.int .i64 C.ht) := (by subst hW; go_simp)); (have g3 : World.cell? (W) ⟨w.heap.size, 3, none⟩ = some (.int .i64 C.ri) := (by subst hW; go_simp)); (have g4 : World.cell? (W) ⟨w.heap.size, 4, none⟩ = some (.int .i64 C.ru) := (by subst hW; go_simp)); (have g5 : World.cell? (W) ⟨w.heap.size, 5, none⟩ = some (.int .i64 C.wd) := (by subst hW; go_simp)); (have g6 : World.cell? (W) ⟨w.heap.size, 6, none⟩ = some (.int .i64 C.dp) := (by subst hW; go_simp)))
  have q0 : W.cell? ⟨w.heap.size + 1, 0, none⟩ = some (.slice S.a0 S.ts.length S.c0) := by subst hW; go_simp
  have q1 : W.cell? ⟨w.heap.size + 1, 1, none⟩ = some (.slice S.a1 S.bs.length S.c1) := by subst hW; go_simp
  have q2 : W.cell? ⟨w.heap.size + 1, 2, none⟩ = some (.slice S.a2 S.hs.length S.c2) := by subst hW; go_simp
  ((have d0 : World.cell? (W) ⟨w.heap.size + 1 + 1, 0, none⟩ = some (.int .i64 x.i) := (by subst hW; go_simp)); (have d1 : World.cell? (W) ⟨w.heap.size + 1 + 1, 1, none⟩ = some (.int .i64 x.x0) := (by subst hW; go_simp)); (have d2 : World.cell? (W) ⟨w.heap.size + 1 + 1, 2, none⟩ = some (.int .i64 x.z0) := (by subst hW; go_simp)); (have d3 : World.cell? (W) ⟨w.heap.size + 1 + 1, 3, none⟩ = some (.int .i64 x.x1) := (by subst hW; go_simp)); (have d4 : World.cell? (W) ⟨w.heap.size + 1 + 1, 4, none⟩ = some (.int .i64 x.z1) := (by subst hW; go_simp)); (have d5 : World.cell? (W) ⟨w.heap.size + 1 + 1, 5, none⟩ = some (.int .i64 x.y0) := (by subst hW; go_simp)); (have d6 : World.cell? (W) ⟨w.heap.size + 1 + 1, 6, none⟩ = some (.int .i64 x.y1) := (by subst hW; go_simp)); (have d7 : World.cell? (W) ⟨w.heap.size + 1 + 1, 7, none⟩ = some (.int .i64 x.ar) := (by subst hW; go_simp)))
  have fz : Thr W (w.heap.size + 1 + 1 + 1) 3 := by subst hW; exact Thr.new _ #[.slice none 0 0, .slice none 0 0, .slice none 0 0] _ _ (by simp)
  clear hW
  refine (KC.out _ hn).mono ?_
  rintro e W1 ⟨rfl, n1⟩
  replace g0 := New.keep (n1) g0; replace g1 := New.keep (n1) g1; replace g2 := New.keep (n1) g2; replace g3 := New.keep (n1) g3; replace g4 := New.keep (n1) g4; replace g5 := New.keep (n1) g5; replace g6 := New.keep (n1) g6
  replace q0 := New.keep n1 q0
  replace q1 := New.keep n1 q1
  replace q2 := New.keep n1 q2
  replace d0 := New.keep (n1) d0; replace d1 := New.keep (n1) d1; replace d2 := New.keep (n1) d2; replace d3 := New.keep (n1) d3; replace d4 := New.keep (n1) d4; replace d5 := New.keep (n1) d5; replace d6 := New.keep (n1) d6; replace d7 := New.keep (n1) d7
  replace fz := fz.keep n1
  replace hn := hn.trans n1
  have sz : w.heap.size + 1 + 1 + 1 < W1.heap.size := fz.lt (by omega)
  clear n1
  go_wp2_with (refine wpList_store_row rfl 28 _ _ rfl _ _ rfl rfl (fz.keep (by (repeat (first | (with_reducible exact New.refl _) | (with_reducible assumption) | ((with_reducible refine New.setB ?_ ?_ _); focus (first | omega | (simp; omega) | (simp; done))) | (with_reducible refine New.alloc ?_ _) | (with_reducible refine New.drew ?_) | (with_reducible refine New.drewN ?_ _) | (with_reducible refine New.hat ?_ _) | ((with_reducible apply New.snart); (with_reducible assumption)))))) (by kernel_rfl) (by intro v hv; simp at hv; rcases hv with rfl | rfl | rfl <;> rfl) (fun Z nZ kZ cZ => ?_))
  have nz := nZ w (by (repeat (first | (with_reducible exact New.refl _) | (with_reducible assumption) | ((with_reducible refine New.setB ?_ ?_ _); focus (first | omega | (simp; omega) | (simp; done))) | (with_reducible refine New.alloc ?_ _) | (with_reducible refine New.drew ?_) | (with_reducible refine New.drewN ?_ _) | (with_reducible refine New.hat ?_ _) | ((with_reducible apply New.snart); (with_reducible assumption))))) (by omega)
  have r0 : Z.cell? ⟨w.heap.size + 1 + 1 + 1, 0, none⟩ = some (.slice none 0 0) := by have := cZ 0 (by simp); simpa using this
  have r1 : Z.cell? ⟨w.heap.size + 1 + 1 + 1, 1, none⟩ = some (.slice none 0 0) := by have := cZ 1 (by simp); simpa using this
  have r2 : Z.cell? ⟨w.heap.size + 1 + 1 + 1, 2, none⟩ = some (.slice none 0 0) := by have := cZ 2 (by simp); simpa using this
  clear nZ kZ cZ
  refine bodyPost_ret (v := .tuple #[.agg #[.slice none 0 0, .slice none 0 0, .slice none 0 0], .int .i64 er]) (by simp [results, Try.results11, go_sem, r0, r1, r2]) rfl ?_
  exact ⟨SoupV.none, rfl, SoupV.none_ok _, rfl, rfl, rfl, SoupV.none_own _, nz⟩

set_option maxHeartbeats 4000000 in
theorem u_badd_wrong (C : CfgR) (S : SoupV) (x : BoxR) (w : World) (hS : S.ok w) (h : S.err C = 0) (hm : x.may C = false) :
    Calls Try.prog 11 #[.agg #[.int .i64 C.cl, .int .i64 C.cb, .int .i64 C.ht, .int .i64 C.ri, .int .i64 C.ru, .int .i64 C.wd, .int .i64 C.dp], .agg #[.slice S.a0 S.ts.length S.c0, .slice S.a1 S.bs.length S.c1, .slice S.a2 S.hs.length S.c2], .agg #[.int .i64 x.i, .int .i64 x.x0, .int .i64 x.z0, .int .i64 x.x1, .int .i64 x.z1, .int .i64 x.y0, .int .i64 x.y1, .int .i64 x.ar]] w (SoupE [] [] [] 2 w) := by
  have hC := CfgR.fine_of (SoupV.err_zero h).1
  have KC := Lib.hid (fun W n => u_check C S W (hS.keep n))
  rw [h] at KC
  have KI := Lib.hid (fun W => u_id x.i W)
  have KM := Lib.hid (fun W => u_mayBox C x W)
  rw [BoxR.may_id C x] at hm
  clear h hS hC
  go_enter Try.func11, Try.ntmps11
  go_wp2_with fail
  refine Calls.at (fun W hW => ?_)
  have hn : New w W := by subst hW; (repeat (first | (with_reducible exact New.refl _) | (with_reducible assumption) | ((with_reducible refine New.setB ?_ ?_ _); focus (first | omega | (simp; omega) | (simp; done))) | (with_reducible refine New.alloc ?_ _) | (with_reducible refine New.drew ?_) | (with_reducible refine New.drewN ?_ _) | (with_reducible refine New.hat ?_ _) | ((with_reducible apply New.snart); (with_reducible assumption))))
  ((have g0 : World.cell? (W) ⟨w.heap.size, 0, none⟩ = some (.int .i64 C.cl) := (by subst hW; go_simp)); (have g1 : World.cell? (W) ⟨w.heap.size, 1, none⟩ = some (.int .i64 C.cb) := (by subst hW; go_simp)); (have g2 : World.cell? (W) ⟨w.heap.size, 2, none⟩ = some (.int .i64 C.ht) := (by subst hW; go_simp)); (have g3 : World.cell? (W) ⟨w.heap.size, 3, none⟩ = some (.int .i64 C.ri) := (by subst hW; go_simp)); (have g4 : World.cell? (W) ⟨w.heap.size, 4, none⟩ = some (.int .i64 C.ru) := (by subst hW; go_simp)); (have g5 : World.cell? (W) ⟨w.heap.size, 5, none⟩ = some (.int .i64 C.wd) := (by subst hW; go_simp)); (have g6 : World.cell? (W) ⟨w.heap.size, 6, none⟩ = some (.int .i64 C.dp) := (by subst hW; go_simp)))
  have q0 : W.cell? ⟨w.heap.size + 1, 0, none⟩ = some (.slice S.a0 S.ts.length S.c0) := by subst hW; go_simp
  have q1 : W.cell? ⟨w.heap.size + 1, 1, none⟩ = some (.slice S.a1 S.bs.length S.c1) := by subst hW; go_simp
  have q2 : W.cell? ⟨w.heap.size + 1, 2, none⟩ = some (.slice S.a2 S.hs.length S.c2) := by subst hW; go_simp
  ((have d0 : World.cell? (W) ⟨w.heap.size + 1 + 1, 0, none⟩ = some (.int .i64 x.i) := (by subst hW; go_simp)); (have d1 : World.cell? (W) ⟨w.heap.size + 1 + 1, 1, none⟩ = some (.int .i64 x.x0) := (by subst hW; go_simp)); (have d2 : World.cell? (W) ⟨w.heap.size + 1 + 1, 2, none⟩ = some (.int .i64 x.z0) := (by subst hW; go_simp)); (have d3 : World.cell? (W) ⟨w.heap.size + 1 + 1, 3, none⟩ = some (.int .i64 x.x1) := (by subst hW; go_simp)); (have d4 : World.cell? (W) ⟨w.heap.size + 1 + 1, 4, none⟩ = some (.int .i64 x.z1) := (by subst hW; go_simp)); (have d5 : World.cell? (W) ⟨w.heap.size + 1 + 1, 5, none⟩ = some (.int .i64 x.y0) := (by subst hW; go_simp)); (have d6 : World.cell? (W) ⟨w.heap.size + 1 + 1, 6, none⟩ = some (.int .i64 x.y1) := (by subst hW; go_simp)); (have d7 : World.cell? (W) ⟨w.heap.size + 1 + 1, 7, none⟩ = some (.int .i64 x.ar) := (by subst hW; go_simp)))
  have fz : Thr W (w.heap.size + 1 + 1 + 1) 3 := by subst hW; exact Thr.new _ #[.slice none 0 0, .slice none 0 0, .slice none 0 0] _ _ (by simp)
  clear hW
  refine (KC.out _ hn).mono ?_
  rintro e W1 ⟨rfl, n1⟩
  replace g0 := New.keep (n1) g0; replace g1 := New.keep (n1) g1; replace g2 := New.keep (n1) g2; replace g3 := New.keep (n1) g3; replace g4 := New.keep (n1) g4; replace g5 := New.keep (n1) g5; replace g6 := New.keep (n1) g6
  replace q0 := New.keep n1 q0
  replace q1 := New.keep n1 q1
  replace q2 := New.keep n1 q2
  replace d0 := New.keep (n1) d0; replace d1 := New.keep (n1) d1; replace d2 := New.keep (n1) d2; replace d3 := New.keep (n1) d3; replace d4 := New.keep (n1) d4; replace d5 := New.keep (n1) d5; replace d6 := New.keep (n1) d6; replace d7 := New.keep (n1) d7
  replace fz := fz.keep n1
  replace hn := hn.trans n1
  have sz : w.heap.size + 1 + 1 + 1 < W1.heap.size := fz.lt (by omega)
  clear n1
  go_wp2_with fail
  refine (KI.out _).mono ?_
  rintro e W2 ⟨rfl, n1⟩
  replace g0 := New.keep (n1) g0; replace g1 := New.keep (n1) g1; replace g2 := New.keep (n1) g2; replace g3 := New.keep (n1) g3; replace g4 := New.keep (n1) g4; replace g5 := New.keep (n1) g5; replace g6 := New.keep (n1) g6
  replace q0 := New.keep n1 q0
  replace q1 := New.keep n1 q1
  replace q2 := New.keep n1 q2
  replace d0 := New.keep (n1) d0; replace d1 := New.keep (n1) d1; replace d2 := New.keep (n1) d2; replace d3 := New.keep (n1) d3; replace d4 := New.keep (n1) d4; replace d5 := New.keep (n1) d5; replace d6 := New.keep (n1) d6; replace d7 := New.keep (n1) d7
  replace fz := fz.keep n1
  replace hn := hn.trans n1
  have sz : w.heap.size + 1 + 1 + 1 < W2.heap.size := fz.lt (by omega)
  clear n1
  cases hi : idB x.i
  · clear hm hi
    go_wp2_with (refine wpList_store_row rfl 28 _ _ rfl _ _ rfl rfl (fz.keep (by (repeat (first | (with_reducible exact New.refl _) | (with_reducible assumption) | ((with_reducible refine New.setB ?_ ?_ _); focus (first | omega | (simp; omega) | (simp; done))) | (with_reducible refine New.alloc ?_ _) | (with_reducible refine New.drew ?_) | (with_reducible refine New.drewN ?_ _) | (with_reducible refine New.hat ?_ _) | ((with_reducible apply New.snart); (with_reducible assumption)))))) (by kernel_rfl) (by intro v hv; simp at hv; rcases hv with rfl | rfl | rfl <;> rfl) (fun Z nZ kZ cZ => ?_))
    have nz := nZ w (by (repeat (first | (with_reducible exact New.refl _) | (with_reducible assumption) | ((with_reducible refine New.setB ?_ ?_ _); focus (first | omega | (simp; omega) | (simp; done))) | (with_reducible refine New.alloc ?_ _) | (with_reducible refine New.drew ?_) | (with_reducible refine New.drewN ?_ _) | (with_reducible refine New.hat ?_ _) | ((with_reducible apply New.snart); (with_reducible assumption))))) (by omega)
    have r0 : Z.cell? ⟨w.heap.size + 1 + 1 + 1, 0, none⟩ = some (.slice none 0 0) := by have := cZ 0 (by simp); simpa using this
    have r1 : Z.cell? ⟨w.heap.size + 1 + 1 + 1, 1, none⟩ = some (.slice none 0 0) := by have := cZ 1 (by simp); simpa using this
    have r2 : Z.cell? ⟨w.heap.size + 1 + 1 + 1, 2, none⟩ = some (.slice none 0 0) := by have := cZ 2 (by simp); simpa using this
    clear nZ kZ cZ
    refine bodyPost_ret (v := .tuple #[.agg #[.slice none 0 0, .slice none 0 0, .slice none 0 0], .int .i64 2]) (by simp [results, Try.results11, go_sem, r0, r1, r2]) rfl ?_
    exact ⟨SoupV.none, rfl, SoupV.none_ok _, rfl, rfl, rfl, SoupV.none_own _, nz⟩
  rw [hi, Bool.true_and] at hm
  rw [hm] at KM
  clear hi hm
  go_wp2_with fail
  refine (KM.out _).mono ?_
  rintro e W3 ⟨rfl, n1⟩
  replace g0 := New.keep (n1) g0; replace g1 := New.keep (n1) g1; replace g2 := New.keep (n1) g2; replace g3 := New.keep (n1) g3; replace g4 := New.keep (n1) g4; replace g5 := New.keep (n1) g5; replace g6 := New.keep (n1) g6
  replace q0 := New.keep n1 q0
  replace q1 := New.keep n1 q1
  replace q2 := New.keep n1 q2
  replace d0 := New.keep (n1) d0; replace d1 := New.keep (n1) d1; replace d2 := New.keep (n1) d2; replace d3 := New.keep (n1) d3; replace d4 := New.keep (n1) d4; replace d5 := New.keep (n1) d5; replace d6 := New.keep (n1) d6; replace d7 := New.keep (n1) d7
  replace fz := fz.keep n1
  replace hn := hn.trans n1
  have sz : w.heap.size + 1 + 1 + 1 < W3.heap.size := fz.lt (by omega)
  clear n1
  go_wp2_with (refine wpList_store_row rfl 28 _ _ rfl _ _ rfl rfl (fz.keep (by (repeat (first | (with_reducible exact New.refl _) | (with_reducible assumption) | ((with_reducible refine New.setB ?_ ?_ _); focus (first | omega | (simp; omega) | (simp; done))) | (with_reducible refine New.alloc ?_ _) | (with_reducible refine New.drew ?_) | (with_reducible refine New.drewN ?_ _) | (with_reducible refine New.hat ?_ _) | ((with_reducible apply New.snart); (with_reducible assumption)))))) (by kernel_rfl) (by intro v hv; simp at hv; rcases hv with rfl | rfl | rfl <;> rfl) (fun Z nZ kZ cZ => ?_))
  have nz := nZ w (by (repeat (first | (with_reducible exact New.refl _) | (with_reducible assumption) | ((with_reducible refine New.setB ?_ ?_ _); focus (first | omega | (simp; omega) | (simp; done))) | (with_reducible refine New.alloc ?_ _) | (with_reducible refine New.drew ?_) | (with_reducible refine New.drewN ?_ _) | (with_reducible refine New.hat ?_ _) | ((with_reducible apply New.snart); (with_reducible assumption))))) (by omega)
  have r0 : Z.cell? ⟨w.heap.size + 1 + 1 + 1, 0, none⟩ = some (.slice none 0 0) := by have := cZ 0 (by simp); simpa using this
  have r1 : Z.cell? ⟨w.heap.size + 1 + 1 + 1, 1, none⟩ = some (.slice none 0 0) := by have := cZ 1 (by simp); simpa using this
  have r2 : Z.cell? ⟨w.heap.size + 1 + 1 + 1, 2, none⟩ = some (.slice none 0 0) := by have := cZ 2 (by simp); simpa using this
  clear nZ kZ cZ
  refine bodyPost_ret (v := .tuple #[.agg #[.slice none 0 0, .slice none 0 0, .slice none 0 0], .int .i64 2]) (by simp [results, Try.results11, go_sem, r0, r1, r2]) rfl ?_
  exact ⟨SoupV.none, rfl, SoupV.none_ok _, rfl, rfl, rfl, SoupV.none_own _, nz⟩

set_option maxHeartbeats 4000000 in
theorem u_badd_twice (C : CfgR) (S : SoupV) (x : BoxR) (w : World) (hS : S.ok w) (h : S.err C = 0) (hm : x.may C = true) (p : Nat) (hp : BoxR.Place S.bs x.i p) (hh : BoxR.hit S.bs x.i p = true) :
    Calls Try.prog 11 #[.agg #[.int .i64 C.cl, .int .i64 C.cb, .int .i64 C.ht, .int .i64 C.ri, .int .i64 C.ru, .int .i64 C.wd, .int .i64 C.dp], .agg #[.slice S.a0 S.ts.length S.c0, .slice S.a1 S.bs.length S.c1, .slice S.a2 S.hs.length S.c2], .agg #[.int .i64 x.i, .int .i64 x.x0, .int .i64 x.z0, .int .i64 x.x1, .int .i64 x.z1, .int .i64 x.y0, .int .i64 x.y1, .int .i64 x.ar]] w (SoupE [] [] [] 50 w) := by
  have hC := CfgR.fine_of (SoupV.err_zero h).1
  have KC := Lib.hid (fun W n => u_check C S W (hS.keep n))
  rw [h] at KC
  have KI := Lib.hid (fun W => u_id x.i W)
  have KM := Lib.hid (fun W => u_mayBox C x W)
  rw [BoxR.may_id C x, Bool.and_eq_true] at hm
  rw [hm.1] at KI
  rw [hm.2] at KM
  obtain ⟨z, hz⟩ := BoxR.isFirst S.bs x.i
  have KT := Lib.hid (fun W n => u_bget S x.i z hz W (hS.keep n))
  have hd := BoxR.first_of_hit (BoxR.listB_iff.1 (BoxR.err_list h)).2.2 hp hz
  rw [hh] at hd
  rw [hd] at KT
  clear hd hz h hm hp hh hC hS
  go_enter Try.func11, Try.ntmps11
  go_wp2_with fail
  refine Calls.at (fun W hW => ?_)
  have hn : New w W := by subst hW; (repeat (first | (with_reducible exact New.refl _) | (with_reducible assumption) | ((with_reducible refine New.setB ?_ ?_ _); focus (first | omega | (simp; omega) | (simp; done))) | (with_reducible refine New.alloc ?_ _) | (with_reducible refine New.drew ?_) | (with_reducible refine New.drewN ?_ _) | (with_reducible refine New.hat ?_ _) | ((with_reducible apply New.snart); (with_reducible assumption))))
  ((have g0 : World.cell? (W) ⟨w.heap.size, 0, none⟩ = some (.int .i64 C.cl) := (by subst hW; go_simp)); (have g1 : World.cell? (W) ⟨w.heap.size, 1, none⟩ = some (.int .i64 C.cb) := (by subst hW; go_simp)); (have g2 : World.cell? (W) ⟨w.heap.size, 2, none⟩ = some (.int .i64 C.ht) := (by subst hW; go_simp)); (have g3 : World.cell? (W) ⟨w.heap.size, 3, none⟩ = some (.int .i64 C.ri) := (by subst hW; go_simp)); (have g4 : World.cell? (W) ⟨w.heap.size, 4, none⟩ = some (.int .i64 C.ru) := (by subst hW; go_simp)); (have g5 : World.cell? (W) ⟨w.heap.size, 5, none⟩ = some (.int .i64 C.wd) := (by subst hW; go_simp)); (have g6 : World.cell? (W) ⟨w.heap.size, 6, none⟩ = some (.int .i64 C.dp) := (by subst hW; go_simp)))
  have q0 : W.cell? ⟨w.heap.size + 1, 0, none⟩ = some (.slice S.a0 S.ts.length S.c0) := by subst hW; go_simp
  have q1 : W.cell? ⟨w.heap.size + 1, 1, none⟩ = some (.slice S.a1 S.bs.length S.c1) := by subst hW; go_simp
  have q2 : W.cell? ⟨w.heap.size + 1, 2, none⟩ = some (.slice S.a2 S.hs.length S.c2) := by subst hW; go_simp
  ((have d0 : World.cell? (W) ⟨w.heap.size + 1 + 1, 0, none⟩ = some (.int .i64 x.i) := (by subst hW; go_simp)); (have d1 : World.cell? (W) ⟨w.heap.size + 1 + 1, 1, none⟩ = some (.int .i64 x.x0) := (by subst hW; go_simp)); (have d2 : World.cell? (W) ⟨w.heap.size + 1 + 1, 2, none⟩ = some (.int .i64 x.z0) := (by subst hW; go_simp)); (have d3 : World.cell? (W) ⟨w.heap.size + 1 + 1, 3, none⟩ = some (.int .i64 x.x1) := (by subst hW; go_simp)); (have d4 : World.cell? (W) ⟨w.heap.size + 1 + 1, 4, none⟩ = some (.int .i64 x.z1) := (by subst hW; go_simp)); (have d5 : World.cell? (W) ⟨w.heap.size + 1 + 1, 5, none⟩ = some (.int .i64 x.y0) := (by subst hW; go_simp)); (have d6 : World.cell? (W) ⟨w.heap.size + 1 + 1, 6, none⟩ = some (.int .i64 x.y1) := (by subst hW; go_simp)); (have d7 : World.cell? (W) ⟨w.heap.size + 1 + 1, 7, none⟩ = some (.int .i64 x.ar) := (by subst hW; go_simp)))
  have fz : Thr W (w.heap.size + 1 + 1 + 1) 3 := by subst hW; exact Thr.new _ #[.slice none 0 0, .slice none 0 0, .slice none 0 0] _ _ (by simp)
  clear hW
  refine (KC.out _ hn).mono ?_
  rintro e W1 ⟨rfl, n1⟩
  replace g0 := New.keep (n1) g0; replace g1 := New.keep (n1) g1; replace g2 := New.keep (n1) g2; replace g3 := New.keep (n1) g3; replace g4 := New.keep (n1) g4; replace g5 := New.keep (n1) g5; replace g6 := New.keep (n1) g6
  replace q0 := New.keep n1 q0
  replace q1 := New.keep n1 q1
  replace q2 := New.keep n1 q2
  replace d0 := New.keep (n1) d0; replace d1 := New.keep (n1) d1; replace d2 := New.keep (n1) d2; replace d3 := New.keep (n1) d3; replace d4 := New.keep (n1) d4; replace d5 := New.keep (n1) d5; replace d6 := New.keep (n1) d6; replace d7 := New.keep (n1) d7
  replace fz := fz.keep n1
  replace hn := hn.trans n1
  have sz : w.heap.size + 1 + 1 + 1 < W1.heap.size := fz.lt (by omega)
  clear n1
  go_wp2_with fail
  refine (KI.out _).mono ?_
  rintro e W2 ⟨rfl, n1⟩
  replace g0 := New.keep (n1) g0; replace g1 := New.keep (n1) g1; replace g2 := New.keep (n1) g2; replace g3 := New.keep (n1) g3; replace g4 := New.keep (n1) g4; replace g5 := New.keep (n1) g5; replace g6 := New.keep (n1) g6
  replace q0 := New.keep n1 q0
  replace q1 := New.keep n1 q1
  replace q2 := New.keep n1 q2
  replace d0 := New.keep (n1) d0; replace d1 := New.keep (n1) d1; replace d2 := New.keep (n1) d2; replace d3 := New.keep (n1) d3; replace d4 := New.keep (n1) d4; replace d5 := New.keep (n1) d5; replace d6 := New.keep (n1) d6; replace d7 := New.keep (n1) d7
  replace fz := fz.keep n1
  replace hn := hn.trans n1
  have sz : w.heap.size + 1 + 1 + 1 < W2.heap.size := fz.lt (by omega)
  clear n1
  go_wp2_with fail
  refine (KM.out _).mono ?_
  rintro e W3 ⟨rfl, n1⟩
  replace g0 := New.keep (n1) g0; replace g1 := New.keep (n1) g1; replace g2 := New.keep (n1) g2; replace g3 := New.keep (n1) g3; replace g4 := New.keep (n1) g4; replace g5 := New.keep (n1) g5; replace g6 := New.keep (n1) g6
  replace q0 := New.keep n1 q0
  replace q1 := New.keep n1 q1
  replace q2 := New.keep n1 q2
  replace d0 := New.keep (n1) d0; replace d1 := New.keep (n1) d1; replace d2 := New.keep (n1) d2; replace d3 := New.keep (n1) d3; replace d4 := New.keep (n1) d4; replace d5 := New.keep (n1) d5; replace d6 := New.keep (n1) d6; replace d7 := New.keep (n1) d7
  replace fz := fz.keep n1
  replace hn := hn.trans n1
  have sz : w.heap.size + 1 + 1 + 1 < W3.heap.size := fz.lt (by omega)
  clear n1
  go_wp2_with fail
  refine (KT.out _ hn).mono ?_
  rintro e W4 ⟨rfl, n1⟩
  replace g0 := New.keep (n1) g0; replace g1 := New.keep (n1) g1; replace g2 := New.keep (n1) g2; replace g3 := New.keep (n1) g3; replace g4 := New.keep (n1) g4; replace g5 := New.keep (n1) g5; replace g6 := New.keep (n1) g6
  replace q0 := New.keep n1 q0
  replace q1 := New.keep n1 q1
  replace q2 := New.keep n1 q2
  replace d0 := New.keep (n1) d0; replace d1 := New.keep (n1) d1; replace d2 := New.keep (n1) d2; replace d3 := New.keep (n1) d3; replace d4 := New.keep (n1) d4; replace d5 := New.keep (n1) d5; replace d6 := New.keep (n1) d6; replace d7 := New.keep (n1) d7
  replace fz := fz.keep n1
  replace hn := hn.trans n1
  have sz : w.heap.size + 1 + 1 + 1 < W4.heap.size := fz.lt (by omega)
  have sz1 : w.heap.size + 1 < W4.heap.size := by omega
  have sz2 : w.heap.size + 1 + 1 < W4.heap.size := by omega
  clear n1
  go_wp2_with (refine wpList_store_row rfl 28 _ _ rfl _ _ rfl rfl (fz.keep (by (repeat (first | (with_reducible exact New.refl _) | (with_reducible assumption) | ((with_reducible refine New.setB ?_ ?_ _); focus (first | omega | (simp; omega) | (simp; done))) | (with_reducible refine New.alloc ?_ _) | (with_reducible refine New.drew ?_) | (with_reducible refine New.drewN ?_ _) | (with_reducible refine New.hat ?_ _) | ((with_reducible apply New.snart); (with_reducible assumption)))))) (by kernel_rfl) (by intro v hv; simp at hv; rcases hv with rfl | rfl | rfl <;> rfl) (fun Z nZ kZ cZ => ?_))
  have nz := nZ w (by (repeat (first | (with_reducible exact New.refl _) | (with_reducible assumption) | ((with_reducible refine New.setB ?_ ?_ _); focus (first | omega | (simp; omega) | (simp; done))) | (with_reducible refine New.alloc ?_ _) | (with_reducible refine New.drew ?_) | (with_reducible refine New.drewN ?_ _) | (with_reducible refine New.hat ?_ _) | ((with_reducible apply New.snart); (with_reducible assumption))))) (by omega)
  have r0 : Z.cell? ⟨w.heap.size + 1 + 1 + 1, 0, none⟩ = some (.slice none 0 0) := by have := cZ 0 (by simp); simpa using this
  have r1 : Z.cell? ⟨w.heap.size + 1 + 1 + 1, 1, none⟩ = some (.slice none 0 0) := by have := cZ 1 (by simp); simpa using this
  have r2 : Z.cell? ⟨w.heap.size + 1 + 1 + 1, 2, none⟩ = some (.slice none 0 0) := by have := cZ 2 (by simp); simpa using this
  clear nZ kZ cZ
  refine bodyPost_ret (v := .tuple #[.agg #[.slice none 0 0, .slice none 0 0, .slice none 0 0], .int .i64 50]) (by simp [results, Try.results11, go_sem, r0, r1, r2]) rfl ?_
  exact ⟨SoupV.none, rfl, SoupV.none_ok _, rfl, rfl, rfl, SoupV.none_own _, nz⟩

set_option maxHeartbeats 4000000 in
theorem u_badd_full (C : CfgR) (S : SoupV) (x : BoxR) (w : World) (hS : S.ok w) (h : S.err C = 0) (hm : x.may C = true) (p : Nat) (hp : BoxR.Place S.bs x.i p) (hh : BoxR.hit S.bs x.i p = false) (hf : S.bs.length = 16) :
    Calls Try.prog 11 #[.agg #[.int .i64 C.cl, .int .i64 C.cb, .int .i64 C.ht, .int .i64 C.ri, .int .i64 C.ru, .int .i64 C.wd, .int .i64 C.dp], .agg #[.slice S.a0 S.ts.length S.c0, .slice S.a1 S.bs.length S.c1, .slice S.a2 S.hs.length S.c2], .agg #[.int .i64 x.i, .int .i64 x.x0, .int .i64 x.z0, .int .i64 x.x1, .int .i64 x.z1, .int .i64 x.y0, .int .i64 x.y1, .int .i64 x.ar]] w (SoupE [] [] [] 51 w) := by
  have hC := CfgR.fine_of (SoupV.err_zero h).1
  have KC := Lib.hid (fun W n => u_check C S W (hS.keep n))
  rw [h] at KC
  have KI := Lib.hid (fun W => u_id x.i W)
  have KM := Lib.hid (fun W => u_mayBox C x W)
  rw [BoxR.may_id C x, Bool.and_eq_true] at hm
  rw [hm.1] at KI
  rw [hm.2] at KM
  obtain ⟨z, hz⟩ := BoxR.isFirst S.bs x.i
  have KT := Lib.hid (fun W n => u_bget S x.i z hz W (hS.keep n))
  have hd := BoxR.first_of_hit (BoxR.listB_iff.1 (BoxR.err_list h)).2.2 hp hz
  rw [hh] at hd
  rw [hd] at KT
  clear hd hz h hm hp hh hC hS
  have qf : decide ((16 : Int) ≤ (S.bs.length : Int)) = true := decide_eq_true (by omega)
  clear hf
  go_enter Try.func11, Try.ntmps11
  go_wp2_with fail
  refine Calls.at (fun W hW => ?_)
  have hn : New w W := by subst hW; (repeat (first | (with_reducible exact New.refl _) | (with_reducible assumption) | ((with_reducible refine New.setB ?_ ?_ _); focus (first | omega | (simp; omega) | (simp; done))) | (with_reducible refine New.alloc ?_ _) | (with_reducible refine New.drew ?_) | (with_reducible refine New.drewN ?_ _) | (with_reducible refine New.hat ?_ _) | ((with_reducible apply New.snart); (with_reducible assumption))))
  ((have g0 : World.cell? (W) ⟨w.heap.size, 0, none⟩ = some (.int .i64 C.cl) := (by subst hW; go_simp)); (have g1 : World.cell? (W) ⟨w.heap.size, 1, none⟩ = some (.int .i64 C.cb) := (by subst hW; go_simp)); (have g2 : World.cell? (W) ⟨w.heap.size, 2, none⟩ = some (.int .i64 C.ht) := (by subst hW; go_simp)); (have g3 : World.cell? (W) ⟨w.heap.size, 3, none⟩ = some (.int .i64 C.ri) := (by subst hW; go_simp)); (have g4 : World.cell? (W) ⟨w.heap.size, 4, none⟩ = some (.int .i64 C.ru) := (by subst hW; go_simp)); (have g5 : World.cell? (W) ⟨w.heap.size, 5, none⟩ = some (.int .i64 C.wd) := (by subst hW; go_simp)); (have g6 : World.cell? (W) ⟨w.heap.size, 6, none⟩ = some (.int .i64 C.dp) := (by subst hW; go_simp)))
  have q0 : W.cell? ⟨w.heap.size + 1, 0, none⟩ = some (.slice S.a0 S.ts.length S.c0) := by subst hW; go_simp
  have q1 : W.cell? ⟨w.heap.size + 1, 1, none⟩ = some (.slice S.a1 S.bs.length S.c1) := by subst hW; go_simp
  have q2 : W.cell? ⟨w.heap.size + 1, 2, none⟩ = some (.slice S.a2 S.hs.length S.c2) := by subst hW; go_simp
  ((have d0 : World.cell? (W) ⟨w.heap.size + 1 + 1, 0, none⟩ = some (.int .i64 x.i) := (by subst hW; go_simp)); (have d1 : World.cell? (W) ⟨w.heap.size + 1 + 1, 1, none⟩ = some (.int .i64 x.x0) := (by subst hW; go_simp)); (have d2 : World.cell? (W) ⟨w.heap.size + 1 + 1, 2, none⟩ = some (.int .i64 x.z0) := (by subst hW; go_simp)); (have d3 : World.cell? (W) ⟨w.heap.size + 1 + 1, 3, none⟩ = some (.int .i64 x.x1) := (by subst hW; go_simp)); (have d4 : World.cell? (W) ⟨w.heap.size + 1 + 1, 4, none⟩ = some (.int .i64 x.z1) := (by subst hW; go_simp)); (have d5 : World.cell? (W) ⟨w.heap.size + 1 + 1, 5, none⟩ = some (.int .i64 x.y0) := (by subst hW; go_simp)); (have d6 : World.cell? (W) ⟨w.heap.size + 1 + 1, 6, none⟩ = some (.int .i64 x.y1) := (by subst hW; go_simp)); (have d7 : World.cell? (W) ⟨w.heap.size + 1 + 1, 7, none⟩ = some (.int .i64 x.ar) := (by subst hW; go_simp)))
  have fz : Thr W (w.heap.size + 1 + 1 + 1) 3 := by subst hW; exact Thr.new _ #[.slice none 0 0, .slice none 0 0, .slice none 0 0] _ _ (by simp)
  clear hW
  refine (KC.out _ hn).mono ?_
  rintro e W1 ⟨rfl, n1⟩
  replace g0 := New.keep (n1) g0; replace g1 := New.keep (n1) g1; replace g2 := New.keep (n1) g2; replace g3 := New.keep (n1) g3; replace g4 := New.keep (n1) g4; replace g5 := New.keep (n1) g5; replace g6 := New.keep (n1) g6
  replace q0 := New.keep n1 q0
  replace q1 := New.keep n1 q1
  replace q2 := New.keep n1 q2
  replace d0 := New.keep (n1) d0; replace d1 := New.keep (n1) d1; replace d2 := New.keep (n1) d2; replace d3 := New.keep (n1) d3; replace d4 := New.keep (n1) d4; replace d5 := New.keep (n1) d5; replace d6 := New.keep (n1) d6; replace d7 := New.keep (n1) d7
  replace fz := fz.keep n1
  replace hn := hn.trans n1
  have sz : w.heap.size + 1 + 1 + 1 < W1.heap.size := fz.lt (by omega)
  clear n1
  go_wp2_with fail
  refine (KI.out _).mono ?_
  rintro e W2 ⟨rfl, n1⟩
  replace g0 := New.keep (n1) g0; replace g1 := New.keep (n1) g1; replace g2 := New.keep (n1) g2; replace g3 := New.keep (n1) g3; replace g4 := New.keep (n1) g4; replace g5 := New.keep (n1) g5; replace g6 := New.keep (n1) g6
  replace q0 := New.keep n1 q0
  replace q1 := New.keep n1 q1
  replace q2 := New.keep n1 q2
  replace d0 := New.keep (n1) d0; replace d1 := New.keep (n1) d1; replace d2 := New.keep (n1) d2; replace d3 := New.keep (n1) d3; replace d4 := New.keep (n1) d4; replace d5 := New.keep (n1) d5; replace d6 := New.keep (n1) d6; replace d7 := New.keep (n1) d7
  replace fz := fz.keep n1
  replace hn := hn.trans n1
  have sz : w.heap.size + 1 + 1 + 1 < W2.heap.size := fz.lt (by omega)
  clear n1
  go_wp2_with fail
  refine (KM.out _).mono ?_
  rintro e W3 ⟨rfl, n1⟩
  replace g0 := New.keep (n1) g0; replace g1 := New.keep (n1) g1; replace g2 := New.keep (n1) g2; replace g3 := New.keep (n1) g3; replace g4 := New.keep (n1) g4; replace g5 := New.keep (n1) g5; replace g6 := New.keep (n1) g6
  replace q0 := New.keep n1 q0
  replace q1 := New.keep n1 q1
  replace q2 := New.keep n1 q2
  replace d0 := New.keep (n1) d0; replace d1 := New.keep (n1) d1; replace d2 := New.keep (n1) d2; replace d3 := New.keep (n1) d3; replace d4 := New.keep (n1) d4; replace d5 := New.keep (n1) d5; replace d6 := New.keep (n1) d6; replace d7 := New.keep (n1) d7
  replace fz := fz.keep n1
  replace hn := hn.trans n1
  have sz : w.heap.size + 1 + 1 + 1 < W3.heap.size := fz.lt (by omega)
  clear n1
  go_wp2_with fail
  refine (KT.out _ hn).mono ?_
  rintro e W4 ⟨rfl, n1⟩
  replace g0 := New.keep (n1) g0; replace g1 := New.keep (n1) g1; replace g2 := New.keep (n1) g2; replace g3 := New.keep (n1) g3; replace g4 := New.keep (n1) g4; replace g5 := New.keep (n1) g5; replace g6 := New.keep (n1) g6
  replace q0 := New.keep n1 q0
  replace q1 := New.keep n1 q1
  replace q2 := New.keep n1 q2
  replace d0 := New.keep (n1) d0; replace d1 := New.keep (n1) d1; replace d2 := New.keep (n1) d2; replace d3 := New.keep (n1) d3; replace d4 := New.keep (n1) d4; replace d5 := New.keep (n1) d5; replace d6 := New.keep (n1) d6; replace d7 := New.keep (n1) d7
  replace fz := fz.keep n1
  replace hn := hn.trans n1
  have sz : w.heap.size + 1 + 1 + 1 < W4.heap.size := fz.lt (by omega)
  have sz1 : w.heap.size + 1 < W4.heap.size := by omega
  have sz2 : w.heap.size + 1 + 1 < W4.heap.size := by omega
  clear n1
  go_wp2_with (refine wpList_store_row rfl 28 _ _ rfl _ _ rfl rfl (fz.keep (by (repeat (first | (with_reducible exact New.refl _) | (with_reducible assumption) | ((with_reducible refine New.setB ?_ ?_ _); focus (first | omega | (simp; omega) | (simp; done))) | (with_reducible refine New.alloc ?_ _) | (with_reducible refine New.drew ?_) | (with_reducible refine New.drewN ?_ _) | (with_reducible refine New.hat ?_ _) | ((with_reducible apply New.snart); (with_reducible assumption)))))) (by kernel_rfl) (by intro v hv; simp at hv; rcases hv with rfl | rfl | rfl <;> rfl) (fun Z nZ kZ cZ => ?_))
  have nz := nZ w (by (repeat (first | (with_reducible exact New.refl _) | (with_reducible assumption) | ((with_reducible refine New.setB ?_ ?_ _); focus (first | omega | (simp; omega) | (simp; done))) | (with_reducible refine New.alloc ?_ _) | (with_reducible refine New.drew ?_) | (with_reducible refine New.drewN ?_ _) | (with_reducible refine New.hat ?_ _) | ((with_reducible apply New.snart); (with_reducible assumption))))) (by omega)
  have r0 : Z.cell? ⟨w.heap.size + 1 + 1 + 1, 0, none⟩ = some (.slice none 0 0) := by have := cZ 0 (by simp); simpa using this
  have r1 : Z.cell? ⟨w.heap.size + 1 + 1 + 1, 1, none⟩ = some (.slice none 0 0) := by have := cZ 1 (by simp); simpa using this
  have r2 : Z.cell? ⟨w.heap.size + 1 + 1 + 1, 2, none⟩ = some (.slice none 0 0) := by have := cZ 2 (by simp); simpa using this
  clear nZ kZ cZ
  refine bodyPost_ret (v := .tuple #[.agg #[.slice none 0 0, .slice none 0 0, .slice none 0 0], .int .i64 51]) (by simp [results, Try.results11, go_sem, r0, r1, r2]) rfl ?_
  exact ⟨SoupV.none, rfl, SoupV.none_ok _, rfl, rfl, rfl, SoupV.none_own _, nz⟩

end Go.Proofs.Ytonngfogbnfbnaa
