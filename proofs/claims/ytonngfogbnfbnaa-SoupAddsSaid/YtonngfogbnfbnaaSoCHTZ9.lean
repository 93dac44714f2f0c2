import Derived.Test.YtonngfogbnfbnaaSoHTZ9
import Derived.Test.YtonngfogbnfbnaaSoGZ9
import Derived.Test.YtonngfogbnfbnaaSoSZ9
import Derived.Test.YtonngfogbnfbnaaSoQTZ9
import Derived.Test.YtonngfogbnfbnaaSoTTZ9
import Derived.Test.YtonngfogbnfbnaaSoUTZ9
import Derived.Test.YtonngfogbnfbnaaSoVTZ9
import Derived.Test.YtonngfogbnfbnaaSoZTZ9
import Derived.Test.YtonngfogbnfbnaaSoAAZ9
import Derived.Test.YtonngfogbnfbnaaSoCEZ9
import Derived.Test.YtonngfogbnfbnaaSoCGZ9

/- Package soup: one found. -/
namespace Go.Proofs.Ytonngfogbnfbnaa
open Go.RowKit
set_option linter.unusedVariables false

/-- What is found: the one at z, or the zero one. -/
def TriR.got (l : List TriR) (z : Int) : TriR := if z < 0 then TriR.zero else l[z.toNat]!
theorem TriR.first_cases {l : List TriR} {id z : Int} (hz : TriR.IsFirst l id z) : z = -1 ∨ ∃ j : Nat, ∃ h : j < l.length, z = j ∧ TriR.got l z = l[j] := by
  rcases hz with ⟨h, _⟩ | ⟨j, hj, rfl, _⟩
  · exact Or.inl h
  · refine Or.inr ⟨j, hj, rfl, ?_⟩
    unfold TriR.got
    rw [if_neg (by omega), Int.toNat_natCast, getElem!_pos l j hj]

set_option maxHeartbeats 4000000 in
set_option maxRecDepth 100000 in
theorem t_find (S : SoupV) (id z : Int) (hz : TriR.IsFirst S.ts id z) (w : World) (hS : S.ok w) :
    Calls Try.prog 51 #[.agg #[.slice S.a0 S.ts.length S.c0, .slice S.a1 S.bs.length S.c1, .slice S.a2 S.hs.length S.c2], .int .i64 id, .agg #[.func (.func 58) #[] #[], .func (.func 59) #[] #[], .int .i64 200, .int .i64 40, .func (.func 60) #[] #[]]] w fun e w' => e = .returned (.tuple #[.agg #[.int .i64 (TriR.got S.ts z).i, .int .i64 (TriR.got S.ts z).x0, .int .i64 (TriR.got S.ts z).y0, .int .i64 (TriR.got S.ts z).z0, .int .i64 (TriR.got S.ts z).x1, .int .i64 (TriR.got S.ts z).y1, .int .i64 (TriR.got S.ts z).z1, .int .i64 (TriR.got S.ts z).x2, .int .i64 (TriR.got S.ts z).y2, .int .i64 (TriR.got S.ts z).z2], .bool (decide (0 ≤ z))]) ∧ New w w' := by
  have hL := Lib.hid (fun b W => t_list b W)
  have hR := hS.t
  obtain ⟨ts, bs, hs, a0, a1, a2, c0, c1, c2⟩ := S
  simp only at hR hz ⊢
  obtain ⟨-, hc1, hc2, -, HR⟩ := hR.row
  have HF := Lib.hid (fun W (n : New w W) => t_first a0 ts c0 (by omega) id z hz W (HR.keep n))
  have HR' := Lib.hid HR
  unfold maxLen at hc2
  clear hR hS HR
  rcases TriR.first_cases hz with rfl | ⟨j, hj, rfl, hg⟩
  · have e1 : TriR.got ts (-1) = TriR.zero := rfl
    rw [e1]
    clear e1 hz hc1 hc2
    go_enter Try.func51, Try.ntmps51
    go_wp2_with fail
    generalize hW : World.alloc _ _ = W
    have hn : New w W := by subst hW; (repeat (first | (with_reducible exact New.refl _) | (with_reducible assumption) | ((with_reducible refine New.setB ?_ ?_ _); focus (first | omega | (simp; omega) | (simp; done))) | (with_reducible refine New.alloc ?_ _) | (with_reducible refine New.drew ?_) | (with_reducible refine New.drewN ?_ _) | (with_reducible refine New.hat ?_ _) | ((with_reducible apply New.snart); (with_reducible assumption))))
    have q0 : W.cell? ⟨w.heap.size, 0, none⟩ = some (.slice a0 ts.length c0) := by subst hW; go_simp
    have k0 : W.cell? ⟨w.heap.size + 1, 0, none⟩ = some (.func (.func 58) #[] #[]) := by subst hW; go_simp
    have k1 : W.cell? ⟨w.heap.size + 1, 1, none⟩ = some (.func (.func 59) #[] #[]) := by subst hW; go_simp
    have fz : Thr W (w.heap.size + 1 + 1) 10 := by subst hW; exact Thr.new _ _ _ _ (by simp)
    clear hW
    refine (hL.out _ _).mono ?_
    rintro e w' ⟨rfl, rfl⟩
    go_wp2_with fail
    refine (HF.out _ hn).mono ?_
    rintro e W1 ⟨rfl, n1⟩
    replace fz := fz.keep n1
    have hz1 : w.heap.size + 1 + 1 < W1.heap.size := fz.lt (by omega)
    replace hn := hn.trans n1
    clear n1 HF hL q0 k0 k1
    go_wp2_with (refine wpList_store_row rfl 33 _ _ rfl _ _ rfl rfl (fz.keep (by (repeat (first | (with_reducible exact New.refl _) | (with_reducible assumption) | ((with_reducible refine New.setB ?_ ?_ _); focus (first | omega | (simp; omega) | (simp; done))) | (with_reducible refine New.alloc ?_ _) | (with_reducible refine New.drew ?_) | (with_reducible refine New.drewN ?_ _) | (with_reducible refine New.hat ?_ _) | ((with_reducible apply New.snart); (with_reducible assumption)))))) (by kernel_rfl) (TriR.enc_one TriR.zero) (fun Z nZ kZ cZ => ?_))
    have nz := nZ w (by (repeat (first | (with_reducible exact New.refl _) | (with_reducible assumption) | ((with_reducible refine New.setB ?_ ?_ _); focus (first | omega | (simp; omega) | (simp; done))) | (with_reducible refine New.alloc ?_ _) | (with_reducible refine New.drew ?_) | (with_reducible refine New.drewN ?_ _) | (with_reducible refine New.hat ?_ _) | ((with_reducible apply New.snart); (with_reducible assumption))))) (by omega)
    obtain ⟨r0, r1, r2, r3, r4, r5, r6, r7, r8, r9⟩ := TriR.at (x := TriR.zero) cZ
    clear nZ kZ cZ
    refine bodyPost_ret (v := .tuple #[.agg #[.int .i64 TriR.zero.i, .int .i64 TriR.zero.x0, .int .i64 TriR.zero.y0, .int .i64 TriR.zero.z0, .int .i64 TriR.zero.x1, .int .i64 TriR.zero.y1, .int .i64 TriR.zero.z1, .int .i64 TriR.zero.x2, .int .i64 TriR.zero.y2, .int .i64 TriR.zero.z2], .bool false]) (by simp [results, Try.results51, go_sem, r0, r1, r2, r3, r4, r5, r6, r7, r8, r9]) rfl ?_
    exact ⟨rfl, nz⟩
  · rw [hg]
    have hd : decide ((0 : Int) ≤ (j : Int)) = true := by simp
    rw [hd]
    clear hd hz hg
    go_enter Try.func51, Try.ntmps51
    go_wp2_with fail
    generalize hW : World.alloc _ _ = W
    have hn : New w W := by subst hW; (repeat (first | (with_reducible exact New.refl _) | (with_reducible assumption) | ((with_reducible refine New.setB ?_ ?_ _); focus (first | omega | (simp; omega) | (simp; done))) | (with_reducible refine New.alloc ?_ _) | (with_reducible refine New.drew ?_) | (with_reducible refine New.drewN ?_ _) | (with_reducible refine New.hat ?_ _) | ((with_reducible apply New.snart); (with_reducible assumption))))
    have q0 : W.cell? ⟨w.heap.size, 0, none⟩ = some (.slice a0 ts.length c0) := by subst hW; go_simp
    have k0 : W.cell? ⟨w.heap.size + 1, 0, none⟩ = some (.func (.func 58) #[] #[]) := by subst hW; go_simp
    have k1 : W.cell? ⟨w.heap.size + 1, 1, none⟩ = some (.func (.func 59) #[] #[]) := by subst hW; go_simp
    have fz : Thr W (w.heap.size + 1 + 1) 10 := by subst hW; exact Thr.new _ _ _ _ (by simp)
    clear hW
    refine (hL.out _ _).mono ?_
    rintro e w' ⟨rfl, rfl⟩
    go_wp2_with fail
    refine (HF.out _ hn).mono ?_
    rintro e W1 ⟨rfl, n1⟩
    replace fz := fz.keep n1
    have hz1 : w.heap.size + 1 + 1 < W1.heap.size := fz.lt (by omega)
    replace hn := hn.trans n1
    clear n1 HF hL q0 k0 k1
    obtain ⟨b, off, rfl, hA⟩ := HR'.out (by omega)
    have hA' := hA.keep hn
    obtain ⟨d0, d1, d2, d3, d4, d5, d6, d7, d8, d9⟩ := TriR.cells hA' j hj
    clear hA hA'
    go_wp2_with (refine wpList_store_row rfl 33 _ _ rfl _ _ rfl rfl (fz.keep (by (repeat (first | (with_reducible exact New.refl _) | (with_reducible assumption) | ((with_reducible refine New.setB ?_ ?_ _); focus (first | omega | (simp; omega) | (simp; done))) | (with_reducible refine New.alloc ?_ _) | (with_reducible refine New.drew ?_) | (with_reducible refine New.drewN ?_ _) | (with_reducible refine New.hat ?_ _) | ((with_reducible apply New.snart); (with_reducible assumption)))))) (by kernel_rfl) (TriR.enc_one ts[j]) (fun Z nZ kZ cZ => ?_))
    have nz := nZ w (by (repeat (first | (with_reducible exact New.refl _) | (with_reducible assumption) | ((with_reducible refine New.setB ?_ ?_ _); focus (first | omega | (simp; omega) | (simp; done))) | (with_reducible refine New.alloc ?_ _) | (with_reducible refine New.drew ?_) | (with_reducible refine New.drewN ?_ _) | (with_reducible refine New.hat ?_ _) | ((with_reducible apply New.snart); (with_reducible assumption))))) (by omega)
    obtain ⟨r0, r1, r2, r3, r4, r5, r6, r7, r8, r9⟩ := TriR.at (x := ts[j]) cZ
    clear nZ kZ cZ
    refine bodyPost_ret (v := .tuple #[.agg #[.int .i64 ts[j].i, .int .i64 ts[j].x0, .int .i64 ts[j].y0, .int .i64 ts[j].z0, .int .i64 ts[j].x1, .int .i64 ts[j].y1, .int .i64 ts[j].z1, .int .i64 ts[j].x2, .int .i64 ts[j].y2, .int .i64 ts[j].z2], .bool true]) (by simp [results, Try.results51, go_sem, r0, r1, r2, r3, r4, r5, r6, r7, r8, r9]) rfl ?_
    exact ⟨rfl, nz⟩

end Go.Proofs.Ytonngfogbnfbnaa

/- The document's package of soups: one found. -/
namespace Go.Proofs.Ytonngfogbnfbnaa
open Go.RowKit
set_option linter.unusedVariables false
set_option maxRecDepth 100000

set_option maxHeartbeats 4000000 in
theorem u_tget (S : SoupV) (id z : Int) (hz : TriR.IsFirst S.ts id z) (w : World) (hS : S.ok w) :
    Calls Try.prog 27 #[.agg #[.slice S.a0 S.ts.length S.c0, .slice S.a1 S.bs.length S.c1, .slice S.a2 S.hs.length S.c2], .int .i64 id] w fun e w' => e = .returned (.tuple #[.agg #[.int .i64 (TriR.got S.ts z).i, .int .i64 (TriR.got S.ts z).x0, .int .i64 (TriR.got S.ts z).y0, .int .i64 (TriR.got S.ts z).z0, .int .i64 (TriR.got S.ts z).x1, .int .i64 (TriR.got S.ts z).y1, .int .i64 (TriR.got S.ts z).z1, .int .i64 (TriR.got S.ts z).x2, .int .i64 (TriR.got S.ts z).y2, .int .i64 (TriR.got S.ts z).z2], .bool (decide (0 ≤ z))]) ∧ New w w' := by
  have HR := Lib.hid hS.t.row.2.2.2.2
  have hml := Nat.le_trans hS.t.row.2.1 hS.t.row.2.2.1
  unfold maxLen at hml
  obtain ⟨ts, bs, hs, a0, a1, a2, k0, k1, k2⟩ := S
  dsimp only at *
  clear hS
  have GN : Hid ((∀ j (h : j < ts.length), ts[j].i ≠ id) → z = -1) := Lib.hid (fun h => TriR.first_none hz h)
  have GH : Hid (∀ j (h : j < ts.length), ts[j].i = id → (∀ k (hk : k < j), ts[k].i ≠ id) → z = j ∧ TriR.got ts z = ts[j]) := Lib.hid (fun j h e hb => by
    have e1 := TriR.first_hit hz h e hb
    refine ⟨e1, ?_⟩
    unfold TriR.got
    rw [e1, if_neg (by omega), Int.toNat_natCast, getElem!_pos ts j h])
  have GZ : Hid (z = -1 → TriR.got ts z = TriR.zero) := Lib.hid (fun e => by unfold TriR.got; rw [if_pos (by omega)])
  clear hz
  go_enter Try.func27, Try.ntmps27
  go_wp2_with fail
  refine Code.at (fun W hW => ?_)
  have hn : New w W := by subst hW; (repeat (first | (with_reducible exact New.refl _) | (with_reducible assumption) | ((with_reducible refine New.setB ?_ ?_ _); focus (first | omega | (simp; omega) | (simp; done))) | (with_reducible refine New.alloc ?_ _) | (with_reducible refine New.drew ?_) | (with_reducible refine New.drewN ?_ _) | (with_reducible refine New.hat ?_ _) | ((with_reducible apply New.snart); (with_reducible assumption))))
  have q : W.cell? ⟨w.heap.size, 0, none⟩ = some (.slice a0 ts.length k0) := by subst hW; go_simp
  have fz : Thr W (w.heap.size + 1) 10 := by subst hW; exact Thr.new _ _ _ _ (by simp)
  clear hW
  go_loopg [6] ts.length (fun k i wr => ∃ m : Nat, i = .int .i64 m ∧ m + k = ts.length ∧ (∀ j (h : j < ts.length), j < m → ts[j].i ≠ id) ∧ New W wr)
  case atStart => exact ⟨0, rfl, by omega, fun j h hj => absurd hj (by omega), New.refl _⟩
  case round =>
    obtain ⟨m, rfl, hmk, hall, nr⟩ := hrel
    have HA := Lib.hid hall
    clear hall
    replace q := New.keep nr q
    replace fz := fz.keep nr
    replace hn := hn.trans nr
    have hsz : w.heap.size + 1 < wr.heap.size := fz.lt (by omega)
    by_cases hlt : m < ts.length
    · obtain ⟨b, off, rfl, hA⟩ := HR.out (by omega)
      have hA' := hA.keep hn
      obtain ⟨d0, d1, d2, d3, d4, d5, d6, d7, d8, d9⟩ := TriR.cells hA' m hlt
      clear hA hA'
      by_cases he : ts[m].i = id
      · have GE := Lib.hid (GH.out m hlt he (fun k hk => HA.out k (by omega) hk))
        have q1 : (ts[m].i == id) = true := by simpa using he
        have hd : decide ((0 : Int) ≤ z) = true := decide_eq_true (by have := GE.out.1; omega)
        replace hd := Lib.hid hd
        clear he GN GH GZ
        go_wp2_with (refine wpList_store_row rfl 33 _ _ rfl _ _ rfl rfl (fz.keep (by (repeat (first | (with_reducible exact New.refl _) | (with_reducible assumption) | ((with_reducible refine New.setB ?_ ?_ _); focus (first | omega | (simp; omega) | (simp; done))) | (with_reducible refine New.alloc ?_ _) | (with_reducible refine New.drew ?_) | (with_reducible refine New.drewN ?_ _) | (with_reducible refine New.hat ?_ _) | ((with_reducible apply New.snart); (with_reducible assumption)))))) (by kernel_rfl) (TriR.enc_one ts[m]) (fun Z nZ kZ cZ => ?_))
        have nz := nZ w (by (repeat (first | (with_reducible exact New.refl _) | (with_reducible assumption) | ((with_reducible refine New.setB ?_ ?_ _); focus (first | omega | (simp; omega) | (simp; done))) | (with_reducible refine New.alloc ?_ _) | (with_reducible refine New.drew ?_) | (with_reducible refine New.drewN ?_ _) | (with_reducible refine New.hat ?_ _) | ((with_reducible apply New.snart); (with_reducible assumption))))) (by omega)
        obtain ⟨r0, r1, r2, r3, r4, r5, r6, r7, r8, r9⟩ := TriR.at (x := ts[m]) cZ
        clear nZ kZ cZ
        refine bodyPost_ret (v := .tuple #[.agg #[.int .i64 ts[m].i, .int .i64 ts[m].x0, .int .i64 ts[m].y0, .int .i64 ts[m].z0, .int .i64 ts[m].x1, .int .i64 ts[m].y1, .int .i64 ts[m].z1, .int .i64 ts[m].x2, .int .i64 ts[m].y2, .int .i64 ts[m].z2], .bool true]) (by simp [results, Try.results27, go_sem, r0, r1, r2, r3, r4, r5, r6, r7, r8, r9]) rfl ?_
        refine ⟨?_, nz⟩
        rw [GE.out.2, hd.out]
      · have q1 : (ts[m].i == id) = false := by simpa using he
        go_wp2_with fail
        go_roundg (gk - 1)
        case measure => omega
        case rel => exact ⟨m + 1, by go_num, by omega, fun j h hj => by
          rcases Nat.lt_or_ge j m with h1 | h1
          · exact HA.out j h h1
          · obtain rfl : j = m := by omega
            exact he, nr⟩
    · have hz := GN.out (fun j h => HA.out j h (by omega))
      have hd : decide ((0 : Int) ≤ z) = false := decide_eq_false (by omega)
      replace hd := Lib.hid hd
      have GE := Lib.hid (GZ.out hz)
      clear hz GN GH GZ HA
      go_wp2_with (refine wpList_store_row rfl 33 _ _ rfl _ _ rfl rfl (fz.keep (by (repeat (first | (with_reducible exact New.refl _) | (with_reducible assumption) | ((with_reducible refine New.setB ?_ ?_ _); focus (first | omega | (simp; omega) | (simp; done))) | (with_reducible refine New.alloc ?_ _) | (with_reducible refine New.drew ?_) | (with_reducible refine New.drewN ?_ _) | (with_reducible refine New.hat ?_ _) | ((with_reducible apply New.snart); (with_reducible assumption)))))) (by kernel_rfl) (TriR.enc_one TriR.zero) (fun Z nZ kZ cZ => ?_))
      have nz := nZ w (by (repeat (first | (with_reducible exact New.refl _) | (with_reducible assumption) | ((with_reducible refine New.setB ?_ ?_ _); focus (first | omega | (simp; omega) | (simp; done))) | (with_reducible refine New.alloc ?_ _) | (with_reducible refine New.drew ?_) | (with_reducible refine New.drewN ?_ _) | (with_reducible refine New.hat ?_ _) | ((with_reducible apply New.snart); (with_reducible assumption))))) (by omega)
      obtain ⟨r0, r1, r2, r3, r4, r5, r6, r7, r8, r9⟩ := TriR.at (x := TriR.zero) cZ
      clear nZ kZ cZ
      refine bodyPost_ret (v := .tuple #[.agg #[.int .i64 TriR.zero.i, .int .i64 TriR.zero.x0, .int .i64 TriR.zero.y0, .int .i64 TriR.zero.z0, .int .i64 TriR.zero.x1, .int .i64 TriR.zero.y1, .int .i64 TriR.zero.z1, .int .i64 TriR.zero.x2, .int .i64 TriR.zero.y2, .int .i64 TriR.zero.z2], .bool false]) (by simp [results, Try.results27, go_sem, r0, r1, r2, r3, r4, r5, r6, r7, r8, r9]) rfl ?_
      refine ⟨?_, nz⟩
      rw [GE.out, hd.out]

end Go.Proofs.Ytonngfogbnfbnaa

/- Package soup: what AddTri comes to, whatever is asked. -/
namespace Go.Proofs.Ytonngfogbnfbnaa
open Go.RowKit
set_option linter.unusedVariables false

/-- What AddTri answers: the lists, and the error. -/
inductive TriR.Add (C : CfgR) (S : SoupV) (x : TriR) : List TriR → List BoxR → List HopR → Int → Prop
  | err (h : S.err C ≠ 0) : TriR.Add C S x [] [] [] (S.err C)
  | wrong (h : S.err C = 0) (hm : x.may C = false) : TriR.Add C S x [] [] [] 40
  | twice (h : S.err C = 0) (hm : x.may C = true) (p : Nat) (hp : TriR.Place S.ts x.i p) (hh : TriR.hit S.ts x.i p = true) : TriR.Add C S x [] [] [] 50
  | full (h : S.err C = 0) (hm : x.may C = true) (p : Nat) (hp : TriR.Place S.ts x.i p) (hh : TriR.hit S.ts x.i p = false) (hf : S.ts.length = 200) : TriR.Add C S x [] [] [] 51
  | ok (h : S.err C = 0) (hm : x.may C = true) (p : Nat) (hp : TriR.Place S.ts x.i p) (hh : TriR.hit S.ts x.i p = false) (hf : S.ts.length ≠ 200) : TriR.Add C S x (TriR.put S.ts p x) S.bs S.hs 0

theorem TriR.err_list {C : CfgR} {S : SoupV} (h : S.err C = 0) : TriR.listB C S.ts = true := (SoupV.err_zero h).2.1

theorem t_addAny (C : CfgR) (S : SoupV) (x : TriR) (hf : S.few) : ∃ T B H er, TriR.Add C S x T B H er ∧ ∀ w, S.ok w →
    Calls Try.prog 8 #[.agg #[.int .i64 C.cl, .int .i64 C.cb, .int .i64 C.ht, .int .i64 C.ri, .int .i64 C.ru, .int .i64 C.wd, .int .i64 C.dp], .agg #[.slice S.a0 S.ts.length S.c0, .slice S.a1 S.bs.length S.c1, .slice S.a2 S.hs.length S.c2], .agg #[.int .i64 x.i, .int .i64 x.x0, .int .i64 x.y0, .int .i64 x.z0, .int .i64 x.x1, .int .i64 x.y1, .int .i64 x.z1, .int .i64 x.x2, .int .i64 x.y2, .int .i64 x.z2]] w (SoupE T B H er w) := by
  by_cases he : S.err C = 0
  rotate_left
  · exact ⟨_, _, _, _, .err he, fun w hS => t_Add C S x _ _ _ _ w fun W n => t_add_err C S x W (hS.keep n) _ rfl he⟩
  cases hm : x.may C
  · exact ⟨_, _, _, _, .wrong he hm, fun w hS => t_Add C S x _ _ _ _ w fun W n => t_add_wrong C S x W (hS.keep n) he hm⟩
  obtain ⟨p, hp⟩ := TriR.place (TriR.listB_iff.1 (TriR.err_list he)).2.2 x.i
  cases hh : TriR.hit S.ts x.i p
  · by_cases hl : S.ts.length = 200
    · exact ⟨_, _, _, _, .full he hm p hp hh hl, fun w hS => t_Add C S x _ _ _ _ w fun W n => t_add_full C S x W (hS.keep n) he hm (by have := hf.t; omega) p hp hh hl⟩
    · exact ⟨_, _, _, _, .ok he hm p hp hh hl, fun w hS => t_Add C S x _ _ _ _ w fun W n => t_add_ok C S x W (hS.keep n) he hm hf.t hf.b hf.h p hp hh hl⟩
  · exact ⟨_, _, _, _, .twice he hm p hp hh, fun w hS => t_Add C S x _ _ _ _ w fun W n => t_add_twice C S x W (hS.keep n) he hm (by have := hf.t; omega) p hp hh⟩

end Go.Proofs.Ytonngfogbnfbnaa

/- The document's package of soups: AddTri, refused. -/
namespace Go.Proofs.Ytonngfogbnfbnaa
open Go.RowKit
set_option linter.unusedVariables false
set_option linter.unusedSimpArgs false
set_option maxRecDepth 100000

/-- Whether an id is there, told twice. -/
theorem TriR.first_of_hit {l : List TriR} {id z : Int} {p : Nat} (hl : TriR.Rise l) (hp : TriR.Place l id p) (hz : TriR.IsFirst l id z) : decide (0 ≤ z) = TriR.hit l id p := by
  rw [Bool.eq_iff_iff, decide_eq_true_eq, TriR.hit_iff hl hp]
  constructor
  · intro h0
    rcases hz with ⟨h, _⟩ | ⟨j, hj, _, he, _⟩
    · omega
    · exact ⟨l[j], List.getElem_mem hj, he⟩
  · rintro ⟨y, hy, he⟩
    obtain ⟨j, hj, rfl⟩ := List.getElem_of_mem hy
    rcases hz with ⟨_, h⟩ | ⟨k, hk, rfl, _⟩
    · exact absurd he (h j hj)
    · omega

set_option maxHeartbeats 4000000 in
theorem u_tadd_err (C : CfgR) (S : SoupV) (x : TriR) (w : World) (hS : S.ok w) (h : S.err C ≠ 0) :
    Calls Try.prog 9 #[.agg #[.int .i64 C.cl, .int .i64 C.cb, .int .i64 C.ht, .int .i64 C.ri, .int .i64 C.ru, .int .i64 C.wd, .int .i64 C.dp], .agg #[.slice S.a0 S.ts.length S.c0, .slice S.a1 S.bs.length S.c1, .slice S.a2 S.hs.length S.c2], .agg #[.int .i64 x.i, .int .i64 x.x0, .int .i64 x.y0, .int .i64 x.z0, .int .i64 x.x1, .int .i64 x.y1, .int .i64 x.z1, .int .i64 x.x2, .int .i64 x.y2, .int .i64 x.z2]] w (SoupE [] [] [] (S.err C) w) := by
  have KC := Lib.hid (fun W n => u_check C S W (hS.keep n))
  generalize S.err C = er at *
  have qe : (er != 0) = true := by simpa using h
  clear h hS
  go_enter Try.func9, Try.ntmps9
  go_wp2_with fail
  refine Calls.at (fun W hW => ?_)
  have hn : New w W := by subst hW; (repeat (first | (with_reducible exact New.refl _) | (with_reducible assumption) | ((with_reducible refine New.setB ?_ ?_ _); focus (first | omega | (simp; omega) | (simp; done))) | (with_reducible refine New.alloc ?_ _) | (with_reducible refine New.drew ?_) | (with_reducible refine New.drewN ?_ _) | (with_reducible refine New.hat ?_ _) | ((with_reducible apply New.snart); (with_reducible assumption))))
  ((have g0 : World.cell? (W) ⟨w.heap.size, 0, none⟩ = some (.int .i64 C.cl) := (by subst hW; go_simp)); (have g1 : World.cell? (W) ⟨w.heap.size, 1, none⟩ = some (.int .i64 C.cb) := (by subst hW; go_simp)); (have g2 : World.cell? (W) ⟨w.heap.size, 2, none⟩ = some (.int .i64 C.ht) := (by subst hW; go_simp)); (have g3 : World.cell? (W) ⟨w.heap.size, 3, none⟩ = some (.int .i64 C.ri) := (by subst hW; go_simp)); (have g4 : World.cell? (W) ⟨w.heap.size, 4, none⟩ = some (.int .i64 C.ru) := (by subst hW; go_simp)); (have g5 : World.cell? (W) ⟨w.heap.size, 5, none⟩ = some (.int .i64 C.wd) := (by subst hW; go_simp)); (have g6 : World.cell? (W) ⟨w.heap.size, 6, none⟩ = some (.int .i64 C.dp) := (by subst hW; go_simp)))
  have q0 : W.cell? ⟨w.heap.size + 1, 0, none⟩ = some (.slice S.a0 S.ts.length S.c0) := by subst hW; go_simp
  have q1 : W.cell? ⟨w.heap.size + 1, 1, none⟩ = some (.slice S.a1 S.bs.length S.c1) := by subst hW; go_simp
  have q2 : W.cell? ⟨w.heap.size + 1, 2, none⟩ = some (.slice S.a2 S.hs.length S.c2) := by subst hW; go_simp
  ((have d0 : World.cell? (W) ⟨w.heap.size + 1 + 1, 0, none⟩ = some (.int .i64 x.i) := (by subst hW; go_simp)); (have d1 : World.cell? (W) ⟨w.heap.size + 1 + 1, 1, none⟩ = some (.int .i64 x.x0) := (by subst hW; go_simp)); (have d2 : World.cell? (W) ⟨w.heap.size + 1 + 1, 2, none⟩ = some (.int .i64 x.y0) := (by subst hW; go_simp)); (have d3 : World.cell? (W) ⟨w.heap.size + 1 + 1, 3, none⟩ = some (.int .i64 x.z0) := (by subst hW; go_simp)); (have d4 : World.cell? (W) ⟨w.heap.size + 1 + 1, 4, none⟩ = some (.int .i64 x.x1) := (by subst hW; go_simp)); (have d5 : World.cell? (W) ⟨w.heap.size + 1 + 1, 5, none⟩ = some (.int .i64 x.y1) := (by subst hW; go_simp)); (have d6 : World.cell? (W) ⟨w.heap.size + 1 + 1, 6, none⟩ = some (.int .i64 x.z1) := (by subst hW; go_simp)); (have d7 : World.cell? (W) ⟨w.heap.size + 1 + 1, 7, none⟩ = some (.int .i64 x.x2) := (by subst hW; go_simp)); (have d8 : World.cell? (W) ⟨w.heap.size + 1 + 1, 8, none⟩ = some (.int .i64 x.y2) := (by subst hW; go_simp)); (have d9 : World.cell? (W) ⟨w.heap.size + 1 + 1, 9, none⟩ = some (.int .i64 x.z2) := (by subst hW; go_simp)))
  have fz : Thr W (w.heap.size + 1 + 1 + 1) 3 := by subst hW; exact Thr.new _ #[.slice none 0 0, .slice none 0 0, .slice none 0 0] _ _ (by simp)
  clear hW
  refine (KC.out _ hn).mono ?_
  rintro e W1 ⟨rfl, n1⟩
  replace g0 := New.keep (n1) g0; replace g1 := New.keep (n1) g1; replace g2 := New.keep (n1) g2; replace g3 := New.keep (n1) g3; replace g4 := New.keep (n1) g4; replace g5 := New.keep (n1) g5; replace g6 := New.keep (n1) g6
  replace q0 := New.keep n1 q0
  replace q1 := New.keep n1 q1
  replace q2 := New.keep n1 q2
  replace d0 := New.keep (n1) d0; replace d1 := New.keep (n1) d1; replace d2 := New.keep (n1) d2; replace d3 := New.keep (n1) d3; replace d4 := New.keep (n1) d4; replace d5 := New.keep (n1) d5; replace d6 := New.keep (n1) d6; replace d7 := New.keep (n1) d7; replace d8 := New.keep (n1) d8; replace d9 := New.keep (n1) d9
  replace fz := fz.keep n1
  replace hn := hn.trans n1
  have sz : w.heap.size + 1 + 1 + 1 < W1.heap.size := fz.lt (by omega)
  clear n1
  go_wp2_with (refine wpList_store_row rfl 28 _ _ rfl _ _ rfl rfl (fz.keep (by (repeat (first | (with_reducible exact New.refl _) | (with_reducible assumption) | ((with_reducible refine New.setB ?_ ?_ _); focus (first | omega | (simp; omega) | (simp; done))) | (with_reducible refine New.alloc ?_ _) | (with_reducible refine New.drew ?_) | (with_reducible refine New.drewN ?_ _) | (with_reducible refine New.hat ?_ _) | ((with_reducible apply New.snart); (with_reducible assumption)))))) (by kernel_rfl) (by intro v hv; simp at hv; rcases hv with rfl | rfl | rfl <;> rfl) (fun Z nZ kZ cZ => ?_))
  have nz := nZ w (by (repeat (first | (with_reducible exact New.refl _) | (with_reducible assumption) | ((with_reducible refine New.setB ?_ ?_ _); focus (first | omega | (simp; omega) | (simp; done))) | (with_reducible refine New.alloc ?_ _) | (with_reducible refine New.drew ?_) | (with_reducible refine New.drewN ?_ _) | (with_reducible refine New.hat ?_ _) | ((with_reducible apply New.snart); (with_reducible assumption))))) (by omega)
  have r0 : Z.cell? ⟨w.heap.size + 1 + 1 + 1, 0, none⟩ = some (.slice none 0 0) := by have := cZ 0 (by simp); simpa using this
  have r1 : Z.cell? ⟨w.heap.size + 1 + 1 + 1, 1, none⟩ = some (.slice none 0 0) := by have := cZ 1 (by simp); simpa using this
  have r2 : Z.cell? ⟨w.heap.size + 1 + 1 + 1, 2, none⟩ = some (.slice none 0 0) := by have := cZ 2 (by simp); simpa using this
  clear nZ kZ cZ
  refine bodyPost_ret (v := .tuple #[.agg #[.slice none 0 0, .slice none 0 0, .slice none 0 0], .int .i64 er]) (by simp [results, Try.results9, go_sem, r0, r1, r2]) rfl ?_
  exact ⟨SoupV.none, rfl, SoupV.none_ok _, rfl, rfl, rfl, SoupV.none_own _, nz⟩

set_option maxHeartbeats 4000000 in
theorem u_tadd_wrong (C : CfgR) (S : SoupV) (x : TriR) (w : World) (hS : S.ok w) (h : S.err C = 0) (hm : x.may C = false) :
    Calls Try.prog 9 #[.agg #[.int .i64 C.cl, .int .i64 C.cb, .int .i64 C.ht, .int .i64 C.ri, .int .i64 C.ru, .int .i64 C.wd, .int .i64 C.dp], .agg #[.slice S.a0 S.ts.length S.c0, .slice S.a1 S.bs.length S.c1, .slice S.a2 S.hs.length S.c2], .agg #[.int .i64 x.i, .int .i64 x.x0, .int .i64 x.y0, .int .i64 x.z0, .int .i64 x.x1, .int .i64 x.y1, .int .i64 x.z1, .int .i64 x.x2, .int .i64 x.y2, .int .i64 x.z2]] w (SoupE [] [] [] 40 w) := by
  have hC := CfgR.fine_of (SoupV.err_zero h).1
  have KC := Lib.hid (fun W n => u_check C S W (hS.keep n))
  rw [h] at KC
  have KI := Lib.hid (fun W => u_id x.i W)
  have KM := Lib.hid (fun W => u_mayTri C.wd C.dp ⟨hC.w1, hC.w2⟩ ⟨hC.d1, hC.d2⟩ x W)
  rw [mayTB_may C hC x] at hm
  clear h hS hC
  go_enter Try.func9, Try.ntmps9
  go_wp2_with fail
  refine Calls.at (fun W hW => ?_)
  have hn : New w W := by subst hW; (repeat (first | (with_reducible exact New.refl _) | (with_reducible assumption) | ((with_reducible refine New.setB ?_ ?_ _); focus (first | omega | (simp; omega) | (simp; done))) | (with_reducible refine New.alloc ?_ _) | (with_reducible refine New.drew ?_) | (with_reducible refine New.drewN ?_ _) | (with_reducible refine New.hat ?_ _) | ((with_reducible apply New.snart); (with_reducible assumption))))
  ((have g0 : World.cell? (W) ⟨w.heap.size, 0, none⟩ = some (.int .i64 C.cl) := (by subst hW; go_simp)); (have g1 : World.cell? (W) ⟨w.heap.size, 1, none⟩ = some (.int .i64 C.cb) := (by subst hW; go_simp)); (have g2 : World.cell? (W) ⟨w.heap.size, 2, none⟩ = some (.int .i64 C.ht) := (by subst hW; go_simp)); (have g3 : World.cell? (W) ⟨w.heap.size, 3, none⟩ = some (.int .i64 C.ri) := (by subst hW; go_simp)); (have g4 : World.cell? (W) ⟨w.heap.size, 4, none⟩ = some (.int .i64 C.ru) := (by subst hW; go_simp)); (have g5 : World.cell? (W) ⟨w.heap.size, 5, none⟩ = some (.int .i64 C.wd) := (by subst hW; go_simp)); (have g6 : World.cell? (W) ⟨w.heap.size, 6, none⟩ = some (.int .i64 C.dp) := (by subst hW; go_simp)))
  have q0 : W.cell? ⟨w.heap.size + 1, 0, none⟩ = some (.slice S.a0 S.ts.length S.c0) := by subst hW; go_simp
  have q1 : W.cell? ⟨w.heap.size + 1, 1, none⟩ = some (.slice S.a1 S.bs.length S.c1) := by subst hW; go_simp
  have q2 : W.cell? ⟨w.heap.size + 1, 2, none⟩ = some (.slice S.a2 S.hs.length S.c2) := by subst hW; go_simp
  ((have d0 : World.cell? (W) ⟨w.heap.size + 1 + 1, 0, none⟩ = some (.int .i64 x.i) := (by subst hW; go_simp)); (have d1 : World.cell? (W) ⟨w.heap.size + 1 + 1, 1, none⟩ = some (.int .i64 x.x0) := (by subst hW; go_simp)); (have d2 : World.cell? (W) ⟨w.heap.size + 1 + 1, 2, none⟩ = some (.int .i64 x.y0) := (by subst hW; go_simp)); (have d3 : World.cell? (W) ⟨w.heap.size + 1 + 1, 3, none⟩ = some (.int .i64 x.z0) := (by subst hW; go_simp)); (have d4 : World.cell? (W) ⟨w.heap.size + 1 + 1, 4, none⟩ = some (.int .i64 x.x1) := (by subst hW; go_simp)); (have d5 : World.cell? (W) ⟨w.heap.size + 1 + 1, 5, none⟩ = some (.int .i64 x.y1) := (by subst hW; go_simp)); (have d6 : World.cell? (W) ⟨w.heap.size + 1 + 1, 6, none⟩ = some (.int .i64 x.z1) := (by subst hW; go_simp)); (have d7 : World.cell? (W) ⟨w.heap.size + 1 + 1, 7, none⟩ = some (.int .i64 x.x2) := (by subst hW; go_simp)); (have d8 : World.cell? (W) ⟨w.heap.size + 1 + 1, 8, none⟩ = some (.int .i64 x.y2) := (by subst hW; go_simp)); (have d9 : World.cell? (W) ⟨w.heap.size + 1 + 1, 9, none⟩ = some (.int .i64 x.z2) := (by subst hW; go_simp)))
  have fz : Thr W (w.heap.size + 1 + 1 + 1) 3 := by subst hW; exact Thr.new _ #[.slice none 0 0, .slice none 0 0, .slice none 0 0] _ _ (by simp)
  clear hW
  refine (KC.out _ hn).mono ?_
  rintro e W1 ⟨rfl, n1⟩
  replace g0 := New.keep (n1) g0; replace g1 := New.keep (n1) g1; replace g2 := New.keep (n1) g2; replace g3 := New.keep (n1) g3; replace g4 := New.keep (n1) g4; replace g5 := New.keep (n1) g5; replace g6 := New.keep (n1) g6
  replace q0 := New.keep n1 q0
  replace q1 := New.keep n1 q1
  replace q2 := New.keep n1 q2
  replace d0 := New.keep (n1) d0; replace d1 := New.keep (n1) d1; replace d2 := New.keep (n1) d2; replace d3 := New.keep (n1) d3; replace d4 := New.keep (n1) d4; replace d5 := New.keep (n1) d5; replace d6 := New.keep (n1) d6; replace d7 := New.keep (n1) d7; replace d8 := New.keep (n1) d8; replace d9 := New.keep (n1) d9
  replace fz := fz.keep n1
  replace hn := hn.trans n1
  have sz : w.heap.size + 1 + 1 + 1 < W1.heap.size := fz.lt (by omega)
  clear n1
  go_wp2_with fail
  refine (KI.out _).mono ?_
  rintro e W2 ⟨rfl, n1⟩
  replace g0 := New.keep (n1) g0; replace g1 := New.keep (n1) g1; replace g2 := New.keep (n1) g2; replace g3 := New.keep (n1) g3; replace g4 := New.keep (n1) g4; replace g5 := New.keep (n1) g5; replace g6 := New.keep (n1) g6
  replace q0 := New.keep n1 q0
  replace q1 := New.keep n1 q1
  replace q2 := New.keep n1 q2
  replace d0 := New.keep (n1) d0; replace d1 := New.keep (n1) d1; replace d2 := New.keep (n1) d2; replace d3 := New.keep (n1) d3; replace d4 := New.keep (n1) d4; replace d5 := New.keep (n1) d5; replace d6 := New.keep (n1) d6; replace d7 := New.keep (n1) d7; replace d8 := New.keep (n1) d8; replace d9 := New.keep (n1) d9
  replace fz := fz.keep n1
  replace hn := hn.trans n1
  have sz : w.heap.size + 1 + 1 + 1 < W2.heap.size := fz.lt (by omega)
  clear n1
  cases hi : idB x.i
  · clear hm hi
    go_wp2_with (refine wpList_store_row rfl 28 _ _ rfl _ _ rfl rfl (fz.keep (by (repeat (first | (with_reducible exact New.refl _) | (with_reducible assumption) | ((with_reducible refine New.setB ?_ ?_ _); focus (first | omega | (simp; omega) | (simp; done))) | (with_reducible refine New.alloc ?_ _) | (with_reducible refine New.drew ?_) | (with_reducible refine New.drewN ?_ _) | (with_reducible refine New.hat ?_ _) | ((with_reducible apply New.snart); (with_reducible assumption)))))) (by kernel_rfl) (by intro v hv; simp at hv; rcases hv with rfl | rfl | rfl <;> rfl) (fun Z nZ kZ cZ => ?_))
    have nz := nZ w (by (repeat (first | (with_reducible exact New.refl _) | (with_reducible assumption) | ((with_reducible refine New.setB ?_ ?_ _); focus (first | omega | (simp; omega) | (simp; done))) | (with_reducible refine New.alloc ?_ _) | (with_reducible refine New.drew ?_) | (with_reducible refine New.drewN ?_ _) | (with_reducible refine New.hat ?_ _) | ((with_reducible apply New.snart); (with_reducible assumption))))) (by omega)
    have r0 : Z.cell? ⟨w.heap.size + 1 + 1 + 1, 0, none⟩ = some (.slice none 0 0) := by have := cZ 0 (by simp); simpa using this
    have r1 : Z.cell? ⟨w.heap.size + 1 + 1 + 1, 1, none⟩ = some (.slice none 0 0) := by have := cZ 1 (by simp); simpa using this
    have r2 : Z.cell? ⟨w.heap.size + 1 + 1 + 1, 2, none⟩ = some (.slice none 0 0) := by have := cZ 2 (by simp); simpa using this
    clear nZ kZ cZ
    refine bodyPost_ret (v := .tuple #[.agg #[.slice none 0 0, .slice none 0 0, .slice none 0 0], .int .i64 40]) (by simp [results, Try.results9, go_sem, r0, r1, r2]) rfl ?_
    exact ⟨SoupV.none, rfl, SoupV.none_ok _, rfl, rfl, rfl, SoupV.none_own _, nz⟩
  rw [hi, Bool.true_and] at hm
  rw [hm] at KM
  clear hi hm
  go_wp2_with fail
  refine (KM.out _).mono ?_
  rintro e W3 ⟨rfl, n1⟩
  replace g0 := New.keep (n1) g0; replace g1 := New.keep (n1) g1; replace g2 := New.keep (n1) g2; replace g3 := New.keep (n1) g3; replace g4 := New.keep (n1) g4; replace g5 := New.keep (n1) g5; replace g6 := New.keep (n1) g6
  replace q0 := New.keep n1 q0
  replace q1 := New.keep n1 q1
  replace q2 := New.keep n1 q2
  replace d0 := New.keep (n1) d0; replace d1 := New.keep (n1) d1; replace d2 := New.keep (n1) d2; replace d3 := New.keep (n1) d3; replace d4 := New.keep (n1) d4; replace d5 := New.keep (n1) d5; replace d6 := New.keep (n1) d6; replace d7 := New.keep (n1) d7; replace d8 := New.keep (n1) d8; replace d9 := New.keep (n1) d9
  replace fz := fz.keep n1
  replace hn := hn.trans n1
  have sz : w.heap.size + 1 + 1 + 1 < W3.heap.size := fz.lt (by omega)
  clear n1
  go_wp2_with (refine wpList_store_row rfl 28 _ _ rfl _ _ rfl rfl (fz.keep (by (repeat (first | (with_reducible exact New.refl _) | (with_reducible assumption) | ((with_reducible refine New.setB ?_ ?_ _); focus (first | omega | (simp; omega) | (simp; done))) | (with_reducible refine New.alloc ?_ _) | (with_reducible refine New.drew ?_) | (with_reducible refine New.drewN ?_ _) | (with_reducible refine New.hat ?_ _) | ((with_reducible apply New.snart); (with_reducible assumption)))))) (by kernel_rfl) (by intro v hv; simp at hv; rcases hv with rfl | rfl | rfl <;> rfl) (fun Z nZ kZ cZ => ?_))
  have nz := nZ w (by (repeat (first | (with_reducible exact New.refl _) | (with_reducible assumption) | ((with_reducible refine New.setB ?_ ?_ _); focus (first | omega | (simp; omega) | (simp; done))) | (with_reducible refine New.alloc ?_ _) | (with_reducible refine New.drew ?_) | (with_reducible refine New.drewN ?_ _) | (with_reducible refine New.hat ?_ _) | ((with_reducible apply New.snart); (with_reducible assumption))))) (by omega)
  have r0 : Z.cell? ⟨w.heap.size + 1 + 1 + 1, 0, none⟩ = some (.slice none 0 0) := by have := cZ 0 (by simp); simpa using this
  have r1 : Z.cell? ⟨w.heap.size + 1 + 1 + 1, 1, none⟩ = some (.slice none 0 0) := by have := cZ 1 (by simp); simpa using this
  have r2 : Z.cell? ⟨w.heap.size + 1 + 1 + 1, 2, none⟩ = some (.slice none 0 0) := by have := cZ 2 (by simp); simpa using this
  clear nZ kZ cZ
  refine bodyPost_ret (v := .tuple #[.agg #[.slice none 0 0, .slice none 0 0, .slice none 0 0], .int .i64 40]) (by simp [results, Try.results9, go_sem, r0, r1, r2]) rfl ?_
  exact ⟨SoupV.none, rfl, SoupV.none_ok _, rfl, rfl, rfl, SoupV.none_own _, nz⟩

set_option maxHeartbeats 4000000 in
theorem u_tadd_twice (C : CfgR) (S : SoupV) (x : TriR) (w : World) (hS : S.ok w) (h : S.err C = 0) (hm : x.may C = true) (p : Nat) (hp : TriR.Place S.ts x.i p) (hh : TriR.hit S.ts x.i p = true) :
    Calls Try.prog 9 #[.agg #[.int .i64 C.cl, .int .i64 C.cb, .int .i64 C.ht, .int .i64 C.ri, .int .i64 C.ru, .int .i64 C.wd, .int .i64 C.dp], .agg #[.slice S.a0 S.ts.length S.c0, .slice S.a1 S.bs.length S.c1, .slice S.a2 S.hs.length S.c2], .agg #[.int .i64 x.i, .int .i64 x.x0, .int .i64 x.y0, .int .i64 x.z0, .int .i64 x.x1, .int .i64 x.y1, .int .i64 x.z1, .int .i64 x.x2, .int .i64 x.y2, .int .i64 x.z2]] w (SoupE [] [] [] 50 w) := by
  have hC := CfgR.fine_of (SoupV.err_zero h).1
  have KC := Lib.hid (fun W n => u_check C S W (hS.keep n))
  rw [h] at KC
  have KI := Lib.hid (fun W => u_id x.i W)
  have KM := Lib.hid (fun W => u_mayTri C.wd C.dp ⟨hC.w1, hC.w2⟩ ⟨hC.d1, hC.d2⟩ x W)
  rw [mayTB_may C hC x, Bool.and_eq_true] at hm
  rw [hm.1] at KI
  rw [hm.2] at KM
  obtain ⟨z, hz⟩ := TriR.isFirst S.ts x.i
  have KT := Lib.hid (fun W n => u_tget S x.i z hz W (hS.keep n))
  have hd := TriR.first_of_hit (TriR.listB_iff.1 (TriR.err_list h)).2.2 hp hz
  rw [hh] at hd
  rw [hd] at KT
  clear hd hz h hm hp hh hC hS
  go_enter Try.func9, Try.ntmps9
  go_wp2_with fail
  refine Calls.at (fun W hW => ?_)
  have hn : New w W := by subst hW; (repeat (first | (with_reducible exact New.refl _) | (with_reducible assumption) | ((with_reducible refine New.setB ?_ ?_ _); focus (first | omega | (simp; omega) | (simp; done))) | (with_reducible refine New.alloc ?_ _) | (with_reducible refine New.drew ?_) | (with_reducible refine New.drewN ?_ _) | (with_reducible refine New.hat ?_ _) | ((with_reducible apply New.snart); (with_reducible assumption))))
  ((have g0 : World.cell? (W) ⟨w.heap.size, 0, none⟩ = some (.int .i64 C.cl) := (by subst hW; go_simp)); (have g1 : World.cell? (W) ⟨w.heap.size, 1, none⟩ = some (.int .i64 C.cb) := (by subst hW; go_simp)); (have g2 : World.cell? (W) ⟨w.heap.size, 2, none⟩ = some (.int .i64 C.ht) := (by subst hW; go_simp)); (have g3 : World.cell? (W) ⟨w.heap.size, 3, none⟩ = some (.int .i64 C.ri) := (by subst hW; go_simp)); (have g4 : World.cell? (W) ⟨w.heap.size, 4, none⟩ = some (.int .i64 C.ru) := (by subst hW; go_simp)); (have g5 : World.cell? (W) ⟨w.heap.size, 5, none⟩ = some (.int .i64 C.wd) := (by subst hW; go_simp)); (have g6 : World.cell? (W) ⟨w.heap.size, 6, none⟩ = some (.int .i64 C.dp) := (by subst hW; go_simp)))
  have q0 : W.cell? ⟨w.heap.size + 1, 0, none⟩ = some (.slice S.a0 S.ts.length S.c0) := by subst hW; go_simp
  have q1 : W.cell? ⟨w.heap.size + 1, 1, none⟩ = some (.slice S.a1 S.bs.length S.c1) := by subst hW; go_simp
  have q2 : W.cell? ⟨w.heap.size + 1, 2, none⟩ = some (.slice S.a2 S.hs.length S.c2) := by subst hW; go_simp
  ((have d0 : World.cell? (W) ⟨w.heap.size + 1 + 1, 0, none⟩ = some (.int .i64 x.i) := (by subst hW; go_simp)); (have d1 : World.cell? (W) ⟨w.heap.size + 1 + 1, 1, none⟩ = some (.int .i64 x.x0) := (by subst hW; go_simp)); (have d2 : World.cell? (W) ⟨w.heap.size + 1 + 1, 2, none⟩ = some (.int .i64 x.y0) := (by subst hW; go_simp)); (have d3 : World.cell? (W) ⟨w.heap.size + 1 + 1, 3, none⟩ = some (.int .i64 x.z0) := (by subst hW; go_simp)); (have d4 : World.cell? (W) ⟨w.heap.size + 1 + 1, 4, none⟩ = some (.int .i64 x.x1) := (by subst hW; go_simp)); (have d5 : World.cell? (W) ⟨w.heap.size + 1 + 1, 5, none⟩ = some (.int .i64 x.y1) := (by subst hW; go_simp)); (have d6 : World.cell? (W) ⟨w.heap.size + 1 + 1, 6, none⟩ = some (.int .i64 x.z1) := (by subst hW; go_simp)); (have d7 : World.cell? (W) ⟨w.heap.size + 1 + 1, 7, none⟩ = some (.int .i64 x.x2) := (by subst hW; go_simp)); (have d8 : World.cell? (W) ⟨w.heap.size + 1 + 1, 8, none⟩ = some (.int .i64 x.y2) := (by subst hW; go_simp)); (have d9 : World.cell? (W) ⟨w.heap.size + 1 + 1, 9, none⟩ = some (.int .i64 x.z2) := (by subst hW; go_simp)))
  have fz : Thr W (w.heap.size + 1 + 1 + 1) 3 := by subst hW; exact Thr.new _ #[.slice none 0 0, .slice none 0 0, .slice none 0 0] _ _ (by simp)
  clear hW
  refine (KC.out _ hn).mono ?_
  rintro e W1 ⟨rfl, n1⟩
  replace g0 := New.keep (n1) g0; replace g1 := New.keep (n1) g1; replace g2 := New.keep (n1) g2; replace g3 := New.keep (n1) g3; replace g4 := New.keep (n1) g4; replace g5 := New.keep (n1) g5; replace g6 := New.keep (n1) g6
  replace q0 := New.keep n1 q0
  replace q1 := New.keep n1 q1
  replace q2 := New.keep n1 q2
  replace d0 := New.keep (n1) d0; replace d1 := New.keep (n1) d1; replace d2 := New.keep (n1) d2; replace d3 := New.keep (n1) d3; replace d4 := New.keep (n1) d4; replace d5 := New.keep (n1) d5; replace d6 := New.keep (n1) d6; replace d7 := New.keep (n1) d7; replace d8 := New.keep (n1) d8; replace d9 := New.keep (n1) d9
  replace fz := fz.keep n1
  replace hn := hn.trans n1
  have sz : w.heap.size + 1 + 1 + 1 < W1.heap.size := fz.lt (by omega)
  clear n1
  go_wp2_with fail
  refine (KI.out _).mono ?_
  rintro e W2 ⟨rfl, n1⟩
  replace g0 := New.keep (n1) g0; replace g1 := New.keep (n1) g1; replace g2 := New.keep (n1) g2; replace g3 := New.keep (n1) g3; replace g4 := New.keep (n1) g4; replace g5 := New.keep (n1) g5; replace g6 := New.keep (n1) g6
  replace q0 := New.keep n1 q0
  replace q1 := New.keep n1 q1
  replace q2 := New.keep n1 q2
  replace d0 := New.keep (n1) d0; replace d1 := New.keep (n1) d1; replace d2 := New.keep (n1) d2; replace d3 := New.keep (n1) d3; replace d4 := New.keep (n1) d4; replace d5 := New.keep (n1) d5; replace d6 := New.keep (n1) d6; replace d7 := New.keep (n1) d7; replace d8 := New.keep (n1) d8; replace d9 := New.keep (n1) d9
  replace fz := fz.keep n1
  replace hn := hn.trans n1
  have sz : w.heap.size + 1 + 1 + 1 < W2.heap.size := fz.lt (by omega)
  clear n1
  go_wp2_with fail
  refine (KM.out _).mono ?_
  rintro e W3 ⟨rfl, n1⟩
  replace g0 := New.keep (n1) g0; replace g1 := New.keep (n1) g1; replace g2 := New.keep (n1) g2; replace g3 := New.keep (n1) g3; replace g4 := New.keep (n1) g4; replace g5 := New.keep (n1) g5; replace g6 := New.keep (n1) g6
  replace q0 := New.keep n1 q0
  replace q1 := New.keep n1 q1
  replace q2 := New.keep n1 q2
  replace d0 := New.keep (n1) d0; replace d1 := New.keep (n1) d1; replace d2 := New.keep (n1) d2; replace d3 := New.keep (n1) d3; replace d4 := New.keep (n1) d4; replace d5 := New.keep (n1) d5; replace d6 := New.keep (n1) d6; replace d7 := New.keep (n1) d7; replace d8 := New.keep (n1) d8; replace d9 := New.keep (n1) d9
  replace fz := fz.keep n1
  replace hn := hn.trans n1
  have sz : w.heap.size + 1 + 1 + 1 < W3.heap.size := fz.lt (by omega)
  clear n1
  go_wp2_with fail
  refine (KT.out _ hn).mono ?_
  rintro e W4 ⟨rfl, n1⟩
  replace g0 := New.keep (n1) g0; replace g1 := New.keep (n1) g1; replace g2 := New.keep (n1) g2; replace g3 := New.keep (n1) g3; replace g4 := New.keep (n1) g4; replace g5 := New.keep (n1) g5; replace g6 := New.keep (n1) g6
  replace q0 := New.keep n1 q0
  replace q1 := New.keep n1 q1
  replace q2 := New.keep n1 q2
  replace d0 := New.keep (n1) d0; replace d1 := New.keep (n1) d1; replace d2 := New.keep (n1) d2; replace d3 := New.keep (n1) d3; replace d4 := New.keep (n1) d4; replace d5 := New.keep (n1) d5; replace d6 := New.keep (n1) d6; replace d7 := New.keep (n1) d7; replace d8 := New.keep (n1) d8; replace d9 := New.keep (n1) d9
  replace fz := fz.keep n1
  replace hn := hn.trans n1
  have sz : w.heap.size + 1 + 1 + 1 < W4.heap.size := fz.lt (by omega)
  have sz1 : w.heap.size + 1 < W4.heap.size := by omega
  have sz2 : w.heap.size + 1 + 1 < W4.heap.size := by omega
  clear n1
  go_wp2_with (refine wpList_store_row rfl 28 _ _ rfl _ _ rfl rfl (fz.keep (by (repeat (first | (with_reducible exact New.refl _) | (with_reducible assumption) | ((with_reducible refine New.setB ?_ ?_ _); focus (first | omega | (simp; omega) | (simp; done))) | (with_reducible refine New.alloc ?_ _) | (with_reducible refine New.drew ?_) | (with_reducible refine New.drewN ?_ _) | (with_reducible refine New.hat ?_ _) | ((with_reducible apply New.snart); (with_reducible assumption)))))) (by kernel_rfl) (by intro v hv; simp at hv; rcases hv with rfl | rfl | rfl <;> rfl) (fun Z nZ kZ cZ => ?_))
  have nz := nZ w (by (repeat (first | (with_reducible exact New.refl _) | (with_reducible assumption) | ((with_reducible refine New.setB ?_ ?_ _); focus (first | omega | (simp; omega) | (simp; done))) | (with_reducible refine New.alloc ?_ _) | (with_reducible refine New.drew ?_) | (with_reducible refine New.drewN ?_ _) | (with_reducible refine New.hat ?_ _) | ((with_reducible apply New.snart); (with_reducible assumption))))) (by omega)
  have r0 : Z.cell? ⟨w.heap.size + 1 + 1 + 1, 0, none⟩ = some (.slice none 0 0) := by have := cZ 0 (by simp); simpa using this
  have r1 : Z.cell? ⟨w.heap.size + 1 + 1 + 1, 1, none⟩ = some (.slice none 0 0) := by have := cZ 1 (by simp); simpa using this
  have r2 : Z.cell? ⟨w.heap.size + 1 + 1 + 1, 2, none⟩ = some (.slice none 0 0) := by have := cZ 2 (by simp); simpa using this
  clear nZ kZ cZ
  refine bodyPost_ret (v := .tuple #[.agg #[.slice none 0 0, .slice none 0 0, .slice none 0 0], .int .i64 50]) (by simp [results, Try.results9, go_sem, r0, r1, r2]) rfl ?_
  exact ⟨SoupV.none, rfl, SoupV.none_ok _, rfl, rfl, rfl, SoupV.none_own _, nz⟩

set_option maxHeartbeats 4000000 in
theorem u_tadd_full (C : CfgR) (S : SoupV) (x : TriR) (w : World) (hS : S.ok w) (h : S.err C = 0) (hm : x.may C = true) (p : Nat) (hp : TriR.Place S.ts x.i p) (hh : TriR.hit S.ts x.i p = false) (hf : S.ts.length = 200) :
    Calls Try.prog 9 #[.agg #[.int .i64 C.cl, .int .i64 C.cb, .int .i64 C.ht, .int .i64 C.ri, .int .i64 C.ru, .int .i64 C.wd, .int .i64 C.dp], .agg #[.slice S.a0 S.ts.length S.c0, .slice S.a1 S.bs.length S.c1, .slice S.a2 S.hs.length S.c2], .agg #[.int .i64 x.i, .int .i64 x.x0, .int .i64 x.y0, .int .i64 x.z0, .int .i64 x.x1, .int .i64 x.y1, .int .i64 x.z1, .int .i64 x.x2, .int .i64 x.y2, .int .i64 x.z2]] w (SoupE [] [] [] 51 w) := by
  have hC := CfgR.fine_of (SoupV.err_zero h).1
  have KC := Lib.hid (fun W n => u_check C S W (hS.keep n))
  rw [h] at KC
  have KI := Lib.hid (fun W => u_id x.i W)
  have KM := Lib.hid (fun W => u_mayTri C.wd C.dp ⟨hC.w1, hC.w2⟩ ⟨hC.d1, hC.d2⟩ x W)
  rw [mayTB_may C hC x, Bool.and_eq_true] at hm
  rw [hm.1] at KI
  rw [hm.2] at KM
  obtain ⟨z, hz⟩ := TriR.isFirst S.ts x.i
  have KT := Lib.hid (fun W n => u_tget S x.i z hz W (hS.keep n))
  have hd := TriR.first_of_hit (TriR.listB_iff.1 (TriR.err_list h)).2.2 hp hz
  rw [hh] at hd
  rw [hd] at KT
  clear hd hz h hm hp hh hC hS
  have qf : decide ((200 : Int) ≤ (S.ts.length : Int)) = true := decide_eq_true (by omega)
  clear hf
  go_enter Try.func9, Try.ntmps9
  go_wp2_with fail
  refine Calls.at (fun W hW => ?_)
  have hn : New w W := by subst hW; (repeat (first | (with_reducible exact New.refl _) | (with_reducible assumption) | ((with_reducible refine New.setB ?_ ?_ _); focus (first | omega | (simp; omega) | (simp; done))) | (with_reducible refine New.alloc ?_ _) | (with_reducible refine New.drew ?_) | (with_reducible refine New.drewN ?_ _) | (with_reducible refine New.hat ?_ _) | ((with_reducible apply New.snart); (with_reducible assumption))))
  ((have g0 : World.cell? (W) ⟨w.heap.size, 0, none⟩ = some (.int .i64 C.cl) := (by subst hW; go_simp)); (have g1 : World.cell? (W) ⟨w.heap.size, 1, none⟩ = some (.int .i64 C.cb) := (by subst hW; go_simp)); (have g2 : World.cell? (W) ⟨w.heap.size, 2, none⟩ = some (.int .i64 C.ht) := (by subst hW; go_simp)); (have g3 : World.cell? (W) ⟨w.heap.size, 3, none⟩ = some (.int .i64 C.ri) := (by subst hW; go_simp)); (have g4 : World.cell? (W) ⟨w.heap.size, 4, none⟩ = some (.int .i64 C.ru) := (by subst hW; go_simp)); (have g5 : World.cell? (W) ⟨w.heap.size, 5, none⟩ = some (.int .i64 C.wd) := (by subst hW; go_simp)); (have g6 : World.cell? (W) ⟨w.heap.size, 6, none⟩ = some (.int .i64 C.dp) := (by subst hW; go_simp)))
  have q0 : W.cell? ⟨w.heap.size + 1, 0, none⟩ = some (.slice S.a0 S.ts.length S.c0) := by subst hW; go_simp
  have q1 : W.cell? ⟨w.heap.size + 1, 1, none⟩ = some (.slice S.a1 S.bs.length S.c1) := by subst hW; go_simp
  have q2 : W.cell? ⟨w.heap.size + 1, 2, none⟩ = some (.slice S.a2 S.hs.length S.c2) := by subst hW; go_simp
  ((have d0 : World.cell? (W) ⟨w.heap.size + 1 + 1, 0, none⟩ = some (.int .i64 x.i) := (by subst hW; go_simp)); (have d1 : World.cell? (W) ⟨w.heap.size + 1 + 1, 1, none⟩ = some (.int .i64 x.x0) := (by subst hW; go_simp)); (have d2 : World.cell? (W) ⟨w.heap.size + 1 + 1, 2, none⟩ = some (.int .i64 x.y0) := (by subst hW; go_simp)); (have d3 : World.cell? (W) ⟨w.heap.size + 1 + 1, 3, none⟩ = some (.int .i64 x.z0) := (by subst hW; go_simp)); (have d4 : World.cell? (W) ⟨w.heap.size + 1 + 1, 4, none⟩ = some (.int .i64 x.x1) := (by subst hW; go_simp)); (have d5 : World.cell? (W) ⟨w.heap.size + 1 + 1, 5, none⟩ = some (.int .i64 x.y1) := (by subst hW; go_simp)); (have d6 : World.cell? (W) ⟨w.heap.size + 1 + 1, 6, none⟩ = some (.int .i64 x.z1) := (by subst hW; go_simp)); (have d7 : World.cell? (W) ⟨w.heap.size + 1 + 1, 7, none⟩ = some (.int .i64 x.x2) := (by subst hW; go_simp)); (have d8 : World.cell? (W) ⟨w.heap.size + 1 + 1, 8, none⟩ = some (.int .i64 x.y2) := (by subst hW; go_simp)); (have d9 : World.cell? (W) ⟨w.heap.size + 1 + 1, 9, none⟩ = some (.int .i64 x.z2) := (by subst hW; go_simp)))
  have fz : Thr W (w.heap.size + 1 + 1 + 1) 3 := by subst hW; exact Thr.new _ #[.slice none 0 0, .slice none 0 0, .slice none 0 0] _ _ (by simp)
  clear hW
  refine (KC.out _ hn).mono ?_
  rintro e W1 ⟨rfl, n1⟩
  replace g0 := New.keep (n1) g0; replace g1 := New.keep (n1) g1; replace g2 := New.keep (n1) g2; replace g3 := New.keep (n1) g3; replace g4 := New.keep (n1) g4; replace g5 := New.keep (n1) g5; replace g6 := New.keep (n1) g6
  replace q0 := New.keep n1 q0
  replace q1 := New.keep n1 q1
  replace q2 := New.keep n1 q2
  replace d0 := New.keep (n1) d0; replace d1 := New.keep (n1) d1; replace d2 := New.keep (n1) d2; replace d3 := New.keep (n1) d3; replace d4 := New.keep (n1) d4; replace d5 := New.keep (n1) d5; replace d6 := New.keep (n1) d6; replace d7 := New.keep (n1) d7; replace d8 := New.keep (n1) d8; replace d9 := New.keep (n1) d9
  replace fz := fz.keep n1
  replace hn := hn.trans n1
  have sz : w.heap.size + 1 + 1 + 1 < W1.heap.size := fz.lt (by omega)
  clear n1
  go_wp2_with fail
  refine (KI.out _).mono ?_
  rintro e W2 ⟨rfl, n1⟩
  replace g0 := New.keep (n1) g0; replace g1 := New.keep (n1) g1; replace g2 := New.keep (n1) g2; replace g3 := New.keep (n1) g3; replace g4 := New.keep (n1) g4; replace g5 := New.keep (n1) g5; replace g6 := New.keep (n1) g6
  replace q0 := New.keep n1 q0
  replace q1 := New.keep n1 q1
  replace q2 := New.keep n1 q2
  replace d0 := New.keep (n1) d0; replace d1 := New.keep (n1) d1; replace d2 := New.keep (n1) d2; replace d3 := New.keep (n1) d3; replace d4 := New.keep (n1) d4; replace d5 := New.keep (n1) d5; replace d6 := New.keep (n1) d6; replace d7 := New.keep (n1) d7; replace d8 := New.keep (n1) d8; replace d9 := New.keep (n1) d9
  replace fz := fz.keep n1
  replace hn := hn.trans n1
  have sz : w.heap.size + 1 + 1 + 1 < W2.heap.size := fz.lt (by omega)
  clear n1
  go_wp2_with fail
  refine (KM.out _).mono ?_
  rintro e W3 ⟨rfl, n1⟩
  replace g0 := New.keep (n1) g0; replace g1 := New.keep (n1) g1; replace g2 := New.keep (n1) g2; replace g3 := New.keep (n1) g3; replace g4 := New.keep (n1) g4; replace g5 := New.keep (n1) g5; replace g6 := New.keep (n1) g6
  replace q0 := New.keep n1 q0
  replace q1 := New.keep n1 q1
  replace q2 := New.keep n1 q2
  replace d0 := New.keep (n1) d0; replace d1 := New.keep (n1) d1; replace d2 := New.keep (n1) d2; replace d3 := New.keep (n1) d3; replace d4 := New.keep (n1) d4; replace d5 := New.keep (n1) d5; replace d6 := New.keep (n1) d6; replace d7 := New.keep (n1) d7; replace d8 := New.keep (n1) d8; replace d9 := New.keep (n1) d9
  replace fz := fz.keep n1
  replace hn := hn.trans n1
  have sz : w.heap.size + 1 + 1 + 1 < W3.heap.size := fz.lt (by omega)
  clear n1
  go_wp2_with fail
  refine (KT.out _ hn).mono ?_
  rintro e W4 ⟨rfl, n1⟩
  replace g0 := New.keep (n1) g0; replace g1 := New.keep (n1) g1; replace g2 := New.keep (n1) g2; replace g3 := New.keep (n1) g3; replace g4 := New.keep (n1) g4; replace g5 := New.keep (n1) g5; replace g6 := New.keep (n1) g6
  replace q0 := New.keep n1 q0
  replace q1 := New.keep n1 q1
  replace q2 := New.keep n1 q2
  replace d0 := New.keep (n1) d0; replace d1 := New.keep (n1) d1; replace d2 := New.keep (n1) d2; replace d3 := New.keep (n1) d3; replace d4 := New.keep (n1) d4; replace d5 := New.keep (n1) d5; replace d6 := New.keep (n1) d6; replace d7 := New.keep (n1) d7; replace d8 := New.keep (n1) d8; replace d9 := New.keep (n1) d9
  replace fz := fz.keep n1
  replace hn := hn.trans n1
  have sz : w.heap.size + 1 + 1 + 1 < W4.heap.size := fz.lt (by omega)
  have sz1 : w.heap.size + 1 < W4.heap.size := by omega
  have sz2 : w.heap.size + 1 + 1 < W4.heap.size := by omega
  clear n1
  go_wp2_with (refine wpList_store_row rfl 28 _ _ rfl _ _ rfl rfl (fz.keep (by (repeat (first | (with_reducible exact New.refl _) | (with_reducible assumption) | ((with_reducible refine New.setB ?_ ?_ _); focus (first | omega | (simp; omega) | (simp; done))) | (with_reducible refine New.alloc ?_ _) | (with_reducible refine New.drew ?_) | (with_reducible refine New.drewN ?_ _) | (with_reducible refine New.hat ?_ _) | ((with_reducible apply New.snart); (with_reducible assumption)))))) (by kernel_rfl) (by intro v hv; simp at hv; rcases hv with rfl | rfl | rfl <;> rfl) (fun Z nZ kZ cZ => ?_))
  have nz := nZ w (by (repeat (first | (with_reducible exact New.refl _) | (with_reducible assumption) | ((with_reducible refine New.setB ?_ ?_ _); focus (first | omega | (simp; omega) | (simp; done))) | (with_reducible refine New.alloc ?_ _) | (with_reducible refine New.drew ?_) | (with_reducible refine New.drewN ?_ _) | (with_reducible refine New.hat ?_ _) | ((with_reducible apply New.snart); (with_reducible assumption))))) (by omega)
  have r0 : Z.cell? ⟨w.heap.size + 1 + 1 + 1, 0, none⟩ = some (.slice none 0 0) := by have := cZ 0 (by simp); simpa using this
  have r1 : Z.cell? ⟨w.heap.size + 1 + 1 + 1, 1, none⟩ = some (.slice none 0 0) := by have := cZ 1 (by simp); simpa using this
  have r2 : Z.cell? ⟨w.heap.size + 1 + 1 + 1, 2, none⟩ = some (.slice none 0 0) := by have := cZ 2 (by simp); simpa using this
  clear nZ kZ cZ
  refine bodyPost_ret (v := .tuple #[.agg #[.slice none 0 0, .slice none 0 0, .slice none 0 0], .int .i64 51]) (by simp [results, Try.results9, go_sem, r0, r1, r2]) rfl ?_
  exact ⟨SoupV.none, rfl, SoupV.none_ok _, rfl, rfl, rfl, SoupV.none_own _, nz⟩

end Go.Proofs.Ytonngfogbnfbnaa
