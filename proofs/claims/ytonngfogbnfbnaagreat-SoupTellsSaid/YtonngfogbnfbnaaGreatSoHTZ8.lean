import Derived.Test.YtonngfogbnfbnaaGreatSoETZ8

/- Package soup: the first one of an id. -/
namespace Go.Proofs.YtonngfogbnfbnaaGreat
open Go.RowKit
set_option linter.unusedVariables false

def TriR.IsFirst (l : List TriR) (id : Int) (z : Int) : Prop := (z = -1 ∧ ∀ j (h : j < l.length), l[j].i ≠ id) ∨ (∃ j, ∃ h : j < l.length, z = j ∧ l[j].i = id ∧ ∀ k (hk : k < j), l[k].i ≠ id)
theorem TriR.isFirst (l : List TriR) (id : Int) : ∃ z, TriR.IsFirst l id z := by
  by_cases h : ∃ j, ∃ h : j < l.length, l[j].i = id
  · obtain ⟨j, hm, hmin⟩ := exists_least h
    obtain ⟨hj, he⟩ := hm
    exact ⟨j, Or.inr ⟨j, hj, rfl, he, fun k hk hki => by have := hmin k ⟨by omega, hki⟩; omega⟩⟩
  · exact ⟨-1, Or.inl ⟨rfl, fun j hj he => h ⟨j, hj, he⟩⟩⟩
theorem TriR.first_hit {l : List TriR} {id z : Int} (hz : TriR.IsFirst l id z) {i : Nat} (hi : i < l.length) (he : l[i].i = id) (hb : ∀ k (hk : k < i), l[k].i ≠ id) : z = i := by
  rcases hz with ⟨_, h⟩ | ⟨j, hj, rfl, h1, h2⟩
  · exact absurd he (h i hi)
  · rcases Nat.lt_trichotomy i j with q | q | q
    · exact absurd he (h2 i q)
    · rw [q]
    · exact absurd h1 (hb j q)
theorem TriR.first_none {l : List TriR} {id z : Int} (hz : TriR.IsFirst l id z) (hb : ∀ k (hk : k < l.length), l[k].i ≠ id) : z = -1 := by
  rcases hz with ⟨h, _⟩ | ⟨j, hj, rfl, h1, h2⟩
  · exact h
  · exact absurd h1 (hb j hj)

set_option maxHeartbeats 1000000 in
theorem t_is (x : TriR) (Bf Bi : Nat) (id : Int) (w : World) (hf : w.cell? ⟨Bf, 0, none⟩ = some (.func (.func 50) #[] #[])) (hi : w.cell? ⟨Bi, 0, none⟩ = some (.int .i64 id)) :
    Calls Tryz.prog 91 #[.agg #[.int .i64 x.i, .int .i64 x.x0, .int .i64 x.y0, .int .i64 x.z0, .int .i64 x.x1, .int .i64 x.y1, .int .i64 x.z1, .int .i64 x.x2, .int .i64 x.y2, .int .i64 x.z2], .pointer (some ⟨Bf, 0, none⟩), .pointer (some ⟨Bi, 0, none⟩)] w fun e w' => e = .returned (.bool (x.i == id)) ∧ New w w' := by
  have HI := Lib.hid (fun W => t_id x W)
  obtain ⟨v, hv⟩ : ∃ v, v = (x.i == id) := ⟨_, rfl⟩
  rw [← hv]
  have HV := Lib.hid hv
  clear hv
  go_enter Tryz.func91, Tryz.ntmps91
  go_wp2_with fail
  generalize hZ : World.alloc _ _ = Z
  have nZ : New w Z := by subst hZ; (repeat (first | (with_reducible exact New.refl _) | (with_reducible assumption) | ((with_reducible refine New.setB ?_ ?_ _); focus (first | omega | (simp; omega) | (simp; done))) | (with_reducible refine New.alloc ?_ _) | (with_reducible refine New.drew ?_) | (with_reducible refine New.drewN ?_ _) | (with_reducible refine New.hat ?_ _) | ((with_reducible apply New.snart); (with_reducible assumption))))
  ((have z0 : World.cell? (Z) ⟨w.heap.size, 0, none⟩ = some (.int .i64 x.i) := (by subst hZ; go_simp)); (have z1 : World.cell? (Z) ⟨w.heap.size, 1, none⟩ = some (.int .i64 x.x0) := (by subst hZ; go_simp)); (have z2 : World.cell? (Z) ⟨w.heap.size, 2, none⟩ = some (.int .i64 x.y0) := (by subst hZ; go_simp)); (have z3 : World.cell? (Z) ⟨w.heap.size, 3, none⟩ = some (.int .i64 x.z0) := (by subst hZ; go_simp)); (have z4 : World.cell? (Z) ⟨w.heap.size, 4, none⟩ = some (.int .i64 x.x1) := (by subst hZ; go_simp)); (have z5 : World.cell? (Z) ⟨w.heap.size, 5, none⟩ = some (.int .i64 x.y1) := (by subst hZ; go_simp)); (have z6 : World.cell? (Z) ⟨w.heap.size, 6, none⟩ = some (.int .i64 x.z1) := (by subst hZ; go_simp)); (have z7 : World.cell? (Z) ⟨w.heap.size, 7, none⟩ = some (.int .i64 x.x2) := (by subst hZ; go_simp)); (have z8 : World.cell? (Z) ⟨w.heap.size, 8, none⟩ = some (.int .i64 x.y2) := (by subst hZ; go_simp)); (have z9 : World.cell? (Z) ⟨w.heap.size, 9, none⟩ = some (.int .i64 x.z2) := (by subst hZ; go_simp)))
  replace hf := nZ.keep hf
  replace hi := nZ.keep hi
  clear hZ
  (refine wp_region_hat (by kernel_rfl) (by kernel_rfl) ?_; intro hatc hatf; (repeat (go_big_quiet_step ((go_at_call 50; exact Calls.hat (HI.out _))))); refine wpQuiet_nil ?_; rintro _ ⟨y, rfl⟩)
  go_wp2_with fail
  go_ret
  exact ⟨retBo HV.out.symm, nZ.hat y⟩

set_option maxHeartbeats 2000000 in
set_option maxRecDepth 100000 in
theorem t_index (at0 : Option Addr) (l : List TriR) (c : Nat) (hl : l.length ≤ maxLen) (id z : Int) (hz : TriR.IsFirst l id z) (Bf Bi : Nat) (w : World) (H : RowIn TriR.enc 10 w at0 l)
    (hf : w.cell? ⟨Bf, 0, none⟩ = some (.func (.func 50) #[] #[])) (hi : w.cell? ⟨Bi, 0, none⟩ = some (.int .i64 id)) :
    Calls Tryz.prog 90 #[.slice at0 l.length c, .func (.func 91) #[] #[.pointer (some ⟨Bf, 0, none⟩), .pointer (some ⟨Bi, 0, none⟩)]] w fun e w' => e = .returned (.int .i64 z) ∧ New w w' := by
  have HI := Lib.hid (fun x W (n : New w W) => t_is x Bf Bi id W (n.keep hf) (n.keep hi))
  have HZ := Lib.hid hz
  have HH := Lib.hid H
  unfold maxLen at hl
  clear hz H hf hi
  go_enter Tryz.func90, Tryz.ntmps90
  go_wp2_with fail
  go_loopg [8] l.length (fun k s wr => ∃ i : Nat, s = .int .i64 i ∧ i + k = l.length ∧ (∀ j (hj : j < l.length), j < i → l[j].i ≠ id) ∧ New w wr)
  case atStart => exact ⟨0, by simp, by omega, fun _ _ h => absurd h (by omega), New.refl _⟩
  case round =>
    obtain ⟨i, rfl, hik, hno, hn⟩ := hrel
    have HNO := Lib.hid hno
    clear hno
    by_cases hlt : i < l.length
    · obtain ⟨b, off, rfl, hA⟩ := HH.out (by omega)
      have hA' := hA.keep hn
      obtain ⟨c0, c1, c2, c3, c4, c5, c6, c7, c8, c9⟩ := TriR.cells hA' i hlt
      clear hA hA'
      cases he : (l[i].i == id)
      · have HC := Lib.hid (fun W n => by have q := HI.out l[i] W n; rw [he] at q; exact q : ∀ W, New w W → Calls Tryz.prog 91 #[.agg #[.int .i64 l[i].i, .int .i64 l[i].x0, .int .i64 l[i].y0, .int .i64 l[i].z0, .int .i64 l[i].x1, .int .i64 l[i].y1, .int .i64 l[i].z1, .int .i64 l[i].x2, .int .i64 l[i].y2, .int .i64 l[i].z2], .pointer (some ⟨Bf, 0, none⟩), .pointer (some ⟨Bi, 0, none⟩)] W fun e w' => e = .returned (.bool false) ∧ New W w')
        have HE := Lib.hid he
        clear he HI
        go_wp2_with fail
        refine (HC.out _ hn).mono ?_
        rintro e W1 ⟨rfl, n1⟩
        go_wp2_with fail
        go_roundg (gk - 1)
        case measure => omega
        case rel =>
          refine ⟨i + 1, by go_num, by omega, fun j hj hji => ?_, hn.trans n1⟩
          by_cases h : j < i
          · exact HNO.out j hj h
          · obtain rfl : j = i := by omega
            simpa using HE.out
      · have HC := Lib.hid (fun W n => by have q := HI.out l[i] W n; rw [he] at q; exact q : ∀ W, New w W → Calls Tryz.prog 91 #[.agg #[.int .i64 l[i].i, .int .i64 l[i].x0, .int .i64 l[i].y0, .int .i64 l[i].z0, .int .i64 l[i].x1, .int .i64 l[i].y1, .int .i64 l[i].z1, .int .i64 l[i].x2, .int .i64 l[i].y2, .int .i64 l[i].z2], .pointer (some ⟨Bf, 0, none⟩), .pointer (some ⟨Bi, 0, none⟩)] W fun e w' => e = .returned (.bool true) ∧ New W w')
        have HE : Hid (z = i) := TriR.first_hit HZ.out hlt (by simpa using he) (fun k hk => HNO.out k (by omega) hk)
        clear he HI
        go_wp2_with fail
        refine (HC.out _ hn).mono ?_
        rintro e W1 ⟨rfl, n1⟩
        go_wp2_with fail
        go_ret
        exact ⟨by show Ending.returned (.int .i64 (i : Int)) = _; rw [HE.out], hn.trans n1⟩
    · have HE : Hid (z = -1) := TriR.first_none HZ.out (fun k hk => HNO.out k hk (by omega))
      go_wp2_with fail
      go_ret
      exact ⟨by show Ending.returned (.int .i64 (-1)) = _; rw [HE.out], hn⟩

set_option maxHeartbeats 1000000 in
theorem t_first (at0 : Option Addr) (l : List TriR) (c : Nat) (hl : l.length ≤ maxLen) (id z : Int) (hz : TriR.IsFirst l id z) (w : World) (H : RowIn TriR.enc 10 w at0 l) :
    Calls Tryz.prog 48 #[.slice at0 l.length c, .int .i64 id, .func (.func 50) #[] #[]] w fun e w' => e = .returned (.int .i64 z) ∧ New w w' := by
  have HC := Lib.hid (fun Bf Bi W n => t_index at0 l c hl id z hz Bf Bi W (H.keep (n : New w W)))
  clear hz H hl
  go_enter Tryz.func48, Tryz.ntmps48
  go_wp2_with fail
  refine (HC.out _ _ _ (by (repeat (first | (with_reducible exact New.refl _) | (with_reducible assumption) | ((with_reducible refine New.setB ?_ ?_ _); focus (first | omega | (simp; omega) | (simp; done))) | (with_reducible refine New.alloc ?_ _) | (with_reducible refine New.drew ?_) | (with_reducible refine New.drewN ?_ _) | (with_reducible refine New.hat ?_ _) | ((with_reducible apply New.snart); (with_reducible assumption))))) (by go_simp) (by go_simp)).mono ?_
  rintro e W1 ⟨rfl, n1⟩
  have hn : New w W1 := New.trans (by (repeat (first | (with_reducible exact New.refl _) | (with_reducible assumption) | ((with_reducible refine New.setB ?_ ?_ _); focus (first | omega | (simp; omega) | (simp; done))) | (with_reducible refine New.alloc ?_ _) | (with_reducible refine New.drew ?_) | (with_reducible refine New.drewN ?_ _) | (with_reducible refine New.hat ?_ _) | ((with_reducible apply New.snart); (with_reducible assumption))))) n1
  clear n1
  go_wp2_with fail
  go_ret
  exact ⟨rfl, hn⟩

end Go.Proofs.YtonngfogbnfbnaaGreat
