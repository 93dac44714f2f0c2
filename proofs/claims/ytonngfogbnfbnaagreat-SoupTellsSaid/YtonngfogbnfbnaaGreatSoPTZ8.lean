import Derived.Test.YtonngfogbnfbnaaGreatSoETZ8

/- Package soup: the place of an id, by the library's binary search. -/
namespace Go.Proofs.YtonngfogbnfbnaaGreat
open Go.RowKit
set_option linter.unusedVariables false

/-- The place p parts those below id from the others. -/
structure TriR.Place (l : List TriR) (id : Int) (p : Nat) : Prop where
  le : p ≤ l.length
  lo : ∀ j (h : j < l.length), j < p → l[j].i < id
  hi : ∀ j (h : j < l.length), p ≤ j → id ≤ l[j].i
def TriR.hit (l : List TriR) (id : Int) (p : Nat) : Bool := decide (p < l.length) && (l[p]!).i == id

set_option maxHeartbeats 1000000 in
theorem t_cmp (y : TriR) (B : Nat) (id : Int) (w : World) (k1 : w.cell? ⟨B, 1, none⟩ = some (.func (.func 50) #[] #[])) :
    Calls Tryz.prog 88 #[.agg #[.int .i64 y.i, .int .i64 y.x0, .int .i64 y.y0, .int .i64 y.z0, .int .i64 y.x1, .int .i64 y.y1, .int .i64 y.z1, .int .i64 y.x2, .int .i64 y.y2, .int .i64 y.z2], .int .i64 id, .pointer (some ⟨B, 0, none⟩)] w fun e w' => e = .returned (.int .i64 (cmpI y.i id)) ∧ New w w' := by
  have HI := Lib.hid (fun W => t_id y W)
  have HC := Lib.hid (fun W => l_cmp y.i id W)
  have hB : B < w.heap.size := World.block_lt_of_cell? _ _ k1
  go_enter Tryz.func88, Tryz.ntmps88
  go_wp2_with fail
  refine (HI.out _).mono ?_
  rintro e W1 ⟨rfl, n1⟩
  have hn : New w W1 := New.trans (by (repeat (first | (with_reducible exact New.refl _) | (with_reducible assumption) | ((with_reducible refine New.setB ?_ ?_ _); focus (first | omega | (simp; omega) | (simp; done))) | (with_reducible refine New.alloc ?_ _) | (with_reducible refine New.drew ?_) | (with_reducible refine New.drewN ?_ _) | (with_reducible refine New.hat ?_ _) | ((with_reducible apply New.snart); (with_reducible assumption))))) n1
  clear n1
  go_wp2_with fail
  refine (HC.out _).mono ?_
  rintro e w' ⟨rfl, rfl⟩
  go_wp2_with fail
  go_ret
  exact ⟨rfl, hn⟩

set_option maxHeartbeats 4000000 in
set_option maxRecDepth 100000 in
theorem t_search (at0 : Option Addr) (l : List TriR) (c : Nat) (hl : l.length ≤ 1000) (id : Int) (p : Nat) (hp : TriR.Place l id p) (B : Nat) (w : World) (H : RowIn TriR.enc 10 w at0 l)
    (k1 : w.cell? ⟨B, 1, none⟩ = some (.func (.func 50) #[] #[])) :
    Calls Tryz.prog 87 #[.slice at0 l.length c, .int .i64 id, .func (.func 88) #[] #[.pointer (some ⟨B, 0, none⟩)]] w fun e w' => e = .returned (.tuple #[.int .i64 p, .bool (TriR.hit l id p)]) ∧ New w w' := by
  have HC := Lib.hid (fun x W (n : New w W) => t_cmp x B id W (n.keep k1))
  have HP := Lib.hid hp
  have HH := Lib.hid H
  clear hp H k1
  go_enter Tryz.func87, Tryz.ntmps87
  go_wp2_with fail
  go_loopg [9, 10] l.length (fun k s t wr => ∃ i j : Nat, s = .int .i64 i ∧ t = .int .i64 j ∧ i ≤ j ∧ j ≤ l.length ∧ j ≤ i + k ∧ i ≤ p ∧ p ≤ j ∧ New w wr)
  case atStart => exact ⟨0, l.length, by simp, rfl, by omega, by omega, by omega, by omega, HP.out.le, New.refl _⟩
  case round =>
    obtain ⟨i, j, rfl, rfl, hij, hj, hk, hip, hpj, hn⟩ := hrel
    by_cases hlt : i < j
    · obtain ⟨m, hm⟩ : ∃ m : Nat, (i + j) / 2 = m := ⟨_, rfl⟩
      have hmi : i ≤ m := by omega
      have hmj : m < j := by omega
      have hM : ((i : Int) + (j : Int)) / 2 = (m : Int) := by omega
      obtain ⟨b, off, rfl, hA⟩ := HH.out (by omega)
      have hA' := hA.keep hn
      obtain ⟨c0, c1, c2, c3, c4, c5, c6, c7, c8, c9⟩ := TriR.cells hA' m (by omega)
      have hc := Lib.hid (HC.out (l[m]'(by omega)) wr hn)
      clear hA hA' hm
      unfold cmpI at hc
      by_cases hlo : (l[m]'(by omega)).i < id
      · rw [if_pos hlo] at hc
        have hpm : m < p := by
          rcases Nat.lt_or_ge m p with q | q
          · exact q
          · have := HP.out.hi m (by omega) q; omega
        clear hlo
        go_wp2_with fail
        refine hc.out.mono ?_
        rintro e W1 ⟨rfl, n1⟩
        go_wp2_with fail
        go_roundg (gk - 1)
        case measure => omega
        case rel => exact ⟨m + 1, j, by go_num, rfl, by omega, by omega, by omega, by omega, by omega, hn.trans n1⟩
      · rw [if_neg hlo] at hc
        have hpm : p ≤ m := by
          rcases Nat.lt_or_ge m p with q | q
          · have := HP.out.lo m (by omega) q; omega
          · exact q
        obtain ⟨u, hu⟩ : ∃ u : Int, u = if id < (l[m]'(by omega)).i then 1 else 0 := ⟨_, rfl⟩
        rw [← hu] at hc
        have hu0 : ¬ u < 0 := by rw [hu]; split <;> omega
        clear hlo hu
        go_wp2_with fail
        refine hc.out.mono ?_
        rintro e W1 ⟨rfl, n1⟩
        go_wp2_with fail
        go_roundg (gk - 1)
        case measure => omega
        case rel => exact ⟨i, m, rfl, rfl, by omega, by omega, by omega, by omega, by omega, hn.trans n1⟩
    · obtain rfl : i = j := by omega
      obtain rfl : i = p := by omega
      by_cases hin : i < l.length
      · obtain ⟨b, off, rfl, hA⟩ := HH.out (by omega)
        have hA' := hA.keep hn
        obtain ⟨c0, c1, c2, c3, c4, c5, c6, c7, c8, c9⟩ := TriR.cells hA' i hin
        have hc := Lib.hid (HC.out l[i] wr hn)
        have hb : TriR.hit l id i = (cmpI l[i].i id == 0) := by
          unfold TriR.hit cmpI
          rw [decide_eq_true hin, Bool.true_and, getElem!_pos l i hin, Bool.eq_iff_iff]
          simp only [beq_iff_eq]
          split
          · constructor <;> intro h <;> omega
          · split
            · constructor <;> intro h <;> omega
            · constructor <;> intro h <;> omega
        have HB := Lib.hid hb
        generalize cmpI l[i].i id = u at *
        clear hA hA' hb
        go_wp2_with fail
        refine hc.out.mono ?_
        rintro e W1 ⟨rfl, n1⟩
        go_wp2_with fail
        go_ret2
        rw [HB.out]
        exact ⟨rfl, hn.trans n1⟩
      · have hb : TriR.hit l id i = false := by unfold TriR.hit; simp [hin]
        have HB := Lib.hid hb
        clear hb
        go_wp2_with fail
        go_ret2
        rw [HB.out]
        exact ⟨rfl, hn⟩

end Go.Proofs.YtonngfogbnfbnaaGreat
