/- The law's holds, walked. -/
import Derived.Test.YtmpkciidhopckaaCellsU
import Derived.Test.YtmpkciidhopckaaCellsS
namespace Go.Proofs.Ytmpkciidhopckaa
open Go.RowKit
set_option linter.unusedVariables false

theorem holds_no1 {x z px pz : Int} (h : ¬ 2 * x ≤ px) : holdsB x z px pz = false := by unfold holdsB; simp [h]
theorem holds_no2 {x z px pz : Int} (h : ¬ px ≤ 2 * x + 2) : holdsB x z px pz = false := by unfold holdsB; simp [h]
theorem holds_no3 {x z px pz : Int} (h : ¬ 2 * z ≤ pz) : holdsB x z px pz = false := by unfold holdsB; simp [h]
theorem holds_no4 {x z px pz : Int} (h : ¬ pz ≤ 2 * z + 2) : holdsB x z px pz = false := by unfold holdsB; simp [h]

set_option maxHeartbeats 2000000 in
theorem c_holds (x z fn fd ln ld px pz : Int) (hx : -1 ≤ x ∧ x ≤ 32) (hz : -1 ≤ z ∧ z ≤ 32) (w : World) :
    Calls Try.prog 21 #[.agg #[.int .i64 x, .int .i64 z, .int .i64 fn, .int .i64 fd, .int .i64 ln, .int .i64 ld], .agg #[.int .i64 px, .int .i64 pz]] w fun e w' => e = .returned (.bool (holdsB x z px pz)) ∧ New w w' := by
  by_cases h1 : 2 * x ≤ px
  · by_cases h2 : px ≤ 2 * x + 2
    · by_cases h3 : 2 * z ≤ pz
      · by_cases h4 : pz ≤ 2 * z + 2
        · rw [show holdsB x z px pz = true by unfold holdsB; simp [h1, h2, h3, h4]]
          go_enter Try.func21, Try.ntmps21
          go_wp2
          go_ret
          exact ⟨rfl, by (repeat (first | (with_reducible exact New.refl _) | (with_reducible assumption) | ((with_reducible refine New.setB ?_ ?_ _); focus (first | omega | (simp; omega) | (simp; done))) | (with_reducible refine New.alloc ?_ _) | (with_reducible refine New.drew ?_) | (with_reducible refine New.drewN ?_ _) | (with_reducible refine New.hat ?_ _) | ((with_reducible apply New.snart); (with_reducible assumption))))⟩
        · rw [holds_no4 h4]
          go_enter Try.func21, Try.ntmps21
          go_wp2
          go_ret
          exact ⟨rfl, by (repeat (first | (with_reducible exact New.refl _) | (with_reducible assumption) | ((with_reducible refine New.setB ?_ ?_ _); focus (first | omega | (simp; omega) | (simp; done))) | (with_reducible refine New.alloc ?_ _) | (with_reducible refine New.drew ?_) | (with_reducible refine New.drewN ?_ _) | (with_reducible refine New.hat ?_ _) | ((with_reducible apply New.snart); (with_reducible assumption))))⟩
      · rw [holds_no3 h3]
        go_enter Try.func21, Try.ntmps21
        go_wp2
        go_ret
        exact ⟨rfl, by (repeat (first | (with_reducible exact New.refl _) | (with_reducible assumption) | ((with_reducible refine New.setB ?_ ?_ _); focus (first | omega | (simp; omega) | (simp; done))) | (with_reducible refine New.alloc ?_ _) | (with_reducible refine New.drew ?_) | (with_reducible refine New.drewN ?_ _) | (with_reducible refine New.hat ?_ _) | ((with_reducible apply New.snart); (with_reducible assumption))))⟩
    · rw [holds_no2 h2]
      go_enter Try.func21, Try.ntmps21
      go_wp2
      go_ret
      exact ⟨rfl, by (repeat (first | (with_reducible exact New.refl _) | (with_reducible assumption) | ((with_reducible refine New.setB ?_ ?_ _); focus (first | omega | (simp; omega) | (simp; done))) | (with_reducible refine New.alloc ?_ _) | (with_reducible refine New.drew ?_) | (with_reducible refine New.drewN ?_ _) | (with_reducible refine New.hat ?_ _) | ((with_reducible apply New.snart); (with_reducible assumption))))⟩
  · rw [holds_no1 h1]
    go_enter Try.func21, Try.ntmps21
    go_wp2
    go_ret
    exact ⟨rfl, by (repeat (first | (with_reducible exact New.refl _) | (with_reducible assumption) | ((with_reducible refine New.setB ?_ ?_ _); focus (first | omega | (simp; omega) | (simp; done))) | (with_reducible refine New.alloc ?_ _) | (with_reducible refine New.drew ?_) | (with_reducible refine New.drewN ?_ _) | (with_reducible refine New.hat ?_ _) | ((with_reducible apply New.snart); (with_reducible assumption))))⟩

/-- What the law of points leans on: L is told. -/
theorem told_holds {ax az bx bz : Int} (h : okB ax az bx bz = true) {k n : Int} (hn : 1 ≤ n) (hn2 : n ≤ 100) (hk0 : 0 ≤ k) (hk : k ≤ n) {px pz : Int} (hx : px * n = ax * n + (bx - ax) * k) (hz : pz * n = az * n + (bz - az) * k) :
    (∀ c ∈ told ax az bx bz, (!lessB k n c.m.fn c.m.fd && !lessB c.m.ln c.m.ld k n) = holdsB c.x c.z px pz) ∧ (told ax az bx bz).any (fun c => holdsB c.x c.z px pz) = true := by
  have hL : told ax az bx bz = cellsL ax.toNat az.toNat bx.toNat bz.toNat := by unfold told; rw [if_pos h]
  unfold okB at h
  rw [Bool.and_eq_true] at h
  obtain ⟨pa1, pa2⟩ := ptB_iff.1 h.1
  obtain ⟨pb1, pb2⟩ := ptB_iff.1 h.2
  obtain ⟨ax, rfl⟩ : ∃ u : Nat, ax = u := ⟨ax.toNat, by omega⟩
  obtain ⟨az, rfl⟩ : ∃ u : Nat, az = u := ⟨az.toNat, by omega⟩
  obtain ⟨bx, rfl⟩ : ∃ u : Nat, bx = u := ⟨bx.toNat, by omega⟩
  obtain ⟨bz, rfl⟩ : ∃ u : Nat, bz = u := ⟨bz.toNat, by omega⟩
  obtain ⟨k, rfl⟩ : ∃ u : Nat, k = u := ⟨k.toNat, by omega⟩
  obtain ⟨n, rfl⟩ : ∃ u : Nat, n = u := ⟨n.toNat, by omega⟩
  simp only [Int.toNat_natCast] at hL
  rw [hL]
  refine ⟨fun c hc => hold_iff hc (by omega) (by omega) (by omega) hx hz, ?_⟩
  obtain ⟨c, hc, hh⟩ := hold_some (ax := ax) (az := az) (bx := bx) (bz := bz) (by omega) (by omega) (by omega) (by omega) hx hz
  exact List.any_eq_true.2 ⟨c, hc, hh⟩

end Go.Proofs.Ytmpkciidhopckaa
