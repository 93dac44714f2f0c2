/- The document's own Abs, Greatest; fractions in lowest terms as the document brings them there. -/
import Derived.Test.YtmpkciidhopckaaTriF
namespace Go.Proofs.Ytmpkciidhopckaa
open Go.RowKit
set_option linter.unusedVariables false

set_option maxHeartbeats 400000 in
theorem r_abs (n : Int) (w : World) (h : -4611686018427387904 ≤ n ∧ n ≤ 4611686018427387904) :
    Calls Try.prog 43 #[.int .i64 n] w fun e w' => e = .returned (.int .i64 (n.natAbs : Int)) ∧ w = w' := by
  obtain ⟨m, hm⟩ : ∃ m : Int, m = (n.natAbs : Int) := ⟨_, rfl⟩
  rw [← hm]
  have hm' : Hid (max n (-n) = m) := by show _ = m; omega
  clear hm
  go_enter Try.func43, Try.ntmps43
  go_wp2
  go_ret
  exact ⟨retI hm'.out, rfl⟩

set_option maxHeartbeats 2000000 in
theorem r_greatest (n d : Nat) (w : World) (hn : n ≤ 4611686018427387904) (hd : d ≤ 4611686018427387904) :
    Calls Try.prog 56 #[.int .i64 n, .int .i64 d] w fun e w' => e = .returned (.int .i64 (Nat.gcd d n : Nat)) ∧ New w w' := by
  obtain ⟨G, hG⟩ : ∃ G, G = Nat.gcd d n := ⟨_, rfl⟩
  rw [← hG]
  have HG : Hid _ := hG
  clear hG
  go_enter Try.func56, Try.ntmps56
  go_wp2_with fail
  go_loopg [0, 1] d (fun kx s0 s1 wr => ∃ a b : Nat, s0 = .int .i64 a ∧ s1 = .int .i64 b ∧ b ≤ kx ∧ a ≤ 4611686018427387904 ∧ b ≤ 4611686018427387904 ∧ Hid (Nat.gcd b a = G) ∧ New w wr)
  case atStart => exact ⟨n, d, rfl, rfl, Nat.le_refl _, hn, hd, HG.out.symm, New.refl _⟩
  case round =>
    obtain ⟨a, b, rfl, rfl, hk, ha, hb, hg, hn1⟩ := hrel
    by_cases h0 : b = 0
    · subst h0
      have hgc : Hid (G = a) := by show G = a; rw [← hg.out, Nat.gcd_zero_left]
      clear hg HG
      go_wp2_with fail
      go_ret
      rw [hgc.out]
      exact ⟨rfl, hn1⟩
    · have hz : ((b : Int) == 0) = false := by rw [beq_eq_false_iff_ne]; omega
      have q1 : (a : Int).tmod (b : Int) = ((a % b : Nat) : Int) := by rw [Int.tmod_eq_emod_of_nonneg (by omega)]; rfl
      have hlt : a % b < b := Nat.mod_lt _ (by omega)
      have hg' : Hid (Nat.gcd (a % b) b = G) := by show _ = G; rw [← hg.out, ← Nat.gcd_rec]
      clear hg HG
      go_wp2_with fail
      go_roundg (a % b)
      case measure => omega
      case rel => exact ⟨b, a % b, rfl, rfl, Nat.le_refl _, hb, by omega, hg', by (repeat (first | (with_reducible exact New.refl _) | (with_reducible assumption) | ((with_reducible refine New.setB ?_ ?_ _); focus (first | omega | (simp; omega) | (simp; done))) | (with_reducible refine New.alloc ?_ _) | (with_reducible refine New.drew ?_) | (with_reducible refine New.drewN ?_ _) | (with_reducible refine New.hat ?_ _) | ((with_reducible apply New.snart); (with_reducible assumption))))⟩

theorem low_r {n d : Int} (hd : d ≠ 0) : (if d < 0 then -n else n).tdiv (Nat.gcd d.natAbs n.natAbs : Nat) = lowN n d ∧ (d.natAbs : Int).tdiv (Nat.gcd d.natAbs n.natAbs : Nat) = lowD n d ∧ 0 < Nat.gcd d.natAbs n.natAbs := by
  obtain ⟨q0, h1, h2⟩ := low_div (n := n) hd rfl
  have hg : 0 < Int.gcd d n := Int.gcd_pos_of_ne_zero_left n hd
  have hge : Nat.gcd d.natAbs n.natAbs = Int.gcd d n := rfl
  rw [hge]
  refine ⟨?_, ?_, hg⟩
  · rw [← h1]
    rcases Int.lt_trichotomy d 0 with h | h | h
    · rw [if_pos h, Int.sign_eq_neg_one_of_neg h, show (-1 : Int) * (Int.gcd d n : Int) = -(Int.gcd d n : Int) by omega, Int.tdiv_neg, Int.neg_tdiv]
    · exact absurd h hd
    · rw [if_neg (by omega), Int.sign_eq_one_of_pos h, Int.one_mul]
  · rw [← h2]
    rcases Int.lt_trichotomy d 0 with h | h | h
    · rw [Int.sign_eq_neg_one_of_neg h, show (-1 : Int) * (Int.gcd d n : Int) = -(Int.gcd d n : Int) by omega, Int.tdiv_neg, show (d.natAbs : Int) = -d by omega, Int.neg_tdiv]
    · exact absurd h hd
    · rw [Int.sign_eq_one_of_pos h, Int.one_mul, show (d.natAbs : Int) = d by omega]

end Go.Proofs.Ytmpkciidhopckaa
