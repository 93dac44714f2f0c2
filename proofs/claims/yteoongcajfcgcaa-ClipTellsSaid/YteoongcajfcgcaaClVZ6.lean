import Derived.Test.YteoongcajfcgcaaTriFZ6
import Derived.Test.YteoongcajfcgcaaClTZ6

/- The document's own Abs, Greatest; fractions in lowest terms as the document brings them there. -/
namespace Go.Proofs.Yteoongcajfcgcaa
open Go.RowKit
set_option linter.unusedVariables false

set_option maxHeartbeats 400000 in
theorem r_abs (n : Int) (w : World) (h : -4611686018427387904 ≤ n ∧ n ≤ 4611686018427387904) :
    Calls Try.prog 56 #[.int .i64 n] w fun e w' => e = .returned (.int .i64 (n.natAbs : Int)) ∧ w = w' := by
  obtain ⟨m, hm⟩ : ∃ m : Int, m = (n.natAbs : Int) := ⟨_, rfl⟩
  rw [← hm]
  have hm' : Hid (max n (-n) = m) := by show _ = m; omega
  clear hm
  go_enter Try.func56, Try.ntmps56
  go_wp2
  go_ret
  exact ⟨retI hm'.out, rfl⟩

set_option maxHeartbeats 2000000 in
theorem r_greatest (n d : Nat) (w : World) (hn : n ≤ 4611686018427387904) (hd : d ≤ 4611686018427387904) :
    Calls Try.prog 55 #[.int .i64 n, .int .i64 d] w fun e w' => e = .returned (.int .i64 (Nat.gcd d n : Nat)) ∧ New w w' := by
  obtain ⟨G, hG⟩ : ∃ G, G = Nat.gcd d n := ⟨_, rfl⟩
  rw [← hG]
  have HG : Hid _ := hG
  clear hG
  go_enter Try.func55, Try.ntmps55
  go_wp2_with fail
  go_loopg [0, 1] d (fun kx s0 s1 wr => ∃ a b : Nat, s0 = .int .i64 a ∧ s1 = .int .i64 b ∧ b ≤ kx ∧ a ≤ 4611686018427387904 ∧ b ≤ 4611686018427387904 ∧ Hid (Nat.gcd b a = G) ∧ New w wr)
  case atStart => exact ⟨n, d, rfl, rfl, Nat.le_refl _, hn, hd, HG.out.symm, New.refl _⟩
  case round =>
    obtain ⟨a, b, rfl, rfl, hk, ha, hb, hg, hn1⟩ := hrel
    by_cases h0 : b = 0
    · subst h0
      have hgc : Hid (G = a) := by show G = a; rw [← hg.out, Nat.gcd_zero_left]
      clear hg HG
      go_wp2_with fail
      go_ret
      rw [hgc.out]
      exact ⟨rfl, hn1⟩
    · have hz : ((b : Int) == 0) = false := by rw [beq_eq_false_iff_ne]; omega
      have q1 : (a : Int).tmod (b : Int) = ((a % b : Nat) : Int) := by rw [Int.tmod_eq_emod_of_nonneg (by omega)]; rfl
      have hlt : a % b < b := Nat.mod_lt _ (by omega)
      have hg' : Hid (Nat.gcd (a % b) b = G) := by show _ = G; rw [← hg.out, ← Nat.gcd_rec]
      clear hg HG
      go_wp2_with fail
      go_roundg (a % b)
      case measure => omega
      case rel => exact ⟨b, a % b, rfl, rfl, Nat.le_refl _, hb, by omega, hg', by (repeat (first | (with_reducible exact New.refl _) | (with_reducible assumption) | ((with_reducible refine New.setB ?_ ?_ _); focus (first | omega | (simp; omega) | (simp; done))) | (with_reducible refine New.alloc ?_ _) | (with_reducible refine New.drew ?_) | (with_reducible refine New.drewN ?_ _) | (with_reducible refine New.hat ?_ _) | ((with_reducible apply New.snart); (with_reducible assumption))))⟩

theorem low_r {n d : Int} (hd : d ≠ 0) : (if d < 0 then -n else n).tdiv (Nat.gcd d.natAbs n.natAbs : Nat) = lowN n d ∧ (d.natAbs : Int).tdiv (Nat.gcd d.natAbs n.natAbs : Nat) = lowD n d ∧ 0 < Nat.gcd d.natAbs n.natAbs := by
  obtain ⟨q0, h1, h2⟩ := low_div (n := n) hd rfl
  have hg : 0 < Int.gcd d n := Int.gcd_pos_of_ne_zero_left n hd
  have hge : Nat.gcd d.natAbs n.natAbs = Int.gcd d n := rfl
  rw [hge]
  refine ⟨?_, ?_, hg⟩
  · rw [← h1]
    rcases Int.lt_trichotomy d 0 with h | h | h
    · rw [if_pos h, Int.sign_eq_neg_one_of_neg h, show (-1 : Int) * (Int.gcd d n : Int) = -(Int.gcd d n : Int) by omega, Int.tdiv_neg, Int.neg_tdiv]
    · exact absurd h hd
    · rw [if_neg (by omega), Int.sign_eq_one_of_pos h, Int.one_mul]
  · rw [← h2]
    rcases Int.lt_trichotomy d 0 with h | h | h
    · rw [Int.sign_eq_neg_one_of_neg h, show (-1 : Int) * (Int.gcd d n : Int) = -(Int.gcd d n : Int) by omega, Int.tdiv_neg, show (d.natAbs : Int) = -d by omega, Int.neg_tdiv]
    · exact absurd h hd
    · rw [Int.sign_eq_one_of_pos h, Int.one_mul, show (d.natAbs : Int) = d by omega]

end Go.Proofs.Yteoongcajfcgcaa

/- The document's own corners over a column, in plain numbers. -/
namespace Go.Proofs.Yteoongcajfcgcaa
open Go.RowKit
set_option linter.unusedVariables false

/-- The document's corner at (px / den, pz / den). -/
def rcK (T : TriR) : Int := ((tny T).natAbs : Int)
def rcY (T : TriR) (px pz den : Int) : Int := if flatI T < 0 then -(T.y0 * flatI T * den + tnx T * (px - T.x0 * den) + tnz T * (pz - T.z0 * den)) else T.y0 * flatI T * den + tnx T * (px - T.x0 * den) + tnz T * (pz - T.z0 * den)
def rcC (T : TriR) (px pz den : Int) : Co := low (px * rcK T) (pz * rcK T) (rcY T px pz den) (rcK T * den)

theorem flat_ny (T : TriR) : flatI T = -tny T := by unfold flatI tny nyI; grind
theorem rcK_eq (T : TriR) : rcK T = if flatI T < 0 then -flatI T else flatI T := by unfold rcK; rw [flat_ny]; split <;> omega
theorem rcK_pos {T : TriR} (hk : okT T = true) : 1 ≤ rcK T ∧ rcK T ≤ 2048 := by
  have h1 := ok_ny hk
  have h2 := (nI_bd (ok_in hk)).2.1
  have h3 : -2048 ≤ tny T ∧ tny T ≤ 2048 := h2
  unfold rcK; omega
theorem rc_d {T : TriR} (hk : okT T = true) {den : Int} (hd : 1 ≤ den) : rcK T * den ≠ 0 := by
  have := Int.mul_pos (show 0 < rcK T by have := rcK_pos hk; omega) (show 0 < den by omega)
  omega
theorem rc_prim {T : TriR} (hk : okT T = true) {px pz den : Int} (hd : 1 ≤ den) : Prim (rcC T px pz den) := low_prim (rc_d hk hd)
theorem rc_at {T : TriR} (hk : okT T = true) {px pz den : Int} (hd : 1 ≤ den) : (rcC T px pz den).x * den = px * (rcC T px pz den).d ∧ (rcC T px pz den).z * den = pz * (rcC T px pz den).d ∧ (rcC T px pz den).y * (rcK T * den) = rcY T px pz den * (rcC T px pz den).d := by
  obtain ⟨h1, h2, h3⟩ := low_at (x := px * rcK T) (z := pz * rcK T) (y := rcY T px pz den) (rc_d hk hd)
  have hk0 : rcK T ≠ 0 := by have := rcK_pos hk; omega
  refine ⟨?_, ?_, h3⟩
  · apply Int.eq_of_mul_eq_mul_left hk0
    show rcK T * ((low _ _ _ _).x * den) = rcK T * (px * (low _ _ _ _).d)
    generalize low _ _ _ _ = c at *
    grind
  · apply Int.eq_of_mul_eq_mul_left hk0
    show rcK T * ((low _ _ _ _).z * den) = rcK T * (pz * (low _ _ _ _).d)
    generalize low _ _ _ _ = c at *
    grind
theorem rc_pl {T : TriR} (hk : okT T = true) {px pz den : Int} (hd : 1 ≤ den) : Pl T (rcC T px pz den) := by
  obtain ⟨h1, h2, h3⟩ := rc_at (px := px) (pz := pz) hk hd
  have hd0 : den ≠ 0 := by omega
  unfold Pl
  apply Int.eq_of_mul_eq_mul_right hd0
  unfold rcY at h3
  rw [rcK_eq, flat_ny] at h3
  generalize rcC T px pz den = c at *
  generalize tny T = n at *
  generalize tnx T = k at *
  generalize tnz T = m at *
  have e1 : (n * T.y0 * c.d - k * (c.x - T.x0 * c.d) - m * (c.z - T.z0 * c.d)) * den = n * T.y0 * c.d * den - k * (c.x * den - T.x0 * c.d * den) - m * (c.z * den - T.z0 * c.d * den) := by clear h1 h2 h3; grind
  rw [e1, h1, h2]
  split at h3
  · clear h1 h2 e1 hd0; grind
  · clear h1 h2 e1 hd0; grind

/-- Where a side's axis comes to n, as a share. -/
def rcr (a b n : Int) : Option (Int × Int) := if a = b ∨ n < min a b ∨ max a b < n then none else if a < b then some (n - a, b - a) else some (a - n, a - b)
def inR (n den lo hi : Int) : Bool := decide (lo * den ≤ n) && decide (n ≤ hi * den)

def rA (T : TriR) (px pz : Int) : List Co := if insB T px pz then [rcC T px pz 1] else []
def rV (T : TriR) (x z : Int) (s : Sd) : List Co := if inR s.ax 1 x (x + 1) && inR s.az 1 z (z + 1) then [rcC T s.ax s.az 1] else []
def rX (T : TriR) (z n : Int) (s : Sd) : List Co := match rcr s.ax s.bx n with
  | some (p, q) => if inR (s.az * q + (s.bz - s.az) * p) q z (z + 1) then [rcC T (n * q) (s.az * q + (s.bz - s.az) * p) q] else []
  | none => []
def rZ (T : TriR) (x n : Int) (s : Sd) : List Co := match rcr s.az s.bz n with
  | some (p, q) => if inR (s.ax * q + (s.bx - s.ax) * p) q x (x + 1) then [rcC T (s.ax * q + (s.bx - s.ax) * p) (n * q) q] else []
  | none => []
def rS (T : TriR) (x z : Int) (s : Sd) : List Co := rV T x z s ++ rX T z x s ++ rZ T x z s ++ rX T z (x + 1) s ++ rZ T x (z + 1) s
def refL (T : TriR) (x z : Int) : List Co := rA T x z ++ rA T (x + 1) z ++ rA T x (z + 1) ++ rA T (x + 1) (z + 1) ++ rS T x z (side T 0) ++ rS T x z (side T 1) ++ rS T x z (side T 2)

theorem rc_ab {T : TriR} (hk : okT T = true) {px pz : Int} (hx : -64 ≤ px ∧ px ≤ 64) (hz : -64 ≤ pz ∧ pz ≤ 64) : rcC T px pz 1 = abC T px pz := by
  obtain ⟨h1, h2, -⟩ := rc_at (px := px) (pz := pz) (den := 1) hk (by omega)
  refine pl_one (ok_ny hk) (rc_pl hk (by omega)) (abC_pl hk hx hz) (rc_prim hk (by omega)) (abC_prim hk hx hz) ?_ ?_
  · show (rcC T px pz 1).x * hdT T px pz = px * hdT T px pz * (rcC T px pz 1).d
    rw [Int.mul_one] at h1
    rw [h1]; grind
  · show (rcC T px pz 1).z * hdT T px pz = pz * hdT T px pz * (rcC T px pz 1).d
    rw [Int.mul_one] at h2
    rw [h2]; grind

theorem sg_iff {p q : Int} : p.sign ≠ q.sign ↔ p - q ≠ 0 ∧ ((0 ≤ p ∧ q ≤ 0) ∨ (p ≤ 0 ∧ 0 ≤ q)) := ⟨sg_ne, fun h => sg_of h.1 h.2⟩
theorem rcr_some {a b n : Int} (h : (a - n).sign ≠ (b - n).sign) : ∃ p q, rcr a b n = some (p, q) ∧ 1 ≤ q ∧ ((p = n - a ∧ q = b - a) ∨ (p = a - n ∧ q = a - b)) := by
  obtain ⟨h1, h2⟩ := sg_iff.1 h
  unfold rcr
  rw [if_neg (by omega)]
  split
  · exact ⟨_, _, rfl, by omega, .inl ⟨rfl, rfl⟩⟩
  · exact ⟨_, _, rfl, by omega, .inr ⟨rfl, rfl⟩⟩
theorem rcr_none {a b n : Int} (h : (a - n).sign = (b - n).sign) : rcr a b n = none := by
  unfold rcr
  split
  · rfl
  · rename_i hn
    exfalso
    exact (sg_iff (p := a - n) (q := b - n)).2 (by omega) h

theorem between_iff {c d q a z : Int} (hd : 0 < d) (hq : 0 < q) (h : c * q = a * d) : (z * q ≤ a ↔ z * d ≤ c) ∧ (a ≤ z * q ↔ c ≤ z * d) := by
  have e1 : z * q * d = z * d * q := by grind
  constructor
  · constructor
    · intro k
      have := Int.mul_le_mul_of_nonneg_right k (Int.le_of_lt hd)
      rw [e1, ← h] at this
      exact Int.le_of_mul_le_mul_right this hq
    · intro k
      have := Int.mul_le_mul_of_nonneg_right k (Int.le_of_lt hq)
      rw [← e1, h] at this
      exact Int.le_of_mul_le_mul_right this hd
  · constructor
    · intro k
      have := Int.mul_le_mul_of_nonneg_right k (Int.le_of_lt hd)
      rw [e1, ← h] at this
      exact Int.le_of_mul_le_mul_right this hq
    · intro k
      have := Int.mul_le_mul_of_nonneg_right k (Int.le_of_lt hq)
      rw [← e1, h] at this
      exact Int.le_of_mul_le_mul_right this hd
theorem inR_iff {c d q a z : Int} (hd : 0 < d) (hq : 0 < q) (h : c * q = a * d) : inR a q z (z + 1) = true ↔ z * d ≤ c ∧ c ≤ (z + 1) * d := by
  unfold inR
  rw [Bool.and_eq_true, decide_eq_true_eq, decide_eq_true_eq, (between_iff hd hq h).1, (between_iff hd hq h).2]

/-- What is told of a crossing with x = n. -/
theorem mem_rX {T : TriR} (hk : okT T = true) {z n : Int} (i : Nat) {c : Co} : c ∈ rX T z n (side T i) ↔ ((side T i).p ⟨1, 0, n⟩).sign ≠ ((side T i).q ⟨1, 0, n⟩).sign ∧ c = crC (side T i) ⟨1, 0, n⟩ ∧ z * c.d ≤ c.z ∧ c.z ≤ (z + 1) * c.d := by
  have ep : (side T i).p ⟨1, 0, n⟩ = (side T i).ax - n := by show 1 * _ + 0 * _ - n = _; omega
  have eq : (side T i).q ⟨1, 0, n⟩ = (side T i).bx - n := by show 1 * _ + 0 * _ - n = _; omega
  rw [ep, eq]
  by_cases hs : ((side T i).ax - n).sign = ((side T i).bx - n).sign
  · unfold rX
    rw [rcr_none hs]
    simp [hs]
  · obtain ⟨p, q, e, hq, hpq⟩ := rcr_some hs
    have hs' : ((side T i).p ⟨1, 0, n⟩).sign ≠ ((side T i).q ⟨1, 0, n⟩).sign := by rw [ep, eq]; exact hs
    obtain ⟨hp, hx, hz, -⟩ := crC_at hs'
    have hcv := crC_cv i hs'
    rw [ep, eq] at hx hz
    have hne := (sg_ne hs).1
    have z1 : (crC (side T i) ⟨1, 0, n⟩).z * q = ((side T i).az * q + ((side T i).bz - (side T i).az) * p) * (crC (side T i) ⟨1, 0, n⟩).d := by
      apply Int.eq_of_mul_eq_mul_right hne
      generalize crC (side T i) ⟨1, 0, n⟩ = k at *
      generalize side T i = s at *
      have e2 : k.z * q * (s.ax - n - (s.bx - n)) = (k.z * (s.ax - n - (s.bx - n))) * q := by clear hz hx hpq hne; grind
      rw [e2, hz]
      rcases hpq with ⟨rfl, rfl⟩ | ⟨rfl, rfl⟩ <;> (clear hz hx e2 hne; grind)
    have x1 : (crC (side T i) ⟨1, 0, n⟩).x * q = n * q * (crC (side T i) ⟨1, 0, n⟩).d := by
      apply Int.eq_of_mul_eq_mul_right hne
      generalize crC (side T i) ⟨1, 0, n⟩ = k at *
      generalize side T i = s at *
      have e2 : k.x * q * (s.ax - n - (s.bx - n)) = (k.x * (s.ax - n - (s.bx - n))) * q := by clear hz hx hpq hne z1; grind
      rw [e2, hx]
      clear hz hx e2 hne z1 hpq
      grind
    have er : rcC T (n * q) ((side T i).az * q + ((side T i).bz - (side T i).az) * p) q = crC (side T i) ⟨1, 0, n⟩ := by
      obtain ⟨r1, r2, -⟩ := rc_at (T := T) (px := n * q) (pz := (side T i).az * q + ((side T i).bz - (side T i).az) * p) (den := q) hk hq
      refine pl_one (ok_ny hk) (rc_pl hk hq) (pl_of_cv hcv) (rc_prim hk hq) hp ?_ ?_
      · exact frac_eq (by omega) r1 x1.symm
      · exact frac_eq (by omega) r2 z1.symm
    unfold rX
    rw [e]
    simp only []
    rw [er]
    have hi := inR_iff (z := z) hp.1 (by omega) z1
    by_cases hin : inR ((side T i).az * q + ((side T i).bz - (side T i).az) * p) q z (z + 1) = true
    · rw [if_pos hin, List.mem_singleton]
      constructor
      · rintro rfl; exact ⟨hs, rfl, hi.1 hin⟩
      · rintro ⟨-, h, -⟩; exact h
    · rw [if_neg hin]
      constructor
      · intro h; cases h
      · rintro ⟨-, rfl, h⟩; exact absurd (hi.2 h) hin
theorem mem_rZ {T : TriR} (hk : okT T = true) {x n : Int} (i : Nat) {c : Co} : c ∈ rZ T x n (side T i) ↔ ((side T i).p ⟨0, 1, n⟩).sign ≠ ((side T i).q ⟨0, 1, n⟩).sign ∧ c = crC (side T i) ⟨0, 1, n⟩ ∧ x * c.d ≤ c.x ∧ c.x ≤ (x + 1) * c.d := by
  have ep : (side T i).p ⟨0, 1, n⟩ = (side T i).az - n := by show 0 * _ + 1 * _ - n = _; omega
  have eq : (side T i).q ⟨0, 1, n⟩ = (side T i).bz - n := by show 0 * _ + 1 * _ - n = _; omega
  rw [ep, eq]
  by_cases hs : ((side T i).az - n).sign = ((side T i).bz - n).sign
  · unfold rZ
    rw [rcr_none hs]
    simp [hs]
  · obtain ⟨p, q, e, hq, hpq⟩ := rcr_some hs
    have hs' : ((side T i).p ⟨0, 1, n⟩).sign ≠ ((side T i).q ⟨0, 1, n⟩).sign := by rw [ep, eq]; exact hs
    obtain ⟨hp, hx, hz, -⟩ := crC_at hs'
    have hcv := crC_cv i hs'
    rw [ep, eq] at hx hz
    have hne := (sg_ne hs).1
    have x1 : (crC (side T i) ⟨0, 1, n⟩).x * q = ((side T i).ax * q + ((side T i).bx - (side T i).ax) * p) * (crC (side T i) ⟨0, 1, n⟩).d := by
      apply Int.eq_of_mul_eq_mul_right hne
      generalize crC (side T i) ⟨0, 1, n⟩ = k at *
      generalize side T i = s at *
      have e2 : k.x * q * (s.az - n - (s.bz - n)) = (k.x * (s.az - n - (s.bz - n))) * q := by clear hz hx hpq hne; grind
      rw [e2, hx]
      rcases hpq with ⟨rfl, rfl⟩ | ⟨rfl, rfl⟩ <;> (clear hz hx e2 hne; grind)
    have z1 : (crC (side T i) ⟨0, 1, n⟩).z * q = n * q * (crC (side T i) ⟨0, 1, n⟩).d := by
      apply Int.eq_of_mul_eq_mul_right hne
      generalize crC (side T i) ⟨0, 1, n⟩ = k at *
      generalize side T i = s at *
      have e2 : k.z * q * (s.az - n - (s.bz - n)) = (k.z * (s.az - n - (s.bz - n))) * q := by clear hz hx hpq hne x1; grind
      rw [e2, hz]
      clear hz hx e2 hne x1 hpq
      grind
    have er : rcC T ((side T i).ax * q + ((side T i).bx - (side T i).ax) * p) (n * q) q = crC (side T i) ⟨0, 1, n⟩ := by
      obtain ⟨r1, r2, -⟩ := rc_at (T := T) (px := (side T i).ax * q + ((side T i).bx - (side T i).ax) * p) (pz := n * q) (den := q) hk hq
      refine pl_one (ok_ny hk) (rc_pl hk hq) (pl_of_cv hcv) (rc_prim hk hq) hp ?_ ?_
      · exact frac_eq (by omega) r1 x1.symm
      · exact frac_eq (by omega) r2 z1.symm
    unfold rZ
    rw [e]
    simp only []
    rw [er]
    have hi := inR_iff (z := x) hp.1 (by omega) x1
    by_cases hin : inR ((side T i).ax * q + ((side T i).bx - (side T i).ax) * p) q x (x + 1) = true
    · rw [if_pos hin, List.mem_singleton]
      constructor
      · rintro rfl; exact ⟨hs, rfl, hi.1 hin⟩
      · rintro ⟨-, h, -⟩; exact h
    · rw [if_neg hin]
      constructor
      · intro h; cases h
      · rintro ⟨-, rfl, h⟩; exact absurd (hi.2 h) hin

end Go.Proofs.Yteoongcajfcgcaa
