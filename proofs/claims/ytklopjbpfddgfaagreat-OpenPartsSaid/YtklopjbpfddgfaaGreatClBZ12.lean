import Derived.Test.YtklopjbpfddgfaaGreatClAZ12
import Derived.Test.YtklopjbpfddgfaaGreatTriGZ12
import Derived.Test.YtklopjbpfddgfaaGreatSpPZ12

/- What lies over a column, in plain numbers: a triangle's points above the square's corners, its sides' crossings. No function of the program in sight. -/
namespace Go.Proofs.YtklopjbpfddgfaaGreat
open Go.RowKit
set_option linter.unusedVariables false

def okT (T : TriR) : Bool := okB T.x0 T.y0 T.z0 T.x1 T.y1 T.z1 T.x2 T.y2 T.z2
def tnx (T : TriR) : Int := nxI T.x0 T.y0 T.z0 T.x1 T.y1 T.z1 T.x2 T.y2 T.z2
def tny (T : TriR) : Int := nyI T.x0 T.y0 T.z0 T.x1 T.y1 T.z1 T.x2 T.y2 T.z2
def tnz (T : TriR) : Int := nzI T.x0 T.y0 T.z0 T.x1 T.y1 T.z1 T.x2 T.y2 T.z2
def hnT (T : TriR) (px pz : Int) : Int := heightN px pz T.x0 T.y0 T.z0 T.x1 T.y1 T.z1 T.x2 T.y2 T.z2
def hdT (T : TriR) (px pz : Int) : Int := heightD px pz T.x0 T.y0 T.z0 T.x1 T.y1 T.z1 T.x2 T.y2 T.z2

/-- The point is a mean of the corners. -/
def Cv (T : TriR) (c : Co) : Prop := ∃ u0 u1 u2 : Int, 0 ≤ u0 ∧ 0 ≤ u1 ∧ 0 ≤ u2 ∧ 0 < u0 + u1 + u2 ∧
  (u0 + u1 + u2) * c.x = c.d * (u0 * T.x0 + u1 * T.x1 + u2 * T.x2) ∧ (u0 + u1 + u2) * c.z = c.d * (u0 * T.z0 + u1 * T.z1 + u2 * T.z2) ∧ (u0 + u1 + u2) * c.y = c.d * (u0 * T.y0 + u1 * T.y1 + u2 * T.y2)

/-- It lies in the triangle's plane. -/
def Pl (T : TriR) (c : Co) : Prop := tny T * c.y = tny T * T.y0 * c.d - tnx T * (c.x - T.x0 * c.d) - tnz T * (c.z - T.z0 * c.d)

theorem pl_of_cv {T : TriR} {c : Co} (h : Cv T c) : Pl T c := by
  obtain ⟨u0, u1, u2, -, -, -, hw, hx, hz, hy⟩ := h
  unfold Pl tnx tny tnz nxI nyI nzI
  obtain ⟨i, x0, y0, z0, x1, y1, z1, x2, y2, z2⟩ := T
  obtain ⟨x, z, y, d⟩ := c
  simp only at *
  have hw0 : u0 + u1 + u2 ≠ 0 := by omega
  apply Int.eq_of_mul_eq_mul_left hw0
  grind

/-- Two points of the plane, one above the other, are one. -/
theorem pl_one {T : TriR} {a b : Co} (hn : tny T ≠ 0) (ha : Pl T a) (hb : Pl T b) (pa : Prim a) (pb : Prim b) (hx : a.x * b.d = b.x * a.d) (hz : a.z * b.d = b.z * a.d) : a = b := by
  refine prim_one pa pb hx hz ?_
  unfold Pl at ha hb
  apply Int.eq_of_mul_eq_mul_left hn
  generalize tny T = n at *
  generalize tnx T = k at *
  generalize tnz T = m at *
  obtain ⟨x, z, y, d⟩ := a
  obtain ⟨x', z', y', d'⟩ := b
  simp only at *
  grind

theorem mean_le {u0 u1 u2 c d v0 v1 v2 m : Int} (h0 : 0 ≤ u0) (h1 : 0 ≤ u1) (h2 : 0 ≤ u2) (hw : 0 < u0 + u1 + u2) (hd : 0 < d) (h : (u0 + u1 + u2) * c = d * (u0 * v0 + u1 * v1 + u2 * v2)) (k0 : v0 ≤ m) (k1 : v1 ≤ m) (k2 : v2 ≤ m) : c ≤ m * d := by
  have e0 := Int.mul_le_mul_of_nonneg_left k0 h0
  have e1 := Int.mul_le_mul_of_nonneg_left k1 h1
  have e2 := Int.mul_le_mul_of_nonneg_left k2 h2
  have e3 : u0 * v0 + u1 * v1 + u2 * v2 ≤ (u0 + u1 + u2) * m := by grind
  have e4 := Int.mul_le_mul_of_nonneg_left e3 (Int.le_of_lt hd)
  have e5 : (u0 + u1 + u2) * c ≤ (u0 + u1 + u2) * (m * d) := by rw [h]; grind
  exact Int.le_of_mul_le_mul_left e5 hw
theorem mean_ge {u0 u1 u2 c d v0 v1 v2 m : Int} (h0 : 0 ≤ u0) (h1 : 0 ≤ u1) (h2 : 0 ≤ u2) (hw : 0 < u0 + u1 + u2) (hd : 0 < d) (h : (u0 + u1 + u2) * c = d * (u0 * v0 + u1 * v1 + u2 * v2)) (k0 : m ≤ v0) (k1 : m ≤ v1) (k2 : m ≤ v2) : m * d ≤ c := by
  have := mean_le (c := -c) (v0 := -v0) (v1 := -v1) (v2 := -v2) (m := -m) h0 h1 h2 hw hd (by grind) (by omega) (by omega) (by omega)
  rw [Int.neg_mul] at this
  omega
theorem cv_y {T : TriR} {c : Co} (h : Cv T c) (hd : 0 < c.d) {a b : Int} (k0 : a ≤ T.y0 ∧ T.y0 ≤ b) (k1 : a ≤ T.y1 ∧ T.y1 ≤ b) (k2 : a ≤ T.y2 ∧ T.y2 ≤ b) : a * c.d ≤ c.y ∧ c.y ≤ b * c.d := by
  obtain ⟨u0, u1, u2, h0, h1, h2, hw, hx, hz, hy⟩ := h
  exact ⟨mean_ge h0 h1 h2 hw hd hy k0.1 k1.1 k2.1, mean_le h0 h1 h2 hw hd hy k0.2 k1.2 k2.2⟩
theorem cv_x {T : TriR} {c : Co} (h : Cv T c) (hd : 0 < c.d) {a b : Int} (k0 : a ≤ T.x0 ∧ T.x0 ≤ b) (k1 : a ≤ T.x1 ∧ T.x1 ≤ b) (k2 : a ≤ T.x2 ∧ T.x2 ≤ b) : a * c.d ≤ c.x ∧ c.x ≤ b * c.d := by
  obtain ⟨u0, u1, u2, h0, h1, h2, hw, hx, hz, hy⟩ := h
  exact ⟨mean_ge h0 h1 h2 hw hd hx k0.1 k1.1 k2.1, mean_le h0 h1 h2 hw hd hx k0.2 k1.2 k2.2⟩
theorem cv_z {T : TriR} {c : Co} (h : Cv T c) (hd : 0 < c.d) {a b : Int} (k0 : a ≤ T.z0 ∧ T.z0 ≤ b) (k1 : a ≤ T.z1 ∧ T.z1 ≤ b) (k2 : a ≤ T.z2 ∧ T.z2 ≤ b) : a * c.d ≤ c.z ∧ c.z ≤ b * c.d := by
  obtain ⟨u0, u1, u2, h0, h1, h2, hw, hx, hz, hy⟩ := h
  exact ⟨mean_ge h0 h1 h2 hw hd hz k0.1 k1.1 k2.1, mean_le h0 h1 h2 hw hd hz k0.2 k1.2 k2.2⟩

/-! Lattice points. -/
def crI (ax az bx bz px pz : Int) : Int := (bx - ax) * (pz - az) - (bz - az) * (px - ax)
def s0 (T : TriR) (px pz : Int) : Int := crI T.x0 T.z0 T.x1 T.z1 px pz
def s1 (T : TriR) (px pz : Int) : Int := crI T.x1 T.z1 T.x2 T.z2 px pz
def s2 (T : TriR) (px pz : Int) : Int := crI T.x2 T.z2 T.x0 T.z0 px pz
/-- Does the triangle hold the point? -/
def insB (T : TriR) (px pz : Int) : Bool := (min (min (min 0 (s0 T px pz)) (s1 T px pz)) (s2 T px pz) == 0) || (max (max (max 0 (s0 T px pz)) (s1 T px pz)) (s2 T px pz) == 0)
theorem insB_iff (T : TriR) (px pz : Int) : insB T px pz = true ↔ (0 ≤ s0 T px pz ∧ 0 ≤ s1 T px pz ∧ 0 ≤ s2 T px pz) ∨ (s0 T px pz ≤ 0 ∧ s1 T px pz ≤ 0 ∧ s2 T px pz ≤ 0) := by
  unfold insB
  simp only [Bool.or_eq_true, beq_iff_eq]
  omega
theorem s_sum (T : TriR) (px pz : Int) : s0 T px pz + s1 T px pz + s2 T px pz = -tny T := by
  unfold s0 s1 s2 crI tny nyI; grind

theorem hT_ok {T : TriR} (hk : okT T = true) {px pz : Int} (hx : -64 ≤ px ∧ px ≤ 64) (hz : -64 ≤ pz ∧ pz ≤ 64) :
    hnT T px pz = lowN (hTop px pz T.x0 T.y0 T.z0 (tnx T) (tny T) (tnz T)) (tny T) ∧ hdT T px pz = lowD (hTop px pz T.x0 T.y0 T.z0 (tnx T) (tny T) (tnz T)) (tny T) ∧ heightE px pz T.x0 T.y0 T.z0 T.x1 T.y1 T.z1 T.x2 T.y2 T.z2 = 0 := by
  unfold okT at hk
  exact height_yes (by unfold hOkB; rw [hk, decide_eq_true hx, decide_eq_true hz]; rfl)

theorem low_two {n d : Int} (hd : d ≠ 0) : low 0 0 n d = ⟨0, 0, lowN n d, lowD n d⟩ := by
  obtain ⟨q0, h1, h2⟩ := low_div (n := n) hd rfl
  have e : cg 0 0 n d = Int.gcd d n := by unfold cg Int.gcd; simp
  unfold low
  rw [e, h1, h2]
  simp
theorem low_gcd {n d : Int} (hd : d ≠ 0) : Nat.gcd (lowD n d).natAbs (lowN n d).natAbs = 1 := by
  have h := (low_prim (x := 0) (z := 0) (y := n) hd).2
  rw [low_two hd] at h
  unfold cg at h
  simpa using h

/-- The point above a lattice point. -/
def abC (T : TriR) (px pz : Int) : Co := ⟨px * hdT T px pz, pz * hdT T px pz, hnT T px pz, hdT T px pz⟩
def aboveO (T : TriR) (p : Int × Int) : Option Co := if insB T p.1 p.2 then some (abC T p.1 p.2) else none

theorem ok_ny {T : TriR} (hk : okT T = true) : tny T ≠ 0 := (ok_st hk).2
theorem ok_in {T : TriR} (hk : okT T = true) : StP 32 32 T.x0 T.y0 T.z0 T.x1 T.y1 T.z1 T.x2 T.y2 T.z2 := (ok_st hk).1

theorem abC_prim {T : TriR} (hk : okT T = true) {px pz : Int} (hx : -64 ≤ px ∧ px ≤ 64) (hz : -64 ≤ pz ∧ pz ≤ 64) : Prim (abC T px pz) := by
  have hn := ok_ny hk
  obtain ⟨e1, e2, -⟩ := hT_ok hk hx hz
  unfold abC
  rw [e1, e2]
  refine ⟨(low_spec hn).1, ?_⟩
  have g := low_gcd (n := hTop px pz T.x0 T.y0 T.z0 (tnx T) (tny T) (tnz T)) hn
  show cg _ _ _ _ = 1
  unfold cg
  simp only []
  generalize lowD _ _ = D at *
  generalize lowN _ _ = N at *
  rw [Int.natAbs_mul, Nat.gcd_mul_left_right, Int.natAbs_mul, Nat.gcd_mul_left_right, g]

theorem abC_pl {T : TriR} (hk : okT T = true) {px pz : Int} (hx : -64 ≤ px ∧ px ≤ 64) (hz : -64 ≤ pz ∧ pz ≤ 64) : Pl T (abC T px pz) := by
  have hn := ok_ny hk
  obtain ⟨e1, e2, -⟩ := hT_ok hk hx hz
  have h := (low_spec (n := hTop px pz T.x0 T.y0 T.z0 (tnx T) (tny T) (tnz T)) hn).2.1
  unfold Pl abC
  rw [e1, e2]
  simp only []
  generalize lowD _ _ = D at *
  generalize lowN _ _ = N at *
  unfold hTop at h
  grind

theorem abC_bd {T : TriR} (hk : okT T = true) {px pz : Int} (hx : -64 ≤ px ∧ px ≤ 64) (hz : -64 ≤ pz ∧ pz ≤ 64) : (1 ≤ hdT T px pz ∧ hdT T px pz ≤ 2048) ∧ (-1073741824 ≤ hnT T px pz ∧ hnT T px pz ≤ 1073741824) := by
  have hn := ok_ny hk
  have hs := ok_in hk
  obtain ⟨bx, by', bz⟩ := nI_bd hs
  obtain ⟨e1, e2, -⟩ := hT_ok hk hx hz
  obtain ⟨l1, -, l2, l3⟩ := low_spec (n := hTop px pz T.x0 T.y0 T.z0 (tnx T) (tny T) (tnz T)) hn
  unfold StP StV at hs
  have p1 := mul_bd (a := T.y0) (b := tny T) (A := 2048) (B := 2048) (by omega) by'
  have p2 := mul_bd (a := tnx T) (b := px - T.x0) (A := 262144) (B := 96) bx (by omega)
  have p3 := mul_bd (a := tnz T) (b := pz - T.z0) (A := 262144) (B := 96) bz (by omega)
  rw [e1, e2]
  have : (tny T).natAbs ≤ 2048 := by unfold tny; omega
  have : (hTop px pz T.x0 T.y0 T.z0 (tnx T) (tny T) (tnz T)).natAbs ≤ 1073741824 := by unfold hTop; omega
  omega

theorem abC_ok {T : TriR} (hk : okT T = true) {px pz : Int} (hx : -64 ≤ px ∧ px ≤ 64) (hz : -64 ≤ pz ∧ pz ≤ 64) : Okc (abC T px pz) := by
  obtain ⟨h1, h2⟩ := abC_bd hk hx hz
  have p1 := mul_bd (a := px) (b := hdT T px pz) (A := 64) (B := 2048) hx (by omega)
  have p2 := mul_bd (a := pz) (b := hdT T px pz) (A := 64) (B := 2048) hz (by omega)
  unfold Okc abC
  simp only []
  omega

theorem cv_of {T : TriR} {c : Co} (hn : tny T ≠ 0) (hp : Pl T c) {u0 u1 u2 : Int} (h0 : 0 ≤ u0) (h1 : 0 ≤ u1) (h2 : 0 ≤ u2) (hw : 0 < u0 + u1 + u2) (hx : (u0 + u1 + u2) * c.x = c.d * (u0 * T.x0 + u1 * T.x1 + u2 * T.x2)) (hz : (u0 + u1 + u2) * c.z = c.d * (u0 * T.z0 + u1 * T.z1 + u2 * T.z2)) : Cv T c := by
  refine ⟨u0, u1, u2, h0, h1, h2, hw, hx, hz, ?_⟩
  apply Int.eq_of_mul_eq_mul_left hn
  unfold Pl at hp
  have e1 : tny T * (T.y1 - T.y0) + tnx T * (T.x1 - T.x0) + tnz T * (T.z1 - T.z0) = 0 := by unfold tnx tny tnz nxI nyI nzI; grind
  have e2 : tny T * (T.y2 - T.y0) + tnx T * (T.x2 - T.x0) + tnz T * (T.z2 - T.z0) = 0 := by unfold tnx tny tnz nxI nyI nzI; grind
  have e3 : tny T * (u0 * T.y0 + u1 * T.y1 + u2 * T.y2) = (u0 + u1 + u2) * (tny T * T.y0) - tnx T * (u0 * T.x0 + u1 * T.x1 + u2 * T.x2 - (u0 + u1 + u2) * T.x0) - tnz T * (u0 * T.z0 + u1 * T.z1 + u2 * T.z2 - (u0 + u1 + u2) * T.z0) := by
    have f1 : u1 * (tny T * (T.y1 - T.y0) + tnx T * (T.x1 - T.x0) + tnz T * (T.z1 - T.z0)) = 0 := by rw [e1, Int.mul_zero]
    have f2 : u2 * (tny T * (T.y2 - T.y0) + tnx T * (T.x2 - T.x0) + tnz T * (T.z2 - T.z0)) = 0 := by rw [e2, Int.mul_zero]
    clear e1 e2 hp hx hz hn
    grind
  have e4 : tny T * ((u0 + u1 + u2) * c.y) = (u0 + u1 + u2) * (tny T * c.y) := by grind
  have e5 : tny T * (c.d * (u0 * T.y0 + u1 * T.y1 + u2 * T.y2)) = c.d * (tny T * (u0 * T.y0 + u1 * T.y1 + u2 * T.y2)) := by grind
  rw [e4, e5, hp, e3]
  have e6 : (u0 + u1 + u2) * (tny T * T.y0 * c.d - tnx T * (c.x - T.x0 * c.d) - tnz T * (c.z - T.z0 * c.d)) = (u0 + u1 + u2) * (tny T * T.y0 * c.d) - tnx T * ((u0 + u1 + u2) * c.x - (u0 + u1 + u2) * T.x0 * c.d) - tnz T * ((u0 + u1 + u2) * c.z - (u0 + u1 + u2) * T.z0 * c.d) := by clear hp hx hz e1 e2 e3 e4 e5 hn; grind
  rw [e6, hx, hz]
  clear hp hx hz e1 e2 e3 e4 e5 e6 hn
  grind

theorem abC_cv {T : TriR} (hk : okT T = true) {px pz : Int} (hx : -64 ≤ px ∧ px ≤ 64) (hz : -64 ≤ pz ∧ pz ≤ 64) (hi : insB T px pz = true) : Cv T (abC T px pz) := by
  have hn := ok_ny hk
  have hp := abC_pl hk hx hz
  have hs := s_sum T px pz
  rcases (insB_iff T px pz).1 hi with ⟨k0, k1, k2⟩ | ⟨k0, k1, k2⟩
  · refine cv_of hn hp (u0 := s1 T px pz) (u1 := s2 T px pz) (u2 := s0 T px pz) k1 k2 k0 (by omega) ?_ ?_
    · show _ * (px * hdT T px pz) = hdT T px pz * _
      unfold s0 s1 s2 crI; grind
    · show _ * (pz * hdT T px pz) = hdT T px pz * _
      unfold s0 s1 s2 crI; grind
  · refine cv_of hn hp (u0 := -s1 T px pz) (u1 := -s2 T px pz) (u2 := -s0 T px pz) (by omega) (by omega) (by omega) (by omega) ?_ ?_
    · show _ * (px * hdT T px pz) = hdT T px pz * _
      unfold s0 s1 s2 crI; grind
    · show _ * (pz * hdT T px pz) = hdT T px pz * _
      unfold s0 s1 s2 crI; grind

/-! Crossings. -/
structure Ln where
  (bx bz at' : Int)
instance : Inhabited Ln := ⟨⟨0, 0, 0⟩⟩
def Ln.off (l : Ln) (vx vz : Int) : Int := l.bx * vx + l.bz * vz - l.at'
/-- A side, from a corner to the next one. -/
structure Sd where
  (ax ay az bx by' bz : Int)
def Sd.p (s : Sd) (l : Ln) : Int := l.off s.ax s.az
def Sd.q (s : Sd) (l : Ln) : Int := l.off s.bx s.bz
def crC (s : Sd) (l : Ln) : Co := low (s.p l * s.bx - s.q l * s.ax) (s.p l * s.bz - s.q l * s.az) (s.p l * s.by' - s.q l * s.ay) (s.p l - s.q l)
def crossO (s : Sd) (l : Ln) : Option Co := if (s.p l).sign = (s.q l).sign then none else some (crC s l)
def side (T : TriR) : Nat → Sd
  | 0 => ⟨T.x0, T.y0, T.z0, T.x1, T.y1, T.z1⟩
  | 1 => ⟨T.x1, T.y1, T.z1, T.x2, T.y2, T.z2⟩
  | _ => ⟨T.x2, T.y2, T.z2, T.x0, T.y0, T.z0⟩

theorem sg_ne {p q : Int} (h : p.sign ≠ q.sign) : p - q ≠ 0 ∧ ((0 ≤ p ∧ q ≤ 0) ∨ (p ≤ 0 ∧ 0 ≤ q)) := by
  rcases Int.lt_trichotomy p 0 with k | k | k <;> rcases Int.lt_trichotomy q 0 with m | m | m
  · rw [Int.sign_eq_neg_one_of_neg k, Int.sign_eq_neg_one_of_neg m] at h; exact absurd rfl h
  · omega
  · omega
  · omega
  · subst k; subst m; exact absurd rfl h
  · omega
  · omega
  · omega
  · rw [Int.sign_eq_one_of_pos k, Int.sign_eq_one_of_pos m] at h; exact absurd rfl h
theorem sg_of {p q : Int} (h : p - q ≠ 0) (h' : (0 ≤ p ∧ q ≤ 0) ∨ (p ≤ 0 ∧ 0 ≤ q)) : p.sign ≠ q.sign := by
  intro e
  rcases Int.lt_trichotomy p 0 with k | k | k <;> rcases Int.lt_trichotomy q 0 with m | m | m
  · omega
  · rw [Int.sign_eq_neg_one_of_neg k, m] at e; simp at e
  · rw [Int.sign_eq_neg_one_of_neg k, Int.sign_eq_one_of_pos m] at e; omega
  · rw [Int.sign_eq_neg_one_of_neg m, k] at e; simp at e
  · omega
  · rw [Int.sign_eq_one_of_pos m, k] at e; simp at e
  · rw [Int.sign_eq_one_of_pos k, Int.sign_eq_neg_one_of_neg m] at e; omega
  · rw [Int.sign_eq_one_of_pos k, m] at e; simp at e
  · omega

/-- Where a crossing lies. -/
theorem crC_at {s : Sd} {l : Ln} (h : (s.p l).sign ≠ (s.q l).sign) : Prim (crC s l) ∧ (crC s l).x * (s.p l - s.q l) = (s.p l * s.bx - s.q l * s.ax) * (crC s l).d ∧ (crC s l).z * (s.p l - s.q l) = (s.p l * s.bz - s.q l * s.az) * (crC s l).d ∧ (crC s l).y * (s.p l - s.q l) = (s.p l * s.by' - s.q l * s.ay) * (crC s l).d :=
  ⟨low_prim (sg_ne h).1, low_at (sg_ne h).1⟩

theorem cv_side {T : TriR} {c : Co} (i : Nat) {u v : Int} (hu : 0 ≤ u) (hv : 0 ≤ v) (hw : 0 < u + v) (hx : (u + v) * c.x = c.d * (u * (side T i).ax + v * (side T i).bx)) (hz : (u + v) * c.z = c.d * (u * (side T i).az + v * (side T i).bz)) (hy : (u + v) * c.y = c.d * (u * (side T i).ay + v * (side T i).by')) : Cv T c := by
  match i, hx, hz, hy with
  | 0, hx, hz, hy => exact ⟨u, v, 0, hu, hv, Int.le_refl _, by omega, by simpa [side] using hx, by simpa [side] using hz, by simpa [side] using hy⟩
  | 1, hx, hz, hy => exact ⟨0, u, v, Int.le_refl _, hu, hv, by omega, by simpa [side] using hx, by simpa [side] using hz, by simpa [side] using hy⟩
  | k + 2, hx, hz, hy => exact ⟨v, 0, u, hv, Int.le_refl _, hu, by omega, by simp [side] at hx ⊢; grind, by simp [side] at hz ⊢; grind, by simp [side] at hy ⊢; grind⟩

theorem crC_cv {T : TriR} (i : Nat) {l : Ln} (h : ((side T i).p l).sign ≠ ((side T i).q l).sign) : Cv T (crC (side T i) l) := by
  obtain ⟨hp, hx, hz, hy⟩ := crC_at h
  obtain ⟨hne, hpq⟩ := sg_ne h
  generalize (side T i).p l = p at *
  generalize (side T i).q l = q at *
  generalize crC (side T i) l = c at *
  rcases hpq with k | k
  · exact cv_side i (u := -q) (v := p) (by omega) (by omega) (by omega) (by grind) (by grind) (by grind)
  · exact cv_side i (u := q) (v := -p) (by omega) (by omega) (by omega) (by grind) (by grind) (by grind)

/-! A column. -/
def holdsB (x z : Int) (c : Co) : Bool := decide (x * c.d ≤ c.x) && decide (c.x ≤ (x + 1) * c.d) && decide (z * c.d ≤ c.z) && decide (c.z ≤ (z + 1) * c.d)
def gat {β : Type} (x z : Int) (f : β → Option Co) (l : List β) : List Co := l.filterMap fun b => (f b).filter (holdsB x z)
def cornL (x z : Int) : List (Int × Int) := [(x, z), (x + 1, z), (x + 1, z + 1), (x, z + 1)]
def lineL (x z : Int) : List Ln := [⟨1, 0, x⟩, ⟨1, 0, x + 1⟩, ⟨0, 1, z⟩, ⟨0, 1, z + 1⟩]
def comL (T : TriR) (x z : Int) : List Co := gat x z (aboveO T) (cornL x z) ++ gat x z (crossO (side T 0)) (lineL x z) ++ gat x z (crossO (side T 1)) (lineL x z) ++ gat x z (crossO (side T 2)) (lineL x z)

theorem mem_gat {β : Type} {x z : Int} {f : β → Option Co} {l : List β} {c : Co} : c ∈ gat x z f l ↔ ∃ b ∈ l, f b = some c ∧ holdsB x z c = true := by
  unfold gat
  rw [List.mem_filterMap]
  constructor
  · rintro ⟨b, hb, h⟩
    rw [Option.filter_eq_some_iff] at h
    exact ⟨b, hb, h.1, h.2⟩
  · rintro ⟨b, hb, h, h'⟩
    exact ⟨b, hb, by rw [Option.filter_eq_some_iff]; exact ⟨h, h'⟩⟩
theorem holdsB_iff {x z : Int} {c : Co} : holdsB x z c = true ↔ (x * c.d ≤ c.x ∧ c.x ≤ (x + 1) * c.d) ∧ (z * c.d ≤ c.z ∧ c.z ≤ (z + 1) * c.d) := by
  unfold holdsB
  simp only [Bool.and_eq_true, decide_eq_true_eq, and_assoc]

/-- What a column holds of a triangle, told apart. -/
theorem mem_comL {T : TriR} {x z : Int} {c : Co} : c ∈ comL T x z ↔ holdsB x z c = true ∧ ((∃ p ∈ cornL x z, insB T p.1 p.2 = true ∧ c = abC T p.1 p.2) ∨ ∃ i, i < 3 ∧ ∃ l ∈ lineL x z, ((side T i).p l).sign ≠ ((side T i).q l).sign ∧ c = crC (side T i) l) := by
  have ha : ∀ p : Int × Int, aboveO T p = some c ↔ insB T p.1 p.2 = true ∧ c = abC T p.1 p.2 := fun p => by
    unfold aboveO
    split
    · rename_i h; simp [h, eq_comm]
    · rename_i h; simp [h]
  have hc : ∀ (s : Sd) (l : Ln), crossO s l = some c ↔ (s.p l).sign ≠ (s.q l).sign ∧ c = crC s l := fun s l => by
    unfold crossO
    split
    · rename_i h; simp [h]
    · rename_i h; simp [h, eq_comm]
  unfold comL
  simp only [List.mem_append, mem_gat, ha, hc]
  constructor
  · rintro (((⟨b, hb, h, h'⟩ | ⟨b, hb, h, h'⟩) | ⟨b, hb, h, h'⟩) | ⟨b, hb, h, h'⟩)
    · exact ⟨h', .inl ⟨b, hb, h⟩⟩
    · exact ⟨h', .inr ⟨0, by omega, b, hb, h⟩⟩
    · exact ⟨h', .inr ⟨1, by omega, b, hb, h⟩⟩
    · exact ⟨h', .inr ⟨2, by omega, b, hb, h⟩⟩
  · rintro ⟨h', ⟨b, hb, h⟩ | ⟨i, hi, b, hb, h⟩⟩
    · exact .inl (.inl (.inl ⟨b, hb, h, h'⟩))
    · rcases (show i = 0 ∨ i = 1 ∨ i = 2 by omega) with rfl | rfl | rfl
      · exact .inl (.inl (.inr ⟨b, hb, h, h'⟩))
      · exact .inl (.inr ⟨b, hb, h, h'⟩)
      · exact .inr ⟨b, hb, h, h'⟩

theorem corn_in {x z : Int} (hx : -1 ≤ x ∧ x ≤ 32) (hz : -1 ≤ z ∧ z ≤ 32) {p : Int × Int} (h : p ∈ cornL x z) : (-1 ≤ p.1 ∧ p.1 ≤ 33) ∧ (-1 ≤ p.2 ∧ p.2 ≤ 33) := by
  unfold cornL at h
  simp only [List.mem_cons, List.not_mem_nil, or_false] at h
  rcases h with rfl | rfl | rfl | rfl <;> simp only [] <;> omega

theorem com_prim {T : TriR} (hk : okT T = true) {x z : Int} (hx : -1 ≤ x ∧ x ≤ 32) (hz : -1 ≤ z ∧ z ≤ 32) {c : Co} (h : c ∈ comL T x z) : Prim c ∧ Cv T c := by
  obtain ⟨-, ⟨p, hp, hi, rfl⟩ | ⟨i, -, l, -, hs, rfl⟩⟩ := mem_comL.1 h
  · have b := corn_in hx hz hp
    exact ⟨abC_prim hk (by omega) (by omega), abC_cv hk (by omega) (by omega) hi⟩
  · exact ⟨(crC_at hs).1, crC_cv i hs⟩

/-- Of two corners over one place each is the other. -/
theorem com_one {T : TriR} (hk : okT T = true) {a b : Co} (ha : Prim a ∧ Cv T a) (hb : Prim b ∧ Cv T b) (hx : a.x * b.d = b.x * a.d) (hz : a.z * b.d = b.z * a.d) : a = b :=
  pl_one (ok_ny hk) (pl_of_cv ha.2) (pl_of_cv hb.2) ha.1 hb.1 hx hz

end Go.Proofs.YtklopjbpfddgfaaGreat
