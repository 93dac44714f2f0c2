import Derived.Test.YteoongcajfcgcaaClPZ6

/- What the laws of package clip lean on, in plain numbers. -/
namespace Go.Proofs.Yteoongcajfcgcaa
open Go.RowKit
set_option linter.unusedVariables false

theorem tame_id {n : Int} (h : -1099511627776 ≤ n ∧ n ≤ 1099511627776) : tameI n = n := by unfold tameI clampI; omega
theorem fl_eq {c : Co} (h : Okc c) : flC c = c.y / c.d := by
  obtain ⟨⟨d1, d2⟩, -, -, y1, y2⟩ := h
  unfold flC floorI
  rw [tame_id (by omega : -1099511627776 ≤ c.d ∧ c.d ≤ 1099511627776), tame_id (by omega : -1099511627776 ≤ c.y ∧ c.y ≤ 1099511627776), if_neg (by omega), Int.fdiv_eq_ediv_of_nonneg _ (by omega)]
theorem cl_eq {c : Co} (h : Okc c) : clC c = -((-c.y) / c.d) := by
  obtain ⟨⟨d1, d2⟩, -, -, y1, y2⟩ := h
  unfold clC ceilI floorI
  rw [tame_id (by omega : -1099511627776 ≤ c.d ∧ c.d ≤ 1099511627776), tame_id (by omega : -1099511627776 ≤ c.y ∧ c.y ≤ 1099511627776), tame_id (by omega : -1099511627776 ≤ -c.y ∧ -c.y ≤ 1099511627776), if_neg (by omega), Int.fdiv_eq_ediv_of_nonneg _ (by omega)]
theorem fl_spec {c : Co} (h : Okc c) : flC c * c.d ≤ c.y ∧ c.y < (flC c + 1) * c.d := by
  have hd : 0 < c.d := by have := h.1; omega
  rw [fl_eq h]
  have h1 := Int.mul_ediv_self_le (x := c.y) (k := c.d) (by omega)
  have h2 := Int.lt_mul_ediv_self_add (x := c.y) (k := c.d) hd
  rw [Int.mul_comm] at h1 h2
  rw [Int.add_mul]
  omega
theorem cl_spec {c : Co} (h : Okc c) : c.y ≤ clC c * c.d ∧ (clC c - 1) * c.d < c.y := by
  have hd : 0 < c.d := by have := h.1; omega
  rw [cl_eq h]
  have h1 := Int.mul_ediv_self_le (x := -c.y) (k := c.d) (by omega)
  have h2 := Int.lt_mul_ediv_self_add (x := -c.y) (k := c.d) hd
  rw [Int.mul_comm] at h1 h2
  rw [Int.sub_mul, Int.neg_mul]
  omega
theorem le_of_mul {a b d : Int} (hd : 0 < d) (h : a * d ≤ b * d) : a ≤ b := Int.le_of_mul_le_mul_right h hd
theorem fl_ge {c : Co} (h : Okc c) {m : Int} (k : m * c.d ≤ c.y) : m ≤ flC c := by
  have hd : 0 < c.d := by have := h.1; omega
  have h2 : m * c.d < (flC c + 1) * c.d := Int.lt_of_le_of_lt k (fl_spec h).2
  have := Int.lt_of_mul_lt_mul_right h2 (Int.le_of_lt hd)
  omega
theorem cl_le {c : Co} (h : Okc c) {m : Int} (k : c.y ≤ m * c.d) : clC c ≤ m := by
  have hd : 0 < c.d := by have := h.1; omega
  have h2 : (clC c - 1) * c.d < m * c.d := Int.lt_of_lt_of_le (cl_spec h).2 k
  have := Int.lt_of_mul_lt_mul_right h2 (Int.le_of_lt hd)
  omega
theorem fl_cl {c : Co} (h : Okc c) : flC c ≤ clC c := by
  have hd : 0 < c.d := by have := h.1; omega
  exact le_of_mul hd (Int.le_trans (fl_spec h).1 (cl_spec h).1)

/-- All that is told of a corner over a column. -/
structure Fact (T : TriR) (x z : Int) (c : Co) : Prop where
  ok : Okc c
  prim : Prim c
  cv : Cv T c
  hx : x * c.d ≤ c.x ∧ c.x ≤ (x + 1) * c.d
  hz : z * c.d ≤ c.z ∧ c.z ≤ (z + 1) * c.d
theorem fact {T : TriR} {x z : Int} (hE : corE T x z = 0) {c : Co} (h : c ∈ comL T x z) : Fact T x z c := by
  obtain ⟨hk, -, -, hx, hz⟩ := cor_zero hE
  have h1 := holdsB_iff.1 (mem_comL.1 h).1
  exact ⟨com_okc hk hx hz h, (com_prim hk hx hz h).1, (com_prim hk hx hz h).2, h1.1, h1.2⟩

theorem ov_iff {T : TriR} {x z : Int} : ovB T x z = true ↔ corE T x z = 0 ∧ ∃ c, c ∈ comL T x z := by
  unfold ovB
  simp only [Bool.and_eq_true, beq_iff_eq, Bool.not_eq_true']
  refine and_congr Iff.rfl ?_
  cases comL T x z with
  | nil => simp
  | cons a l => simp

theorem ov_lo {T : TriR} {x z : Int} (h : ovB T x z = true) : ovLo T x z = loF (comL T x z) ∧ ovHi T x z = hiF (comL T x z) := by
  unfold ovLo ovHi; rw [h]; exact ⟨rfl, rfl⟩
theorem ov_mem {T : TriR} {x z : Int} (h : ovB T x z = true) {c : Co} (hc : c ∈ comL T x z) : ovLo T x z ≤ flC c ∧ clC c ≤ ovHi T x z := by
  obtain ⟨e1, e2⟩ := ov_lo h
  rw [e1, e2]
  exact ⟨(minf_spec flC _ _).2.1 c hc, (maxf_spec clC _ _).2.1 c hc⟩
theorem ok_y {T : TriR} (hk : okT T = true) : (-2048 ≤ T.y0 ∧ T.y0 ≤ 2048) ∧ (-2048 ≤ T.y1 ∧ T.y1 ≤ 2048) ∧ (-2048 ≤ T.y2 ∧ T.y2 ≤ 2048) := by
  have := ok_in hk
  unfold StP StV at this
  omega
/-- The least floor is some corner's, the greatest ceiling is. -/
theorem ov_got {T : TriR} {x z : Int} (h : ovB T x z = true) : (∃ c ∈ comL T x z, ovLo T x z = flC c) ∧ (∃ c ∈ comL T x z, ovHi T x z = clC c) := by
  obtain ⟨e1, e2⟩ := ov_lo h
  obtain ⟨hE, c, hc⟩ := ov_iff.1 h
  obtain ⟨hk, -⟩ := cor_zero hE
  obtain ⟨y0, y1, y2⟩ := ok_y hk
  have F := fact hE hc
  have hy := cv_y F.cv F.prim.1 y0 y1 y2
  have k1 := ov_mem h hc
  rw [e1, e2] at k1
  rw [e1, e2]
  constructor
  · rcases (minf_spec flC (comL T x z) 2048).2.2 with q | ⟨b, hb, q⟩
    · refine ⟨c, hc, ?_⟩
      have hd : 0 < c.d := F.prim.1
      have : flC c ≤ 2048 := le_of_mul hd (Int.le_trans (fl_spec F.ok).1 hy.2)
      have e : loF (comL T x z) = 2048 := q
      omega
    · exact ⟨b, hb, q⟩
  · rcases (maxf_spec clC (comL T x z) (-2048)).2.2 with q | ⟨b, hb, q⟩
    · refine ⟨c, hc, ?_⟩
      have hd : 0 < c.d := F.prim.1
      have : -2048 ≤ clC c := le_of_mul hd (Int.le_trans hy.1 (cl_spec F.ok).1)
      have e : hiF (comL T x z) = -2048 := q
      omega
    · exact ⟨b, hb, q⟩

/-- Heights lie between the triangle's own; the column is among those that are told. -/
theorem ov_between {T : TriR} {x z : Int} (h : ovB T x z = true) : ovLo T x z ≤ ovHi T x z ∧ minI T.y0 T.y1 T.y2 ≤ ovLo T x z ∧ ovHi T x z ≤ maxI T.y0 T.y1 T.y2 ∧
    (minI T.x0 T.x1 T.x2 - 1 ≤ x ∧ x ≤ maxI T.x0 T.x1 T.x2) ∧ (minI T.z0 T.z1 T.z2 - 1 ≤ z ∧ z ≤ maxI T.z0 T.z1 T.z2) := by
  obtain ⟨hE, c, hc⟩ := ov_iff.1 h
  obtain ⟨⟨a, ha, ea⟩, ⟨b, hb, eb⟩⟩ := ov_got h
  have k1 := ov_mem h hc
  have F := fact hE hc
  have k2 := fl_cl F.ok
  have mn : ∀ p q r : Int, minI p q r ≤ p ∧ minI p q r ≤ q ∧ minI p q r ≤ r := fun p q r => by unfold minI; omega
  have mx : ∀ p q r : Int, p ≤ maxI p q r ∧ q ≤ maxI p q r ∧ r ≤ maxI p q r := fun p q r => by unfold maxI; omega
  have y1 := mn T.y0 T.y1 T.y2
  have y2 := mx T.y0 T.y1 T.y2
  have x1 := mn T.x0 T.x1 T.x2
  have x2 := mx T.x0 T.x1 T.x2
  have z1 := mn T.z0 T.z1 T.z2
  have z2 := mx T.z0 T.z1 T.z2
  have Fa := fact hE ha
  have Fb := fact hE hb
  have hd : 0 < c.d := F.prim.1
  have ya := cv_y Fa.cv Fa.prim.1 ⟨y1.1, y2.1⟩ ⟨y1.2.1, y2.2.1⟩ ⟨y1.2.2, y2.2.2⟩
  have yb := cv_y Fb.cv Fb.prim.1 ⟨y1.1, y2.1⟩ ⟨y1.2.1, y2.2.1⟩ ⟨y1.2.2, y2.2.2⟩
  have xc := cv_x F.cv hd ⟨x1.1, x2.1⟩ ⟨x1.2.1, x2.2.1⟩ ⟨x1.2.2, x2.2.2⟩
  have zc := cv_z F.cv hd ⟨z1.1, z2.1⟩ ⟨z1.2.1, z2.2.1⟩ ⟨z1.2.2, z2.2.2⟩
  refine ⟨by omega, by rw [ea]; exact fl_ge Fa.ok ya.1, by rw [eb]; exact cl_le Fb.ok yb.2, ⟨?_, ?_⟩, ?_, ?_⟩
  · have := le_of_mul hd (Int.le_trans xc.1 F.hx.2); omega
  · exact le_of_mul hd (Int.le_trans F.hx.1 xc.2)
  · have := le_of_mul hd (Int.le_trans zc.1 F.hz.2); omega
  · exact le_of_mul hd (Int.le_trans F.hz.1 zc.2)

/-- Columns that share a corner have heights that meet. -/
theorem ov_meet {T : TriR} {x z x' z' : Int} (h : ovB T x z = true) (h' : ovB T x' z' = true) {c : Co} (hc : c ∈ comL T x z) (hc' : c ∈ comL T x' z') : ovLo T x' z' ≤ ovHi T x z ∧ ovLo T x z ≤ ovHi T x' z' := by
  have F := fact (ov_iff.1 h).1 hc
  have k1 := ov_mem h hc
  have k2 := ov_mem h' hc'
  have k3 := fl_cl F.ok
  omega

theorem ov_bd (T : TriR) (x z : Int) : (-2048 ≤ ovLo T x z ∧ ovLo T x z ≤ 2048) ∧ (-2048 ≤ ovHi T x z ∧ ovHi T x z ≤ 2048) := by
  cases h : ovB T x z with
  | false => unfold ovLo ovHi; rw [h]; simp
  | true =>
    obtain ⟨hE, -⟩ := ov_iff.1 h
    obtain ⟨y0, y1, y2⟩ := ok_y (cor_zero hE).1
    have hb := ov_between h
    have a : -2048 ≤ minI T.y0 T.y1 T.y2 := by unfold minI; omega
    have b : maxI T.y0 T.y1 T.y2 ≤ 2048 := by unfold maxI; omega
    omega

/-! The triangle of the document's example. -/
def halfT : TriR := ⟨1, 0, 0, 0, 2, 2, 0, 0, 0, 2⟩
theorem half_0 : corE halfT 0 0 = 0 ∧ ovB halfT 0 0 = true ∧ ovLo halfT 0 0 = 0 ∧ ovHi halfT 0 0 = 1 := by decide +kernel
theorem half_1 : corE halfT 1 0 = 0 ∧ ovB halfT 1 0 = true ∧ ovLo halfT 1 0 = 1 ∧ ovHi halfT 1 0 = 2 := by decide +kernel
theorem half_2 : corE halfT 1 1 = 0 ∧ ovB halfT 1 1 = true ∧ ovLo halfT 1 1 = 1 ∧ ovHi halfT 1 1 = 1 := by decide +kernel
theorem half_3 : corE halfT 2 2 = 0 ∧ ovB halfT 2 2 = false ∧ ovLo halfT 2 2 = 0 ∧ ovHi halfT 2 2 = 0 := by decide +kernel

end Go.Proofs.Yteoongcajfcgcaa
