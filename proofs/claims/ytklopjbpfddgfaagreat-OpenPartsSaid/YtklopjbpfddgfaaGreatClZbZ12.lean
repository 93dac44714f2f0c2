import Derived.Test.YtklopjbpfddgfaaGreatClQZ12
import Derived.Test.YtklopjbpfddgfaaGreatSoCBZ12
import Derived.Test.YtklopjbpfddgfaaGreatRaBZ12
import Derived.Test.YtklopjbpfddgfaaGreatClFZ12
import Derived.Test.YtklopjbpfddgfaaGreatClLZ12
import Derived.Test.YtklopjbpfddgfaaGreatSoBZ12
import Derived.Deep.LoopGhost
import Derived.Test.YtklopjbpfddgfaaGreatClKZ12
import Derived.Test.YtklopjbpfddgfaaGreatClOZ12

/- Package clip: what the document says of three columns; the law of neighbours. -/
namespace Go.Proofs.YtklopjbpfddgfaaGreat
open Go.RowKit
set_option linter.unusedVariables false

theorem half_over (x z lo hi : Int) (b : Bool) (h : corE halfT x z = 0 ∧ ovB halfT x z = b ∧ ovLo halfT x z = lo ∧ ovHi halfT x z = hi) (w : World) :
    Calls Tryz.prog 62 #[.agg #[.int .i64 1, .int .i64 0, .int .i64 0, .int .i64 0, .int .i64 2, .int .i64 2, .int .i64 0, .int .i64 0, .int .i64 0, .int .i64 2], .int .i64 x, .int .i64 z] w fun e w' => e = .returned (.tuple #[.int .i64 lo, .int .i64 hi, .bool b, .int .i64 0]) ∧ New w w' := by
  have k := k_over halfT x z w
  rw [h.1, h.2.1, h.2.2.1, h.2.2.2] at k
  exact k

theorem ov_no {T : TriR} {x z : Int} (h : ovB T x z = false) : ovLo T x z = 0 ∧ ovHi T x z = 0 := by unfold ovLo ovHi; rw [h]; exact ⟨rfl, rfl⟩

end Go.Proofs.YtklopjbpfddgfaaGreat

/- Triangles that are turned about, and lifted: what lies over a column, in plain numbers. -/
namespace Go.Proofs.YtklopjbpfddgfaaGreat
open Go.RowKit
set_option linter.unusedVariables false

def rotT (T : TriR) : TriR := ⟨1, T.x1, T.y1, T.z1, T.x2, T.y2, T.z2, T.x0, T.y0, T.z0⟩
def upT (T : TriR) (u : Int) : TriR := ⟨T.i, T.x0, T.y0 + u, T.z0, T.x1, T.y1 + u, T.z1, T.x2, T.y2 + u, T.z2⟩
def upC (u : Int) (c : Co) : Co := ⟨c.x, c.z, c.y + u * c.d, c.d⟩

theorem okT_iff {T : TriR} : okT T = true ↔ StP 32 32 T.x0 T.y0 T.z0 T.x1 T.y1 T.z1 T.x2 T.y2 T.z2 ∧ tny T ≠ 0 := by
  unfold okT okB tny
  rw [Bool.and_eq_true, stB_iff, bne_iff_ne]

theorem may_ok (T : TriR) : mayTB 32 32 T = okT T := by
  rw [Bool.eq_iff_iff, okT_iff]
  unfold mayTB outV heiB StP StV tny nyI
  simp only [Bool.and_eq_true, Bool.not_eq_true', Bool.or_eq_false_iff, decide_eq_false_iff_not, bne_iff_ne, Bool.not_eq_false', decide_eq_true_eq]
  constructor
  · rintro ⟨⟨⟨h0, h1⟩, h2⟩, h3⟩
    refine ⟨⟨⟨?_, ?_, ?_⟩, ⟨?_, ?_, ?_⟩, ⟨?_, ?_, ?_⟩⟩, fun e => h3 (by grind)⟩ <;> omega
  · rintro ⟨⟨h0, h1, h2⟩, h3⟩
    refine ⟨⟨⟨?_, ?_⟩, ?_⟩, fun e => h3 (by grind)⟩ <;> omega

/-! Turned about. -/
theorem rot_ny (T : TriR) : tny (rotT T) = tny T := by unfold tny nyI rotT; grind
theorem rot_ok (T : TriR) : okT (rotT T) = okT T := by
  rw [Bool.eq_iff_iff, okT_iff, okT_iff, rot_ny]
  unfold StP rotT
  simp only []
  constructor
  · rintro ⟨⟨a, b, c⟩, d⟩; exact ⟨⟨c, a, b⟩, d⟩
  · rintro ⟨⟨a, b, c⟩, d⟩; exact ⟨⟨b, c, a⟩, d⟩
theorem rot_ins (T : TriR) (px pz : Int) : insB (rotT T) px pz = insB T px pz := by
  rw [Bool.eq_iff_iff, insB_iff, insB_iff]
  have e0 : s0 (rotT T) px pz = s1 T px pz := rfl
  have e1 : s1 (rotT T) px pz = s2 T px pz := rfl
  have e2 : s2 (rotT T) px pz = s0 T px pz := rfl
  rw [e0, e1, e2]
  omega
theorem rot_cv {T : TriR} {c : Co} (h : Cv (rotT T) c) : Cv T c := by
  obtain ⟨u0, u1, u2, h0, h1, h2, hw, hx, hz, hy⟩ := h
  unfold rotT at hx hz hy
  simp only [] at hx hz hy
  exact ⟨u2, u0, u1, h2, h0, h1, by omega, by grind, by grind, by grind⟩
theorem rot_ab {T : TriR} (hk : okT T = true) {px pz : Int} (hx : -64 ≤ px ∧ px ≤ 64) (hz : -64 ≤ pz ∧ pz ≤ 64) (hi : insB T px pz = true) : abC (rotT T) px pz = abC T px pz := by
  have hk' : okT (rotT T) = true := by rw [rot_ok]; exact hk
  have c1 := abC_cv hk' hx hz (by rw [rot_ins]; exact hi)
  refine pl_one (ok_ny hk) (pl_of_cv (rot_cv c1)) (abC_pl hk hx hz) (abC_prim hk' hx hz) (abC_prim hk hx hz) ?_ ?_
  · show px * hdT (rotT T) px pz * hdT T px pz = px * hdT T px pz * hdT (rotT T) px pz
    grind
  · show pz * hdT (rotT T) px pz * hdT T px pz = pz * hdT T px pz * hdT (rotT T) px pz
    grind
theorem rot_com {T : TriR} (hk : okT T = true) {x z : Int} (hx : -1 ≤ x ∧ x ≤ 32) (hz : -1 ≤ z ∧ z ≤ 32) (c : Co) : c ∈ comL (rotT T) x z ↔ c ∈ comL T x z := by
  rw [mem_comL, mem_comL]
  refine and_congr Iff.rfl (or_congr ?_ ?_)
  · constructor
    · rintro ⟨p, hp, hi, rfl⟩
      have b := corn_in hx hz hp
      rw [rot_ins] at hi
      exact ⟨p, hp, hi, rot_ab hk (by omega) (by omega) hi⟩
    · rintro ⟨p, hp, hi, rfl⟩
      have b := corn_in hx hz hp
      exact ⟨p, hp, by rw [rot_ins]; exact hi, (rot_ab hk (by omega) (by omega) hi).symm⟩
  · have e0 : side (rotT T) 0 = side T 1 := rfl
    have e1 : side (rotT T) 1 = side T 2 := rfl
    have e2 : side (rotT T) 2 = side T 0 := rfl
    constructor
    · rintro ⟨i, hi, h⟩
      rcases (show i = 0 ∨ i = 1 ∨ i = 2 by omega) with rfl | rfl | rfl
      · exact ⟨1, by omega, h⟩
      · exact ⟨2, by omega, h⟩
      · exact ⟨0, by omega, h⟩
    · rintro ⟨i, hi, h⟩
      rcases (show i = 0 ∨ i = 1 ∨ i = 2 by omega) with rfl | rfl | rfl
      · exact ⟨2, by omega, h⟩
      · exact ⟨0, by omega, h⟩
      · exact ⟨1, by omega, h⟩

theorem ov_congr {T U : TriR} {x z : Int} (hE : corE T x z = corE U x z) (h : corE T x z = 0 → ∀ c, c ∈ comL T x z ↔ c ∈ comL U x z) : ovB T x z = ovB U x z ∧ ovLo T x z = ovLo U x z ∧ ovHi T x z = ovHi U x z := by
  have hb : ovB T x z = ovB U x z := by
    rw [Bool.eq_iff_iff, ov_iff, ov_iff, ← hE]
    exact ⟨fun ⟨a, c, hc⟩ => ⟨a, c, (h a c).1 hc⟩, fun ⟨a, c, hc⟩ => ⟨a, c, (h a c).2 hc⟩⟩
  refine ⟨hb, ?_, ?_⟩
  · unfold ovLo
    rw [← hb]
    cases h1 : ovB T x z with
    | false => rfl
    | true => exact loF_congr (h (ov_iff.1 h1).1)
  · unfold ovHi
    rw [← hb]
    cases h1 : ovB T x z with
    | false => rfl
    | true => exact hiF_congr (h (ov_iff.1 h1).1)

theorem rot_ov {T : TriR} (x z : Int) : corE (rotT T) x z = corE T x z ∧ ovB (rotT T) x z = ovB T x z ∧ ovLo (rotT T) x z = ovLo T x z ∧ ovHi (rotT T) x z = ovHi T x z := by
  have e : corE (rotT T) x z = corE T x z := by unfold corE; rw [rot_ok]
  refine ⟨e, ov_congr e fun h0 c => ?_⟩
  obtain ⟨hk, -, -, hx, hz⟩ := cor_zero h0
  rw [rot_ok] at hk
  exact rot_com hk hx hz c

/-! Lifted. -/
theorem up_ny (T : TriR) (u : Int) : tny (upT T u) = tny T := rfl
theorem up_nx (T : TriR) (u : Int) : tnx (upT T u) = tnx T := by unfold tnx nxI upT; grind
theorem up_nz (T : TriR) (u : Int) : tnz (upT T u) = tnz T := by unfold tnz nzI upT; grind
theorem up_ok {T : TriR} {u : Int} (hk : okT T = true) (h0 : -2048 ≤ T.y0 + u ∧ T.y0 + u ≤ 2048) (h1 : -2048 ≤ T.y1 + u ∧ T.y1 + u ≤ 2048) (h2 : -2048 ≤ T.y2 + u ∧ T.y2 + u ≤ 2048) : okT (upT T u) = true := by
  rw [okT_iff, up_ny]
  have := okT_iff.1 hk
  unfold StP StV upT at *
  simp only []
  refine ⟨⟨⟨?_, ?_, ?_⟩, ⟨?_, ?_, ?_⟩, ⟨?_, ?_, ?_⟩⟩, this.2⟩ <;> omega
theorem upC_prim {u : Int} {c : Co} (h : Prim c) : Prim (upC u c) := by
  refine ⟨h.1, ?_⟩
  obtain ⟨d1, d2, d3, d4⟩ := cg_dvd (upC u c).x (upC u c).z (upC u c).y (upC u c).d
  have hy : ((cg (upC u c).x (upC u c).z (upC u c).y (upC u c).d : Nat) : Int) ∣ c.y := by
    have e : c.y = (upC u c).y - u * (upC u c).d := by show c.y = c.y + u * c.d - u * c.d; omega
    rw [e]
    exact Int.dvd_sub d3 (Int.dvd_mul_of_dvd_right d4)
  have h2 := h.2
  have : cg (upC u c).x (upC u c).z (upC u c).y (upC u c).d ∣ cg c.x c.z c.y c.d :=
    Nat.dvd_gcd (Nat.dvd_gcd (Nat.dvd_gcd (Int.ofNat_dvd_left.1 d4) (Int.ofNat_dvd_left.1 d1)) (Int.ofNat_dvd_left.1 d2)) (Int.ofNat_dvd_left.1 hy)
  rw [h2] at this
  exact Nat.dvd_one.1 this
theorem upC_pl {T : TriR} {u : Int} {c : Co} (h : Pl T c) : Pl (upT T u) (upC u c) := by
  unfold Pl at *
  rw [up_ny, up_nx, up_nz]
  unfold upC upT
  simp only []
  grind
theorem up_ab {T : TriR} {u : Int} (hk : okT T = true) (hk' : okT (upT T u) = true) {px pz : Int} (hx : -64 ≤ px ∧ px ≤ 64) (hz : -64 ≤ pz ∧ pz ≤ 64) : abC (upT T u) px pz = upC u (abC T px pz) := by
  refine pl_one (ok_ny hk') (abC_pl hk' hx hz) (upC_pl (abC_pl hk hx hz)) (abC_prim hk' hx hz) (upC_prim (abC_prim hk hx hz)) ?_ ?_
  · show px * hdT (upT T u) px pz * hdT T px pz = px * hdT T px pz * hdT (upT T u) px pz
    grind
  · show pz * hdT (upT T u) px pz * hdT T px pz = pz * hdT T px pz * hdT (upT T u) px pz
    grind
def upS (u : Int) (s : Sd) : Sd := ⟨s.ax, s.ay + u, s.az, s.bx, s.by' + u, s.bz⟩
theorem up_side (T : TriR) (u : Int) (i : Nat) : side (upT T u) i = upS u (side T i) := by
  match i with
  | 0 => rfl
  | 1 => rfl
  | i + 2 => rfl
theorem up_cr {s : Sd} {l : Ln} (u : Int) (h : (s.p l).sign ≠ (s.q l).sign) : crC (upS u s) l = upC u (crC s l) := by
  have hne := (sg_ne h).1
  have hp : (upS u s).p l = s.p l := rfl
  have hq : (upS u s).q l = s.q l := rfl
  obtain ⟨p1, x1, z1, y1⟩ := crC_at h
  obtain ⟨p2, x2, z2, y2⟩ := crC_at (s := upS u s) (l := l) (by rw [hp, hq]; exact h)
  rw [hp, hq] at x2 z2 y2
  unfold upS at x2 z2 y2
  simp only [] at x2 z2 y2
  have key : ∀ {a b d1 d2 D X : Int}, a * D = X * d2 → b * D = X * d1 → a * d1 * D = b * d2 * D := fun {a b d1 d2 D X} h1 h2 => by
    rw [show a * d1 * D = (a * D) * d1 by grind, show b * d2 * D = (b * D) * d2 by grind, h1, h2]
    grind
  have y3 : ((crC s l).y + u * (crC s l).d) * (s.p l - s.q l) = (s.p l * (s.by' + u) - s.q l * (s.ay + u)) * (crC s l).d := by
    rw [Int.add_mul, y1]
    clear x1 z1 x2 z2 y2 p1 p2 h hne hp hq key y1
    grind
  exact prim_one p2 (upC_prim p1) (Int.eq_of_mul_eq_mul_right hne (key x2 x1)) (Int.eq_of_mul_eq_mul_right hne (key z2 z1)) (Int.eq_of_mul_eq_mul_right hne (key y2 y3))
theorem up_com {T : TriR} {u : Int} (hk : okT T = true) (hk' : okT (upT T u) = true) {x z : Int} (hx : -1 ≤ x ∧ x ≤ 32) (hz : -1 ≤ z ∧ z ≤ 32) (c : Co) : c ∈ comL (upT T u) x z ↔ ∃ b ∈ comL T x z, c = upC u b := by
  rw [mem_comL]
  constructor
  · rintro ⟨h, ⟨p, hp, hi, rfl⟩ | ⟨i, hi, l, hl, hs, rfl⟩⟩
    · have b := corn_in hx hz hp
      rw [up_ab hk hk' (by omega) (by omega)] at h ⊢
      exact ⟨abC T p.1 p.2, mem_comL.2 ⟨h, .inl ⟨p, hp, hi, rfl⟩⟩, rfl⟩
    · rw [up_side] at h hs ⊢
      have hs' : ((side T i).p l).sign ≠ ((side T i).q l).sign := hs
      rw [up_cr u hs'] at h ⊢
      exact ⟨crC (side T i) l, mem_comL.2 ⟨h, .inr ⟨i, hi, l, hl, hs', rfl⟩⟩, rfl⟩
  · rintro ⟨b, hb, rfl⟩
    obtain ⟨h, ⟨p, hp, hi, rfl⟩ | ⟨i, hi, l, hl, hs, rfl⟩⟩ := mem_comL.1 hb
    · have b := corn_in hx hz hp
      exact ⟨h, .inl ⟨p, hp, hi, (up_ab hk hk' (by omega) (by omega)).symm⟩⟩
    · exact ⟨h, .inr ⟨i, hi, l, hl, by rw [up_side]; exact hs, by rw [up_side, up_cr u hs]⟩⟩
theorem up_fl {u : Int} {c : Co} (h : Okc c) (h' : Okc (upC u c)) : flC (upC u c) = flC c + u ∧ clC (upC u c) = clC c + u := by
  have hd : c.d ≠ 0 := by have := h.1; omega
  rw [fl_eq h, fl_eq h', cl_eq h, cl_eq h']
  show (c.y + u * c.d) / c.d = _ ∧ -((-(c.y + u * c.d)) / c.d) = _
  rw [Int.add_mul_ediv_right _ _ hd, show -(c.y + u * c.d) = -c.y + (-u) * c.d by grind, Int.add_mul_ediv_right _ _ hd]
  omega
theorem up_ov {T : TriR} {u : Int} (hk : okT T = true) (hk' : okT (upT T u) = true) (x z : Int) : corE (upT T u) x z = corE T x z ∧ ovB (upT T u) x z = ovB T x z ∧ (ovB T x z = true → ovLo (upT T u) x z = ovLo T x z + u ∧ ovHi (upT T u) x z = ovHi T x z + u) := by
  have e : corE (upT T u) x z = corE T x z := by unfold corE; rw [hk, hk']
  have hm : corE T x z = 0 → ∀ c, c ∈ comL (upT T u) x z ↔ ∃ b ∈ comL T x z, c = upC u b := fun h0 => by
    obtain ⟨-, -, -, hx, hz⟩ := cor_zero h0
    exact up_com hk hk' hx hz
  have hb : ovB (upT T u) x z = ovB T x z := by
    rw [Bool.eq_iff_iff, ov_iff, ov_iff, e]
    constructor
    · rintro ⟨h0, c, hc⟩
      obtain ⟨b, hb, -⟩ := (hm h0 c).1 hc
      exact ⟨h0, b, hb⟩
    · rintro ⟨h0, c, hc⟩
      exact ⟨h0, upC u c, (hm h0 _).2 ⟨c, hc, rfl⟩⟩
  refine ⟨e, hb, fun h => ?_⟩
  have h0 := (ov_iff.1 h).1
  have h' : ovB (upT T u) x z = true := by rw [hb]; exact h
  have h0' : corE (upT T u) x z = 0 := by rw [e]; exact h0
  obtain ⟨⟨a, ha, ea⟩, ⟨b, hb2, eb⟩⟩ := ov_got h
  obtain ⟨⟨a', ha', ea'⟩, ⟨b', hb', eb'⟩⟩ := ov_got h'
  obtain ⟨a0, ha0, rfl⟩ := (hm h0 _).1 ha'
  obtain ⟨b0, hb0, rfl⟩ := (hm h0 _).1 hb'
  have ma : upC u a ∈ comL (upT T u) x z := (hm h0 _).2 ⟨a, ha, rfl⟩
  have mb : upC u b ∈ comL (upT T u) x z := (hm h0 _).2 ⟨b, hb2, rfl⟩
  have f1 := up_fl (fact h0 ha).ok (fact h0' ma).ok
  have f2 := up_fl (fact h0 ha0).ok (fact h0' ha').ok
  have f3 := up_fl (fact h0 hb2).ok (fact h0' mb).ok
  have f4 := up_fl (fact h0 hb0).ok (fact h0' hb').ok
  have k1 := (ov_mem h ha0).1
  have k2 := (ov_mem h' ma).1
  have k3 := (ov_mem h hb0).2
  have k4 := (ov_mem h' mb).2
  omega
theorem ov_flat {T : TriR} {x z : Int} (h : ovB T x z = true) (h1 : T.y0 = T.y1) (h2 : T.y1 = T.y2) : ovLo T x z = T.y0 ∧ ovHi T x z = T.y0 := by
  have hb := ov_between h
  unfold minI maxI at hb
  omega

end Go.Proofs.YtklopjbpfddgfaaGreat

/- The document's own corners over a column, in plain numbers. -/
namespace Go.Proofs.YtklopjbpfddgfaaGreat
open Go.RowKit
set_option linter.unusedVariables false

/-- The document's corner at (px / den, pz / den). -/
def rcK (T : TriR) : Int := ((tny T).natAbs : Int)
def rcY (T : TriR) (px pz den : Int) : Int := if flatI T < 0 then -(T.y0 * flatI T * den + tnx T * (px - T.x0 * den) + tnz T * (pz - T.z0 * den)) else T.y0 * flatI T * den + tnx T * (px - T.x0 * den) + tnz T * (pz - T.z0 * den)
def rcC (T : TriR) (px pz den : Int) : Co := low (px * rcK T) (pz * rcK T) (rcY T px pz den) (rcK T * den)

theorem flat_ny (T : TriR) : flatI T = -tny T := by unfold flatI tny nyI; grind
theorem rcK_eq (T : TriR) : rcK T = if flatI T < 0 then -flatI T else flatI T := by unfold rcK; rw [flat_ny]; split <;> omega
theorem rcK_pos {T : TriR} (hk : okT T = true) : 1 ≤ rcK T ∧ rcK T ≤ 2048 := by
  have h1 := ok_ny hk
  have h2 := (nI_bd (ok_in hk)).2.1
  have h3 : -2048 ≤ tny T ∧ tny T ≤ 2048 := h2
  unfold rcK; omega
theorem rc_d {T : TriR} (hk : okT T = true) {den : Int} (hd : 1 ≤ den) : rcK T * den ≠ 0 := by
  have := Int.mul_pos (show 0 < rcK T by have := rcK_pos hk; omega) (show 0 < den by omega)
  omega
theorem rc_prim {T : TriR} (hk : okT T = true) {px pz den : Int} (hd : 1 ≤ den) : Prim (rcC T px pz den) := low_prim (rc_d hk hd)
theorem rc_at {T : TriR} (hk : okT T = true) {px pz den : Int} (hd : 1 ≤ den) : (rcC T px pz den).x * den = px * (rcC T px pz den).d ∧ (rcC T px pz den).z * den = pz * (rcC T px pz den).d ∧ (rcC T px pz den).y * (rcK T * den) = rcY T px pz den * (rcC T px pz den).d := by
  obtain ⟨h1, h2, h3⟩ := low_at (x := px * rcK T) (z := pz * rcK T) (y := rcY T px pz den) (rc_d hk hd)
  have hk0 : rcK T ≠ 0 := by have := rcK_pos hk; omega
  refine ⟨?_, ?_, h3⟩
  · apply Int.eq_of_mul_eq_mul_left hk0
    show rcK T * ((low _ _ _ _).x * den) = rcK T * (px * (low _ _ _ _).d)
    generalize low _ _ _ _ = c at *
    grind
  · apply Int.eq_of_mul_eq_mul_left hk0
    show rcK T * ((low _ _ _ _).z * den) = rcK T * (pz * (low _ _ _ _).d)
    generalize low _ _ _ _ = c at *
    grind
theorem rc_pl {T : TriR} (hk : okT T = true) {px pz den : Int} (hd : 1 ≤ den) : Pl T (rcC T px pz den) := by
  obtain ⟨h1, h2, h3⟩ := rc_at (px := px) (pz := pz) hk hd
  have hd0 : den ≠ 0 := by omega
  unfold Pl
  apply Int.eq_of_mul_eq_mul_right hd0
  unfold rcY at h3
  rw [rcK_eq, flat_ny] at h3
  generalize rcC T px pz den = c at *
  generalize tny T = n at *
  generalize tnx T = k at *
  generalize tnz T = m at *
  have e1 : (n * T.y0 * c.d - k * (c.x - T.x0 * c.d) - m * (c.z - T.z0 * c.d)) * den = n * T.y0 * c.d * den - k * (c.x * den - T.x0 * c.d * den) - m * (c.z * den - T.z0 * c.d * den) := by clear h1 h2 h3; grind
  rw [e1, h1, h2]
  split at h3
  · clear h1 h2 e1 hd0; grind
  · clear h1 h2 e1 hd0; grind

/-- Where a side's axis comes to n, as a share. -/
def rcr (a b n : Int) : Option (Int × Int) := if a = b ∨ n < min a b ∨ max a b < n then none else if a < b then some (n - a, b - a) else some (a - n, a - b)
def inR (n den lo hi : Int) : Bool := decide (lo * den ≤ n) && decide (n ≤ hi * den)

def rA (T : TriR) (px pz : Int) : List Co := if insB T px pz then [rcC T px pz 1] else []
def rV (T : TriR) (x z : Int) (s : Sd) : List Co := if inR s.ax 1 x (x + 1) && inR s.az 1 z (z + 1) then [rcC T s.ax s.az 1] else []
def rX (T : TriR) (z n : Int) (s : Sd) : List Co := match rcr s.ax s.bx n with
  | some (p, q) => if inR (s.az * q + (s.bz - s.az) * p) q z (z + 1) then [rcC T (n * q) (s.az * q + (s.bz - s.az) * p) q] else []
  | none => []
def rZ (T : TriR) (x n : Int) (s : Sd) : List Co := match rcr s.az s.bz n with
  | some (p, q) => if inR (s.ax * q + (s.bx - s.ax) * p) q x (x + 1) then [rcC T (s.ax * q + (s.bx - s.ax) * p) (n * q) q] else []
  | none => []
def rS (T : TriR) (x z : Int) (s : Sd) : List Co := rV T x z s ++ rX T z x s ++ rZ T x z s ++ rX T z (x + 1) s ++ rZ T x (z + 1) s
def refL (T : TriR) (x z : Int) : List Co := rA T x z ++ rA T (x + 1) z ++ rA T x (z + 1) ++ rA T (x + 1) (z + 1) ++ rS T x z (side T 0) ++ rS T x z (side T 1) ++ rS T x z (side T 2)

theorem rc_ab {T : TriR} (hk : okT T = true) {px pz : Int} (hx : -64 ≤ px ∧ px ≤ 64) (hz : -64 ≤ pz ∧ pz ≤ 64) : rcC T px pz 1 = abC T px pz := by
  obtain ⟨h1, h2, -⟩ := rc_at (px := px) (pz := pz) (den := 1) hk (by omega)
  refine pl_one (ok_ny hk) (rc_pl hk (by omega)) (abC_pl hk hx hz) (rc_prim hk (by omega)) (abC_prim hk hx hz) ?_ ?_
  · show (rcC T px pz 1).x * hdT T px pz = px * hdT T px pz * (rcC T px pz 1).d
    rw [Int.mul_one] at h1
    rw [h1]; grind
  · show (rcC T px pz 1).z * hdT T px pz = pz * hdT T px pz * (rcC T px pz 1).d
    rw [Int.mul_one] at h2
    rw [h2]; grind

theorem sg_iff {p q : Int} : p.sign ≠ q.sign ↔ p - q ≠ 0 ∧ ((0 ≤ p ∧ q ≤ 0) ∨ (p ≤ 0 ∧ 0 ≤ q)) := ⟨sg_ne, fun h => sg_of h.1 h.2⟩
theorem rcr_some {a b n : Int} (h : (a - n).sign ≠ (b - n).sign) : ∃ p q, rcr a b n = some (p, q) ∧ 1 ≤ q ∧ ((p = n - a ∧ q = b - a) ∨ (p = a - n ∧ q = a - b)) := by
  obtain ⟨h1, h2⟩ := sg_iff.1 h
  unfold rcr
  rw [if_neg (by omega)]
  split
  · exact ⟨_, _, rfl, by omega, .inl ⟨rfl, rfl⟩⟩
  · exact ⟨_, _, rfl, by omega, .inr ⟨rfl, rfl⟩⟩
theorem rcr_none {a b n : Int} (h : (a - n).sign = (b - n).sign) : rcr a b n = none := by
  unfold rcr
  split
  · rfl
  · rename_i hn
    exfalso
    exact (sg_iff (p := a - n) (q := b - n)).2 (by omega) h

theorem between_iff {c d q a z : Int} (hd : 0 < d) (hq : 0 < q) (h : c * q = a * d) : (z * q ≤ a ↔ z * d ≤ c) ∧ (a ≤ z * q ↔ c ≤ z * d) := by
  have e1 : z * q * d = z * d * q := by grind
  constructor
  · constructor
    · intro k
      have := Int.mul_le_mul_of_nonneg_right k (Int.le_of_lt hd)
      rw [e1, ← h] at this
      exact Int.le_of_mul_le_mul_right this hq
    · intro k
      have := Int.mul_le_mul_of_nonneg_right k (Int.le_of_lt hq)
      rw [← e1, h] at this
      exact Int.le_of_mul_le_mul_right this hd
  · constructor
    · intro k
      have := Int.mul_le_mul_of_nonneg_right k (Int.le_of_lt hd)
      rw [e1, ← h] at this
      exact Int.le_of_mul_le_mul_right this hq
    · intro k
      have := Int.mul_le_mul_of_nonneg_right k (Int.le_of_lt hq)
      rw [← e1, h] at this
      exact Int.le_of_mul_le_mul_right this hd
theorem inR_iff {c d q a z : Int} (hd : 0 < d) (hq : 0 < q) (h : c * q = a * d) : inR a q z (z + 1) = true ↔ z * d ≤ c ∧ c ≤ (z + 1) * d := by
  unfold inR
  rw [Bool.and_eq_true, decide_eq_true_eq, decide_eq_true_eq, (between_iff hd hq h).1, (between_iff hd hq h).2]

/-- What is told of a crossing with x = n. -/
theorem mem_rX {T : TriR} (hk : okT T = true) {z n : Int} (i : Nat) {c : Co} : c ∈ rX T z n (side T i) ↔ ((side T i).p ⟨1, 0, n⟩).sign ≠ ((side T i).q ⟨1, 0, n⟩).sign ∧ c = crC (side T i) ⟨1, 0, n⟩ ∧ z * c.d ≤ c.z ∧ c.z ≤ (z + 1) * c.d := by
  have ep : (side T i).p ⟨1, 0, n⟩ = (side T i).ax - n := by show 1 * _ + 0 * _ - n = _; omega
  have eq : (side T i).q ⟨1, 0, n⟩ = (side T i).bx - n := by show 1 * _ + 0 * _ - n = _; omega
  rw [ep, eq]
  by_cases hs : ((side T i).ax - n).sign = ((side T i).bx - n).sign
  · unfold rX
    rw [rcr_none hs]
    simp [hs]
  · obtain ⟨p, q, e, hq, hpq⟩ := rcr_some hs
    have hs' : ((side T i).p ⟨1, 0, n⟩).sign ≠ ((side T i).q ⟨1, 0, n⟩).sign := by rw [ep, eq]; exact hs
    obtain ⟨hp, hx, hz, -⟩ := crC_at hs'
    have hcv := crC_cv i hs'
    rw [ep, eq] at hx hz
    have hne := (sg_ne hs).1
    have z1 : (crC (side T i) ⟨1, 0, n⟩).z * q = ((side T i).az * q + ((side T i).bz - (side T i).az) * p) * (crC (side T i) ⟨1, 0, n⟩).d := by
      apply Int.eq_of_mul_eq_mul_right hne
      generalize crC (side T i) ⟨1, 0, n⟩ = k at *
      generalize side T i = s at *
      have e2 : k.z * q * (s.ax - n - (s.bx - n)) = (k.z * (s.ax - n - (s.bx - n))) * q := by clear hz hx hpq hne; grind
      rw [e2, hz]
      rcases hpq with ⟨rfl, rfl⟩ | ⟨rfl, rfl⟩ <;> (clear hz hx e2 hne; grind)
    have x1 : (crC (side T i) ⟨1, 0, n⟩).x * q = n * q * (crC (side T i) ⟨1, 0, n⟩).d := by
      apply Int.eq_of_mul_eq_mul_right hne
      generalize crC (side T i) ⟨1, 0, n⟩ = k at *
      generalize side T i = s at *
      have e2 : k.x * q * (s.ax - n - (s.bx - n)) = (k.x * (s.ax - n - (s.bx - n))) * q := by clear hz hx hpq hne z1; grind
      rw [e2, hx]
      clear hz hx e2 hne z1 hpq
      grind
    have er : rcC T (n * q) ((side T i).az * q + ((side T i).bz - (side T i).az) * p) q = crC (side T i) ⟨1, 0, n⟩ := by
      obtain ⟨r1, r2, -⟩ := rc_at (T := T) (px := n * q) (pz := (side T i).az * q + ((side T i).bz - (side T i).az) * p) (den := q) hk hq
      refine pl_one (ok_ny hk) (rc_pl hk hq) (pl_of_cv hcv) (rc_prim hk hq) hp ?_ ?_
      · exact frac_eq (by omega) r1 x1.symm
      · exact frac_eq (by omega) r2 z1.symm
    unfold rX
    rw [e]
    simp only []
    rw [er]
    have hi := inR_iff (z := z) hp.1 (by omega) z1
    by_cases hin : inR ((side T i).az * q + ((side T i).bz - (side T i).az) * p) q z (z + 1) = true
    · rw [if_pos hin, List.mem_singleton]
      constructor
      · rintro rfl; exact ⟨hs, rfl, hi.1 hin⟩
      · rintro ⟨-, h, -⟩; exact h
    · rw [if_neg hin]
      constructor
      · intro h; cases h
      · rintro ⟨-, rfl, h⟩; exact absurd (hi.2 h) hin
theorem mem_rZ {T : TriR} (hk : okT T = true) {x n : Int} (i : Nat) {c : Co} : c ∈ rZ T x n (side T i) ↔ ((side T i).p ⟨0, 1, n⟩).sign ≠ ((side T i).q ⟨0, 1, n⟩).sign ∧ c = crC (side T i) ⟨0, 1, n⟩ ∧ x * c.d ≤ c.x ∧ c.x ≤ (x + 1) * c.d := by
  have ep : (side T i).p ⟨0, 1, n⟩ = (side T i).az - n := by show 0 * _ + 1 * _ - n = _; omega
  have eq : (side T i).q ⟨0, 1, n⟩ = (side T i).bz - n := by show 0 * _ + 1 * _ - n = _; omega
  rw [ep, eq]
  by_cases hs : ((side T i).az - n).sign = ((side T i).bz - n).sign
  · unfold rZ
    rw [rcr_none hs]
    simp [hs]
  · obtain ⟨p, q, e, hq, hpq⟩ := rcr_some hs
    have hs' : ((side T i).p ⟨0, 1, n⟩).sign ≠ ((side T i).q ⟨0, 1, n⟩).sign := by rw [ep, eq]; exact hs
    obtain ⟨hp, hx, hz, -⟩ := crC_at hs'
    have hcv := crC_cv i hs'
    rw [ep, eq] at hx hz
    have hne := (sg_ne hs).1
    have x1 : (crC (side T i) ⟨0, 1, n⟩).x * q = ((side T i).ax * q + ((side T i).bx - (side T i).ax) * p) * (crC (side T i) ⟨0, 1, n⟩).d := by
      apply Int.eq_of_mul_eq_mul_right hne
      generalize crC (side T i) ⟨0, 1, n⟩ = k at *
      generalize side T i = s at *
      have e2 : k.x * q * (s.az - n - (s.bz - n)) = (k.x * (s.az - n - (s.bz - n))) * q := by clear hz hx hpq hne; grind
      rw [e2, hx]
      rcases hpq with ⟨rfl, rfl⟩ | ⟨rfl, rfl⟩ <;> (clear hz hx e2 hne; grind)
    have z1 : (crC (side T i) ⟨0, 1, n⟩).z * q = n * q * (crC (side T i) ⟨0, 1, n⟩).d := by
      apply Int.eq_of_mul_eq_mul_right hne
      generalize crC (side T i) ⟨0, 1, n⟩ = k at *
      generalize side T i = s at *
      have e2 : k.z * q * (s.az - n - (s.bz - n)) = (k.z * (s.az - n - (s.bz - n))) * q := by clear hz hx hpq hne x1; grind
      rw [e2, hz]
      clear hz hx e2 hne x1 hpq
      grind
    have er : rcC T ((side T i).ax * q + ((side T i).bx - (side T i).ax) * p) (n * q) q = crC (side T i) ⟨0, 1, n⟩ := by
      obtain ⟨r1, r2, -⟩ := rc_at (T := T) (px := (side T i).ax * q + ((side T i).bx - (side T i).ax) * p) (pz := n * q) (den := q) hk hq
      refine pl_one (ok_ny hk) (rc_pl hk hq) (pl_of_cv hcv) (rc_prim hk hq) hp ?_ ?_
      · exact frac_eq (by omega) r1 x1.symm
      · exact frac_eq (by omega) r2 z1.symm
    unfold rZ
    rw [e]
    simp only []
    rw [er]
    have hi := inR_iff (z := x) hp.1 (by omega) x1
    by_cases hin : inR ((side T i).ax * q + ((side T i).bx - (side T i).ax) * p) q x (x + 1) = true
    · rw [if_pos hin, List.mem_singleton]
      constructor
      · rintro rfl; exact ⟨hs, rfl, hi.1 hin⟩
      · rintro ⟨-, h, -⟩; exact h
    · rw [if_neg hin]
      constructor
      · intro h; cases h
      · rintro ⟨-, rfl, h⟩; exact absurd (hi.2 h) hin

end Go.Proofs.YtklopjbpfddgfaaGreat

/- The document's own put: a corner into its place, once. -/
namespace Go.Proofs.YtklopjbpfddgfaaGreat
open Go.RowKit
set_option linter.unusedVariables false

/-- Is the first ahead of the second? -/
def ltB (a b : Co) : Bool := decide (0 < b.x * a.d - a.x * b.d) || (b.x * a.d - a.x * b.d == 0 && decide (0 < b.z * a.d - a.z * b.d))
theorem ltB_iff (a b : Co) : ltB a b = true ↔ ltC a b := by
  unfold ltB ltC
  simp only [Bool.or_eq_true, Bool.and_eq_true, decide_eq_true_eq, beq_iff_eq]
  omega

def putGo (c : Co) : List Co → Bool → List Co
  | [], dn => if dn then [] else [c]
  | e :: l, dn => if !(dn || e.eqB c) && ltB c e then c :: e :: putGo c l true else e :: putGo c l (dn || e.eqB c)
theorem putGo_done (c : Co) : ∀ l, putGo c l true = l
  | [] => rfl
  | e :: l => by simp [putGo, putGo_done c l]

theorem put_rise {c : Co} (hc : 0 < c.d) : ∀ l : List Co, (∀ a ∈ l, 0 < a.d) → (∀ a ∈ l, a.x * c.d = c.x * a.d → a.z * c.d = c.z * a.d → a = c) → l.Pairwise ltC → (putGo c l false).Pairwise ltC ∧ ∀ a, a ∈ putGo c l false ↔ a = c ∨ a ∈ l
  | [], _, _, _ => by simp [putGo]
  | e :: l, hd, h1, hl => by
    rw [List.pairwise_cons] at hl
    by_cases he : e = c
    · have q : e.eqB c = true := (Co.eqB_iff e c).2 he
      have e1 : putGo c (e :: l) false = e :: l := by simp [putGo, q, putGo_done]
      rw [e1]
      subst he
      refine ⟨List.pairwise_cons.2 hl, fun a => ?_⟩
      simp [List.mem_cons]
    · have q : e.eqB c = false := by
        cases hq : e.eqB c
        · rfl
        · exact absurd ((Co.eqB_iff e c).1 hq) he
      have hed := hd e List.mem_cons_self
      by_cases hlt : ltC c e
      · have q2 := (ltB_iff c e).2 hlt
        have e1 : putGo c (e :: l) false = c :: e :: l := by simp [putGo, q, q2, putGo_done]
        rw [e1]
        refine ⟨List.pairwise_cons.2 ⟨fun a ha => ?_, List.pairwise_cons.2 hl⟩, fun a => by simp [List.mem_cons]⟩
        rcases List.mem_cons.1 ha with rfl | ha
        · exact hlt
        · exact ltC_trans hc hed (hd a (List.mem_cons_of_mem _ ha)) hlt (hl.1 a ha)
      · have q2 : ltB c e = false := by
          cases hq : ltB c e
          · rfl
          · exact absurd ((ltB_iff c e).1 hq) hlt
        have e1 : putGo c (e :: l) false = e :: putGo c l false := by simp [putGo, q, q2]
        obtain ⟨i1, i2⟩ := put_rise hc l (fun a ha => hd a (List.mem_cons_of_mem _ ha)) (fun a ha => h1 a (List.mem_cons_of_mem _ ha)) hl.2
        rw [e1]
        refine ⟨List.pairwise_cons.2 ⟨fun a ha => ?_, i1⟩, fun a => ?_⟩
        · rcases (i2 a).1 ha with rfl | ha
          · rcases ltC_tri e a with k | k | ⟨k1, k2⟩
            · exact k
            · exact absurd k hlt
            · exact absurd (h1 e List.mem_cons_self k1 k2) he
          · exact hl.1 a ha
        · rw [List.mem_cons, i2 a, List.mem_cons]
          constructor
          · rintro (h | h | h)
            · exact .inr (.inl h)
            · exact .inl h
            · exact .inr (.inr h)
          · rintro (h | h | h)
            · exact .inr (.inl h)
            · exact .inl h
            · exact .inr (.inr h)
theorem putGo_len (c : Co) : ∀ (l : List Co) (dn : Bool), (putGo c l dn).length ≤ l.length + 1
  | [], dn => by unfold putGo; split <;> simp
  | e :: l, dn => by
    unfold putGo
    split
    · rw [putGo_done]; simp
    · have := putGo_len c l (dn || e.eqB c); simp; omega

set_option maxHeartbeats 8000000 in
set_option maxRecDepth 100000 in
theorem r_put (v : Value) (l : List Co) (c : Co) (w : World) (hs : Sl Co.enc 4 w v l) (hl : l.length ≤ 100) (hc : Okc c) (hok : ∀ a ∈ l, Okc a) :
    Calls Tryz.prog 93 #[v, .agg #[.int .i64 c.x, .int .i64 c.z, .int .i64 c.y, .int .i64 c.d]] w fun e w' => ∃ v', e = .returned v' ∧ Sl Co.enc 4 w' v' (putGo c l false) ∧ New w w' := by
  obtain ⟨i0, hi, hz0, hz1, hz2⟩ := info_parts co_info
  have HI := Lib.hid hi
  have HZ0 := Lib.hid hz0
  have HZ1 := Lib.hid hz1
  have HZ2 := Lib.hid hz2
  obtain ⟨at0, cap, rfl, hcap, hmax, -, hrow⟩ := hs
  have HR := Lib.hid hrow
  have HOK := Lib.hid hok
  obtain ⟨⟨d1, d2⟩, ⟨ox1, ox2⟩, ⟨oz1, oz2⟩, oy1, oy2⟩ := hc
  unfold maxLen at hmax
  obtain ⟨n, hn⟩ : ∃ n, n = l.length := ⟨_, rfl⟩
  rw [← hn] at hl hcap ⊢
  have HNL := Lib.hid hn
  clear hi hz0 hz1 hz2 hrow hok hn
  go_enter Tryz.func93, Tryz.ntmps93
  go_wp2_with fail
  refine Code.at (fun W0 hW => ?_)
  have n0 : New w W0 := by subst hW; (repeat (first | (with_reducible exact New.refl _) | (with_reducible assumption) | ((with_reducible refine New.setB ?_ ?_ _); focus (first | omega | (simp; omega) | (simp; done))) | (with_reducible refine New.alloc ?_ _) | (with_reducible refine New.drew ?_) | (with_reducible refine New.drewN ?_ _) | (with_reducible refine New.hat ?_ _) | ((with_reducible apply New.snart); (with_reducible assumption))))
  have k0 : W0.cell? ⟨w.heap.size, 0, none⟩ = some (.int .i64 c.x) := by subst hW; go_simp
  have k1 : W0.cell? ⟨w.heap.size, 1, none⟩ = some (.int .i64 c.z) := by subst hW; go_simp
  have k2 : W0.cell? ⟨w.heap.size, 2, none⟩ = some (.int .i64 c.y) := by subst hW; go_simp
  have k3 : W0.cell? ⟨w.heap.size, 3, none⟩ = some (.int .i64 c.d) := by subst hW; go_simp
  have zb : w.heap.size < W0.heap.size := World.block_lt_of_cell? _ _ k0
  have HKC := Lib.hid (And.intro k0 (And.intro k1 (And.intro k2 k3)))
  have HN0 := Lib.hid n0
  have HR0 := Lib.hid (HR.out.keep n0)
  have HS : Hid ([] ++ putGo c (l.drop 0) false = putGo c l false) := Lib.hid (by rw [List.drop_zero]; rfl)
  clear hW n0 k0 k1 k2 k3 HR
  go_loopg [5, 6, 7] n (fun gk s5 s6 s7 wr => ∃ (i : Nat) (o : List Co) (u : Value) (dn : Bool), u = s5 ∧ s6 = .bool dn ∧ s7 = .int .i64 i ∧ i ≤ n ∧ n - i ≤ gk ∧ o.length ≤ 2 * i + 1 ∧ Hid (o ++ putGo c (l.drop i) dn = putGo c l false) ∧ Hid (wr.ownsRow W0.heap.size 117 4 u o.length (o.flatMap Co.enc)) ∧ Hid (New W0 wr))
  case atStart => exact ⟨0, [], _, false, rfl, rfl, rfl, by omega, by omega, by simp, HS, Lib.hid (World.ownsRow_nil _ _ _ _), Lib.hid (New.refl _)⟩
  case round =>
    obtain ⟨i, o, u, dn, rfl, rfl, rfl, hi, hgk, ho, HE, HO, HN⟩ := hrel
    have zs := HN.out.size
    by_cases hlt : i < n
    · have hil : i < l.length := by rw [← HNL.out]; exact hlt
      obtain ⟨g, off, rfl, hA⟩ := HR0.out (by omega)
      have HA2 := Lib.hid hA
      have hrow := hA.keep HN.out
      have r0 : wr.cell? ⟨g, off + i * 4, none⟩ = some (.int .i64 l[i].x) := hrow i hil 0 (by rw [Co.enc_len]; omega)
      have r1 : wr.cell? ⟨g, off + i * 4 + 1, none⟩ = some (.int .i64 l[i].z) := hrow i hil 1 (by rw [Co.enc_len]; omega)
      have r2 : wr.cell? ⟨g, off + i * 4 + 2, none⟩ = some (.int .i64 l[i].y) := hrow i hil 2 (by rw [Co.enc_len]; omega)
      have r3 : wr.cell? ⟨g, off + i * 4 + 3, none⟩ = some (.int .i64 l[i].d) := hrow i hil 3 (by rw [Co.enc_len]; omega)
      have k0 := HN.out.keep HKC.out.1
      have k1 := HN.out.keep HKC.out.2.1
      have k2 := HN.out.keep HKC.out.2.2.1
      have k3 := HN.out.keep HKC.out.2.2.2
      have hdr : l.drop i = l[i] :: l.drop (i + 1) := List.drop_eq_getElem_cons hil
      have HD := Lib.hid hdr
      obtain ⟨⟨e1, e2⟩, ⟨ex1, ex2⟩, ⟨ez1, ez2⟩, ey1, ey2⟩ := HOK.out l[i] (List.getElem_mem hil)
      obtain ⟨E, hE⟩ : ∃ E, E = l[i] := ⟨_, rfl⟩
      have hEL := Lib.hid hE
      rw [← hE] at r0 r1 r2 r3 HD e1 e2 ex1 ex2 ez1 ez2 ey1 ey2
      have m1 := mul_bd (a := E.x) (b := c.d) (A := 1073741824) (B := 1048576) ⟨ex1, ex2⟩ (by omega)
      have m2 := mul_bd (a := c.x) (b := E.d) (A := 1073741824) (B := 1048576) ⟨ox1, ox2⟩ (by omega)
      have m3 := mul_bd (a := E.z) (b := c.d) (A := 1073741824) (B := 1048576) ⟨ez1, ez2⟩ (by omega)
      have m4 := mul_bd (a := c.z) (b := E.d) (A := 1073741824) (B := 1048576) ⟨oz1, oz2⟩ (by omega)
      have HDN : Hid (putGo c (l.drop i) dn = if !(dn || E.eqB c) && ltB c E then c :: E :: putGo c (l.drop (i + 1)) true else E :: putGo c (l.drop (i + 1)) (dn || E.eqB c)) := Lib.hid (by rw [HD.out]; rfl)
      have EQ := fun W => co_eql W E c
      obtain ⟨q, hq⟩ : ∃ q, q = E.eqB c := ⟨_, rfl⟩
      rw [← hq] at EQ HDN
      obtain ⟨lt, hlt'⟩ : ∃ b, b = ltB c E := ⟨_, rfl⟩
      rw [← hlt'] at HDN
      have HLT := Lib.hid hlt'
      clear hrow hA hdr hE HD hq hlt'
      go_upto_region 6 with fail
      (refine wp_region_hat (by kernel_rfl) (by kernel_rfl) ?_; intro hatc hatf; (repeat (go_big_quiet_step ((fail)))); refine wpQuiet_nil ?_; rintro _ ⟨X6, rfl⟩)
      clear hatc hatf EQ
      have HN6 := Lib.hid (HN.out.trans X6.h)
      have HO6 := Lib.hid (own_new HO.out X6.h)
      (replace r0 := New.keep X6.h r0; replace r1 := New.keep X6.h r1; replace r2 := New.keep X6.h r2; replace r3 := New.keep X6.h r3; replace k0 := New.keep X6.h k0; replace k1 := New.keep X6.h k1; replace k2 := New.keep X6.h k2; replace k3 := New.keep X6.h k3)
      generalize X6.w = W6 at *
      clear X6 HN HO zs
      have zs := HN6.out.size
      have w1 : IntKind.i64.wrap (E.x * c.d) = E.x * c.d := IntWalk.i64_in _ (by omega)
      have w2 : IntKind.i64.wrap (c.x * E.d) = c.x * E.d := IntWalk.i64_in _ (by omega)
      have w3 : IntKind.i64.wrap (E.x * c.d - c.x * E.d) = E.x * c.d - c.x * E.d := IntWalk.i64_in _ (by omega)
      have w4 : IntKind.i64.wrap (E.z * c.d) = E.z * c.d := IntWalk.i64_in _ (by omega)
      have w5 : IntKind.i64.wrap (c.z * E.d) = c.z * E.d := IntWalk.i64_in _ (by omega)
      have w6 : IntKind.i64.wrap (E.z * c.d - c.z * E.d) = E.z * c.d - c.z * E.d := IntWalk.i64_in _ (by omega)
      have HWR := Lib.hid (And.intro w1 (And.intro w2 (And.intro w3 (And.intro w4 (And.intro w5 w6)))))
      have HLB : Hid (lt = (decide (0 < E.x * c.d - c.x * E.d) || (E.x * c.d - c.x * E.d == 0 && decide (0 < E.z * c.d - c.z * E.d)))) := HLT
      clear w1 w2 w3 w4 w5 w6 m1 m2 m3 m4 HLT
      cases dn with
      | true =>
        have HE2 : Hid ((o ++ [E]) ++ putGo c (l.drop (i + 1)) true = putGo c l false) := Lib.hid (by rw [← HE.out, HDN.out]; simp [putGo_done])
        clear HDN HE
        cases q
        ·
          go_upto_region 8 with fail
          obtain ⟨w1, w2, w3, w4, w5, w6⟩ := HWR.out
          (refine wp_region_hat (by kernel_rfl) (by kernel_rfl) ?_; intro hatc hatf; (repeat (go_big_quiet_step ((fail)))); refine wpQuiet_nil ?_; rintro _ ⟨X, rfl⟩)
          clear hatc hatf w1 w2 w3 w4 w5 w6
          have HN6 := Lib.hid (HN6.out.trans X.h)
          have HO6 := Lib.hid (own_new HO6.out X.h)
          (replace r0 := New.keep X.h r0; replace r1 := New.keep X.h r1; replace r2 := New.keep X.h r2; replace r3 := New.keep X.h r3; replace k0 := New.keep X.h k0; replace k1 := New.keep X.h k1; replace k2 := New.keep X.h k2; replace k3 := New.keep X.h k3)
          generalize X.w = W6 at *
          clear X
          go_upto_region 9 with fail
          obtain ⟨w1, w2, w3, w4, w5, w6⟩ := HWR.out
          (refine wp_region_hat (by kernel_rfl) (by kernel_rfl) ?_; intro hatc hatf; (repeat (go_big_quiet_step ((fail)))); refine wpQuiet_nil ?_; rintro _ ⟨X, rfl⟩)
          clear hatc hatf w1 w2 w3 w4 w5 w6
          have HN6 := Lib.hid (HN6.out.trans X.h)
          have HO6 := Lib.hid (own_new HO6.out X.h)
          (replace r0 := New.keep X.h r0; replace r1 := New.keep X.h r1; replace r2 := New.keep X.h r2; replace r3 := New.keep X.h r3; replace k0 := New.keep X.h k0; replace k1 := New.keep X.h k1; replace k2 := New.keep X.h k2; replace k3 := New.keep X.h k3)
          generalize X.w = W6 at *
          clear X
          have zs := HN6.out.size
          clear HWR HLB
          have hol : (o).length ≤ 250 := by (try simp only [List.length_append, List.length_cons, List.length_nil]); omega
          have hzw : W0.heap.size ≤ W6.heap.size := HN6.out.size
          go_wp2_with (at_builtin; refine wpList_append_own _ rfl _ _ 111 rfl W0.heap.size 117 i0 (.agg #[.int .i64 0, .int .i64 0, .int .i64 0, .int .i64 0]) 4 32 Tryz.underlying111 HI.out HZ0.out HZ1.out HZ2.out rfl (by decide) _ (o).length ((o).flatMap Co.enc) rfl (World.ownsRow.alloc HO6.out _) ⟨W6.heap.size, 0, none⟩ 1 1 E.enc rfl rfl (co_new _ _ _) (Co.enc_one E) (by unfold maxLen; omega) (by omega) (by simp; omega) ?_)
          intro v7 W7 ho7 hg7 _
          have HO7 : Hid (W7.ownsRow W0.heap.size 117 4 v7 (o ++ [E]).length ((o ++ [E]).flatMap Co.enc)) := Lib.hid (by rw [List.length_append, List.flatMap_append]; simpa using ho7)
          have HN7 : Hid (New W0 W7) := Lib.hid (newGrown (HN6.out.trans (by (repeat (first | (with_reducible exact New.refl _) | (with_reducible assumption) | ((with_reducible refine New.setB ?_ ?_ _); focus (first | omega | (simp; omega) | (simp; done))) | (with_reducible refine New.alloc ?_ _) | (with_reducible refine New.drew ?_) | (with_reducible refine New.drewN ?_ _) | (with_reducible refine New.hat ?_ _) | ((with_reducible apply New.snart); (with_reducible assumption)))))) hg7 (fun j hj => own_block HO6.out j hj))
          have n7 : New W0 W7 := HN7.out
          clear ho7 hg7 r0 r1 r2 r3 k0 k1 k2 k3 hol hzw
          go_wp2_with fail
          go_roundg (n - (i + 1))
          case measure => omega
          case rel => exact ⟨i + 1, o ++ [E], v7, true, rfl, rfl, by go_num, by omega, by omega, by simp only [List.length_append, List.length_cons, List.length_nil]; omega, HE2, HO7, HN7⟩
        ·
          go_upto_region 8 with fail
          obtain ⟨w1, w2, w3, w4, w5, w6⟩ := HWR.out
          (refine wp_region_hat (by kernel_rfl) (by kernel_rfl) ?_; intro hatc hatf; (repeat (go_big_quiet_step ((fail)))); refine wpQuiet_nil ?_; rintro _ ⟨X, rfl⟩)
          clear hatc hatf w1 w2 w3 w4 w5 w6
          have HN6 := Lib.hid (HN6.out.trans X.h)
          have HO6 := Lib.hid (own_new HO6.out X.h)
          (replace r0 := New.keep X.h r0; replace r1 := New.keep X.h r1; replace r2 := New.keep X.h r2; replace r3 := New.keep X.h r3; replace k0 := New.keep X.h k0; replace k1 := New.keep X.h k1; replace k2 := New.keep X.h k2; replace k3 := New.keep X.h k3)
          generalize X.w = W6 at *
          clear X
          go_upto_region 9 with fail
          obtain ⟨w1, w2, w3, w4, w5, w6⟩ := HWR.out
          (refine wp_region_hat (by kernel_rfl) (by kernel_rfl) ?_; intro hatc hatf; (repeat (go_big_quiet_step ((fail)))); refine wpQuiet_nil ?_; rintro _ ⟨X, rfl⟩)
          clear hatc hatf w1 w2 w3 w4 w5 w6
          have HN6 := Lib.hid (HN6.out.trans X.h)
          have HO6 := Lib.hid (own_new HO6.out X.h)
          (replace r0 := New.keep X.h r0; replace r1 := New.keep X.h r1; replace r2 := New.keep X.h r2; replace r3 := New.keep X.h r3; replace k0 := New.keep X.h k0; replace k1 := New.keep X.h k1; replace k2 := New.keep X.h k2; replace k3 := New.keep X.h k3)
          generalize X.w = W6 at *
          clear X
          have zs := HN6.out.size
          clear HWR HLB
          have hol : (o).length ≤ 250 := by (try simp only [List.length_append, List.length_cons, List.length_nil]); omega
          have hzw : W0.heap.size ≤ W6.heap.size := HN6.out.size
          go_wp2_with (at_builtin; refine wpList_append_own _ rfl _ _ 111 rfl W0.heap.size 117 i0 (.agg #[.int .i64 0, .int .i64 0, .int .i64 0, .int .i64 0]) 4 32 Tryz.underlying111 HI.out HZ0.out HZ1.out HZ2.out rfl (by decide) _ (o).length ((o).flatMap Co.enc) rfl (World.ownsRow.alloc HO6.out _) ⟨W6.heap.size, 0, none⟩ 1 1 E.enc rfl rfl (co_new _ _ _) (Co.enc_one E) (by unfold maxLen; omega) (by omega) (by simp; omega) ?_)
          intro v7 W7 ho7 hg7 _
          have HO7 : Hid (W7.ownsRow W0.heap.size 117 4 v7 (o ++ [E]).length ((o ++ [E]).flatMap Co.enc)) := Lib.hid (by rw [List.length_append, List.flatMap_append]; simpa using ho7)
          have HN7 : Hid (New W0 W7) := Lib.hid (newGrown (HN6.out.trans (by (repeat (first | (with_reducible exact New.refl _) | (with_reducible assumption) | ((with_reducible refine New.setB ?_ ?_ _); focus (first | omega | (simp; omega) | (simp; done))) | (with_reducible refine New.alloc ?_ _) | (with_reducible refine New.drew ?_) | (with_reducible refine New.drewN ?_ _) | (with_reducible refine New.hat ?_ _) | ((with_reducible apply New.snart); (with_reducible assumption)))))) hg7 (fun j hj => own_block HO6.out j hj))
          have n7 : New W0 W7 := HN7.out
          clear ho7 hg7 r0 r1 r2 r3 k0 k1 k2 k3 hol hzw
          go_wp2_with fail
          go_roundg (n - (i + 1))
          case measure => omega
          case rel => exact ⟨i + 1, o ++ [E], v7, true, rfl, rfl, by go_num, by omega, by omega, by simp only [List.length_append, List.length_cons, List.length_nil]; omega, HE2, HO7, HN7⟩
      | false =>
        cases q with
        | true =>
          have HE2 : Hid ((o ++ [E]) ++ putGo c (l.drop (i + 1)) true = putGo c l false) := Lib.hid (by rw [← HE.out, HDN.out]; simp)
          clear HDN HE
          go_upto_region 8 with fail
          obtain ⟨w1, w2, w3, w4, w5, w6⟩ := HWR.out
          (refine wp_region_hat (by kernel_rfl) (by kernel_rfl) ?_; intro hatc hatf; (repeat (go_big_quiet_step ((fail)))); refine wpQuiet_nil ?_; rintro _ ⟨X, rfl⟩)
          clear hatc hatf w1 w2 w3 w4 w5 w6
          have HN6 := Lib.hid (HN6.out.trans X.h)
          have HO6 := Lib.hid (own_new HO6.out X.h)
          (replace r0 := New.keep X.h r0; replace r1 := New.keep X.h r1; replace r2 := New.keep X.h r2; replace r3 := New.keep X.h r3; replace k0 := New.keep X.h k0; replace k1 := New.keep X.h k1; replace k2 := New.keep X.h k2; replace k3 := New.keep X.h k3)
          generalize X.w = W6 at *
          clear X
          go_upto_region 9 with fail
          obtain ⟨w1, w2, w3, w4, w5, w6⟩ := HWR.out
          (refine wp_region_hat (by kernel_rfl) (by kernel_rfl) ?_; intro hatc hatf; (repeat (go_big_quiet_step ((fail)))); refine wpQuiet_nil ?_; rintro _ ⟨X, rfl⟩)
          clear hatc hatf w1 w2 w3 w4 w5 w6
          have HN6 := Lib.hid (HN6.out.trans X.h)
          have HO6 := Lib.hid (own_new HO6.out X.h)
          (replace r0 := New.keep X.h r0; replace r1 := New.keep X.h r1; replace r2 := New.keep X.h r2; replace r3 := New.keep X.h r3; replace k0 := New.keep X.h k0; replace k1 := New.keep X.h k1; replace k2 := New.keep X.h k2; replace k3 := New.keep X.h k3)
          generalize X.w = W6 at *
          clear X
          have zs := HN6.out.size
          clear HWR HLB
          have hol : (o).length ≤ 250 := by (try simp only [List.length_append, List.length_cons, List.length_nil]); omega
          have hzw : W0.heap.size ≤ W6.heap.size := HN6.out.size
          go_wp2_with (at_builtin; refine wpList_append_own _ rfl _ _ 111 rfl W0.heap.size 117 i0 (.agg #[.int .i64 0, .int .i64 0, .int .i64 0, .int .i64 0]) 4 32 Tryz.underlying111 HI.out HZ0.out HZ1.out HZ2.out rfl (by decide) _ (o).length ((o).flatMap Co.enc) rfl (World.ownsRow.alloc HO6.out _) ⟨W6.heap.size, 0, none⟩ 1 1 E.enc rfl rfl (co_new _ _ _) (Co.enc_one E) (by unfold maxLen; omega) (by omega) (by simp; omega) ?_)
          intro v7 W7 ho7 hg7 _
          have HO7 : Hid (W7.ownsRow W0.heap.size 117 4 v7 (o ++ [E]).length ((o ++ [E]).flatMap Co.enc)) := Lib.hid (by rw [List.length_append, List.flatMap_append]; simpa using ho7)
          have HN7 : Hid (New W0 W7) := Lib.hid (newGrown (HN6.out.trans (by (repeat (first | (with_reducible exact New.refl _) | (with_reducible assumption) | ((with_reducible refine New.setB ?_ ?_ _); focus (first | omega | (simp; omega) | (simp; done))) | (with_reducible refine New.alloc ?_ _) | (with_reducible refine New.drew ?_) | (with_reducible refine New.drewN ?_ _) | (with_reducible refine New.hat ?_ _) | ((with_reducible apply New.snart); (with_reducible assumption)))))) hg7 (fun j hj => own_block HO6.out j hj))
          have n7 : New W0 W7 := HN7.out
          clear ho7 hg7 r0 r1 r2 r3 k0 k1 k2 k3 hol hzw
          go_wp2_with fail
          go_roundg (n - (i + 1))
          case measure => omega
          case rel => exact ⟨i + 1, o ++ [E], v7, true, rfl, rfl, by go_num, by omega, by omega, by simp only [List.length_append, List.length_cons, List.length_nil]; omega, HE2, HO7, HN7⟩
        | false =>
          go_upto_region 8 with fail
          obtain ⟨w1, w2, w3, w4, w5, w6⟩ := HWR.out
          (refine wp_region_hat (by kernel_rfl) (by kernel_rfl) ?_; intro hatc hatf; (repeat (go_big_quiet_step ((fail)))); refine wpQuiet_nil ?_; rintro _ ⟨X, rfl⟩)
          clear hatc hatf w1 w2 w3 w4 w5 w6
          have HN6 := Lib.hid (HN6.out.trans X.h)
          have HO6 := Lib.hid (own_new HO6.out X.h)
          (replace r0 := New.keep X.h r0; replace r1 := New.keep X.h r1; replace r2 := New.keep X.h r2; replace r3 := New.keep X.h r3; replace k0 := New.keep X.h k0; replace k1 := New.keep X.h k1; replace k2 := New.keep X.h k2; replace k3 := New.keep X.h k3)
          generalize X.w = W6 at *
          clear X
          go_upto_region 9 with fail
          obtain ⟨w1, w2, w3, w4, w5, w6⟩ := HWR.out
          (refine wp_region_hat (by kernel_rfl) (by kernel_rfl) ?_; intro hatc hatf; (repeat (go_big_quiet_step ((fail)))); refine wpQuiet_nil ?_; rintro _ ⟨X, rfl⟩)
          clear hatc hatf w1 w2 w3 w4 w5 w6
          have HN6 := Lib.hid (HN6.out.trans X.h)
          have HO6 := Lib.hid (own_new HO6.out X.h)
          (replace r0 := New.keep X.h r0; replace r1 := New.keep X.h r1; replace r2 := New.keep X.h r2; replace r3 := New.keep X.h r3; replace k0 := New.keep X.h k0; replace k1 := New.keep X.h k1; replace k2 := New.keep X.h k2; replace k3 := New.keep X.h k3)
          generalize X.w = W6 at *
          clear X
          have zs := HN6.out.size
          clear HWR
          obtain ⟨DX, hDX⟩ : ∃ d, d = E.x * c.d - c.x * E.d := ⟨_, rfl⟩
          obtain ⟨DZ, hDZ⟩ : ∃ d, d = E.z * c.d - c.z * E.d := ⟨_, rfl⟩
          rw [← hDX, ← hDZ] at HLB ⊢
          clear hDX hDZ
          cases t1 : decide (0 < DX)
          · cases t2 : (DX == 0)
            ·
              have HL : Hid (lt = false) := Lib.hid (by rw [HLB.out, t1, t2]; first | rfl | (rw [t3]; rfl))
              have HE2 : Hid ((o ++ [E]) ++ putGo c (l.drop (i + 1)) false = putGo c l false) := Lib.hid (by rw [← HE.out, HDN.out, HL.out]; simp)
              clear HDN HE HLB HL
              have hol : (o).length ≤ 250 := by (try simp only [List.length_append, List.length_cons, List.length_nil]); omega
              have hzw : W0.heap.size ≤ W6.heap.size := HN6.out.size
              go_wp2_with (at_builtin; refine wpList_append_own _ rfl _ _ 111 rfl W0.heap.size 117 i0 (.agg #[.int .i64 0, .int .i64 0, .int .i64 0, .int .i64 0]) 4 32 Tryz.underlying111 HI.out HZ0.out HZ1.out HZ2.out rfl (by decide) _ (o).length ((o).flatMap Co.enc) rfl (World.ownsRow.alloc HO6.out _) ⟨W6.heap.size, 0, none⟩ 1 1 E.enc rfl rfl (co_new _ _ _) (Co.enc_one E) (by unfold maxLen; omega) (by omega) (by simp; omega) ?_)
              intro v7 W7 ho7 hg7 _
              have HO7 : Hid (W7.ownsRow W0.heap.size 117 4 v7 (o ++ [E]).length ((o ++ [E]).flatMap Co.enc)) := Lib.hid (by rw [List.length_append, List.flatMap_append]; simpa using ho7)
              have HN7 : Hid (New W0 W7) := Lib.hid (newGrown (HN6.out.trans (by (repeat (first | (with_reducible exact New.refl _) | (with_reducible assumption) | ((with_reducible refine New.setB ?_ ?_ _); focus (first | omega | (simp; omega) | (simp; done))) | (with_reducible refine New.alloc ?_ _) | (with_reducible refine New.drew ?_) | (with_reducible refine New.drewN ?_ _) | (with_reducible refine New.hat ?_ _) | ((with_reducible apply New.snart); (with_reducible assumption)))))) hg7 (fun j hj => own_block HO6.out j hj))
              have n7 : New W0 W7 := HN7.out
              clear ho7 hg7 r0 r1 r2 r3 k0 k1 k2 k3 hol hzw
              go_wp2_with fail
              go_roundg (n - (i + 1))
              case measure => omega
              case rel => exact ⟨i + 1, o ++ [E], v7, false, rfl, rfl, by go_num, by omega, by omega, by simp only [List.length_append, List.length_cons, List.length_nil]; omega, HE2, HO7, HN7⟩
            · cases t3 : decide (0 < DZ)
              ·
                have HL : Hid (lt = false) := Lib.hid (by rw [HLB.out, t1, t2]; first | rfl | (rw [t3]; rfl))
                have HE2 : Hid ((o ++ [E]) ++ putGo c (l.drop (i + 1)) false = putGo c l false) := Lib.hid (by rw [← HE.out, HDN.out, HL.out]; simp)
                clear HDN HE HLB HL
                have hol : (o).length ≤ 250 := by (try simp only [List.length_append, List.length_cons, List.length_nil]); omega
                have hzw : W0.heap.size ≤ W6.heap.size := HN6.out.size
                go_wp2_with (at_builtin; refine wpList_append_own _ rfl _ _ 111 rfl W0.heap.size 117 i0 (.agg #[.int .i64 0, .int .i64 0, .int .i64 0, .int .i64 0]) 4 32 Tryz.underlying111 HI.out HZ0.out HZ1.out HZ2.out rfl (by decide) _ (o).length ((o).flatMap Co.enc) rfl (World.ownsRow.alloc HO6.out _) ⟨W6.heap.size, 0, none⟩ 1 1 E.enc rfl rfl (co_new _ _ _) (Co.enc_one E) (by unfold maxLen; omega) (by omega) (by simp; omega) ?_)
                intro v7 W7 ho7 hg7 _
                have HO7 : Hid (W7.ownsRow W0.heap.size 117 4 v7 (o ++ [E]).length ((o ++ [E]).flatMap Co.enc)) := Lib.hid (by rw [List.length_append, List.flatMap_append]; simpa using ho7)
                have HN7 : Hid (New W0 W7) := Lib.hid (newGrown (HN6.out.trans (by (repeat (first | (with_reducible exact New.refl _) | (with_reducible assumption) | ((with_reducible refine New.setB ?_ ?_ _); focus (first | omega | (simp; omega) | (simp; done))) | (with_reducible refine New.alloc ?_ _) | (with_reducible refine New.drew ?_) | (with_reducible refine New.drewN ?_ _) | (with_reducible refine New.hat ?_ _) | ((with_reducible apply New.snart); (with_reducible assumption)))))) hg7 (fun j hj => own_block HO6.out j hj))
                have n7 : New W0 W7 := HN7.out
                clear ho7 hg7 r0 r1 r2 r3 k0 k1 k2 k3 hol hzw
                go_wp2_with fail
                go_roundg (n - (i + 1))
                case measure => omega
                case rel => exact ⟨i + 1, o ++ [E], v7, false, rfl, rfl, by go_num, by omega, by omega, by simp only [List.length_append, List.length_cons, List.length_nil]; omega, HE2, HO7, HN7⟩
              ·
                have HL : Hid (lt = true) := Lib.hid (by rw [HLB.out, t1]; first | rfl | (rw [t2, t3]; rfl))
                have HE2 : Hid ((o ++ [c] ++ [E]) ++ putGo c (l.drop (i + 1)) true = putGo c l false) := Lib.hid (by rw [← HE.out, HDN.out, HL.out]; simp)
                clear HDN HE HLB HL
                have hol : (o).length ≤ 250 := by (try simp only [List.length_append, List.length_cons, List.length_nil]); omega
                have hzw : W0.heap.size ≤ W6.heap.size := HN6.out.size
                go_wp2_with (at_builtin; refine wpList_append_own _ rfl _ _ 111 rfl W0.heap.size 117 i0 (.agg #[.int .i64 0, .int .i64 0, .int .i64 0, .int .i64 0]) 4 32 Tryz.underlying111 HI.out HZ0.out HZ1.out HZ2.out rfl (by decide) _ (o).length ((o).flatMap Co.enc) rfl (World.ownsRow.alloc HO6.out _) ⟨W6.heap.size, 0, none⟩ 1 1 c.enc rfl rfl (co_new _ _ _) (Co.enc_one c) (by unfold maxLen; omega) (by omega) (by simp; omega) ?_)
                intro v7 W7 ho7 hg7 _
                have HO7 : Hid (W7.ownsRow W0.heap.size 117 4 v7 (o ++ [c]).length ((o ++ [c]).flatMap Co.enc)) := Lib.hid (by rw [List.length_append, List.flatMap_append]; simpa using ho7)
                have HN7 : Hid (New W0 W7) := Lib.hid (newGrown (HN6.out.trans (by (repeat (first | (with_reducible exact New.refl _) | (with_reducible assumption) | ((with_reducible refine New.setB ?_ ?_ _); focus (first | omega | (simp; omega) | (simp; done))) | (with_reducible refine New.alloc ?_ _) | (with_reducible refine New.drew ?_) | (with_reducible refine New.drewN ?_ _) | (with_reducible refine New.hat ?_ _) | ((with_reducible apply New.snart); (with_reducible assumption)))))) hg7 (fun j hj => own_block HO6.out j hj))
                have n7 : New W0 W7 := HN7.out
                have hrow2 := HA2.out.keep HN7.out
                replace r0 : W7.cell? ⟨g, off + i * 4, none⟩ = some (.int .i64 E.x) := by rw [hEL.out]; exact hrow2 i hil 0 (by rw [Co.enc_len]; omega)
                replace r1 : W7.cell? ⟨g, off + i * 4 + 1, none⟩ = some (.int .i64 E.z) := by rw [hEL.out]; exact hrow2 i hil 1 (by rw [Co.enc_len]; omega)
                replace r2 : W7.cell? ⟨g, off + i * 4 + 2, none⟩ = some (.int .i64 E.y) := by rw [hEL.out]; exact hrow2 i hil 2 (by rw [Co.enc_len]; omega)
                replace r3 : W7.cell? ⟨g, off + i * 4 + 3, none⟩ = some (.int .i64 E.d) := by rw [hEL.out]; exact hrow2 i hil 3 (by rw [Co.enc_len]; omega)
                have k0 := HN7.out.keep HKC.out.1
                have k1 := HN7.out.keep HKC.out.2.1
                have k2 := HN7.out.keep HKC.out.2.2.1
                have k3 := HN7.out.keep HKC.out.2.2.2
                clear ho7 hg7 hrow2 hol hzw
                have hol : (o ++ [c]).length ≤ 250 := by (try simp only [List.length_append, List.length_cons, List.length_nil]); omega
                have hzw : W0.heap.size ≤ W7.heap.size := HN7.out.size
                go_wp2_with (at_builtin; refine wpList_append_own _ rfl _ _ 111 rfl W0.heap.size 117 i0 (.agg #[.int .i64 0, .int .i64 0, .int .i64 0, .int .i64 0]) 4 32 Tryz.underlying111 HI.out HZ0.out HZ1.out HZ2.out rfl (by decide) _ (o ++ [c]).length ((o ++ [c]).flatMap Co.enc) rfl (World.ownsRow.alloc HO7.out _) ⟨W7.heap.size, 0, none⟩ 1 1 E.enc rfl rfl (co_new _ _ _) (Co.enc_one E) (by unfold maxLen; omega) (by omega) (by simp; omega) ?_)
                intro v8 W8 ho8 hg8 _
                have HO8 : Hid (W8.ownsRow W0.heap.size 117 4 v8 (o ++ [c] ++ [E]).length ((o ++ [c] ++ [E]).flatMap Co.enc)) := Lib.hid (by rw [List.length_append, List.flatMap_append]; simpa using ho8)
                have HN8 : Hid (New W0 W8) := Lib.hid (newGrown (HN7.out.trans (by (repeat (first | (with_reducible exact New.refl _) | (with_reducible assumption) | ((with_reducible refine New.setB ?_ ?_ _); focus (first | omega | (simp; omega) | (simp; done))) | (with_reducible refine New.alloc ?_ _) | (with_reducible refine New.drew ?_) | (with_reducible refine New.drewN ?_ _) | (with_reducible refine New.hat ?_ _) | ((with_reducible apply New.snart); (with_reducible assumption)))))) hg8 (fun j hj => own_block HO7.out j hj))
                have n8 : New W0 W8 := HN8.out
                clear ho8 hg8 r0 r1 r2 r3 k0 k1 k2 k3 hol hzw
                go_wp2_with fail
                go_roundg (n - (i + 1))
                case measure => omega
                case rel => exact ⟨i + 1, o ++ [c] ++ [E], v8, true, rfl, rfl, by go_num, by omega, by omega, by simp only [List.length_append, List.length_cons, List.length_nil]; omega, HE2, HO8, HN8⟩
          ·
            have HL : Hid (lt = true) := Lib.hid (by rw [HLB.out, t1]; first | rfl | (rw [t2, t3]; rfl))
            have HE2 : Hid ((o ++ [c] ++ [E]) ++ putGo c (l.drop (i + 1)) true = putGo c l false) := Lib.hid (by rw [← HE.out, HDN.out, HL.out]; simp)
            clear HDN HE HLB HL
            have hol : (o).length ≤ 250 := by (try simp only [List.length_append, List.length_cons, List.length_nil]); omega
            have hzw : W0.heap.size ≤ W6.heap.size := HN6.out.size
            go_wp2_with (at_builtin; refine wpList_append_own _ rfl _ _ 111 rfl W0.heap.size 117 i0 (.agg #[.int .i64 0, .int .i64 0, .int .i64 0, .int .i64 0]) 4 32 Tryz.underlying111 HI.out HZ0.out HZ1.out HZ2.out rfl (by decide) _ (o).length ((o).flatMap Co.enc) rfl (World.ownsRow.alloc HO6.out _) ⟨W6.heap.size, 0, none⟩ 1 1 c.enc rfl rfl (co_new _ _ _) (Co.enc_one c) (by unfold maxLen; omega) (by omega) (by simp; omega) ?_)
            intro v7 W7 ho7 hg7 _
            have HO7 : Hid (W7.ownsRow W0.heap.size 117 4 v7 (o ++ [c]).length ((o ++ [c]).flatMap Co.enc)) := Lib.hid (by rw [List.length_append, List.flatMap_append]; simpa using ho7)
            have HN7 : Hid (New W0 W7) := Lib.hid (newGrown (HN6.out.trans (by (repeat (first | (with_reducible exact New.refl _) | (with_reducible assumption) | ((with_reducible refine New.setB ?_ ?_ _); focus (first | omega | (simp; omega) | (simp; done))) | (with_reducible refine New.alloc ?_ _) | (with_reducible refine New.drew ?_) | (with_reducible refine New.drewN ?_ _) | (with_reducible refine New.hat ?_ _) | ((with_reducible apply New.snart); (with_reducible assumption)))))) hg7 (fun j hj => own_block HO6.out j hj))
            have n7 : New W0 W7 := HN7.out
            have hrow2 := HA2.out.keep HN7.out
            replace r0 : W7.cell? ⟨g, off + i * 4, none⟩ = some (.int .i64 E.x) := by rw [hEL.out]; exact hrow2 i hil 0 (by rw [Co.enc_len]; omega)
            replace r1 : W7.cell? ⟨g, off + i * 4 + 1, none⟩ = some (.int .i64 E.z) := by rw [hEL.out]; exact hrow2 i hil 1 (by rw [Co.enc_len]; omega)
            replace r2 : W7.cell? ⟨g, off + i * 4 + 2, none⟩ = some (.int .i64 E.y) := by rw [hEL.out]; exact hrow2 i hil 2 (by rw [Co.enc_len]; omega)
            replace r3 : W7.cell? ⟨g, off + i * 4 + 3, none⟩ = some (.int .i64 E.d) := by rw [hEL.out]; exact hrow2 i hil 3 (by rw [Co.enc_len]; omega)
            have k0 := HN7.out.keep HKC.out.1
            have k1 := HN7.out.keep HKC.out.2.1
            have k2 := HN7.out.keep HKC.out.2.2.1
            have k3 := HN7.out.keep HKC.out.2.2.2
            clear ho7 hg7 hrow2 hol hzw
            have hol : (o ++ [c]).length ≤ 250 := by (try simp only [List.length_append, List.length_cons, List.length_nil]); omega
            have hzw : W0.heap.size ≤ W7.heap.size := HN7.out.size
            go_wp2_with (at_builtin; refine wpList_append_own _ rfl _ _ 111 rfl W0.heap.size 117 i0 (.agg #[.int .i64 0, .int .i64 0, .int .i64 0, .int .i64 0]) 4 32 Tryz.underlying111 HI.out HZ0.out HZ1.out HZ2.out rfl (by decide) _ (o ++ [c]).length ((o ++ [c]).flatMap Co.enc) rfl (World.ownsRow.alloc HO7.out _) ⟨W7.heap.size, 0, none⟩ 1 1 E.enc rfl rfl (co_new _ _ _) (Co.enc_one E) (by unfold maxLen; omega) (by omega) (by simp; omega) ?_)
            intro v8 W8 ho8 hg8 _
            have HO8 : Hid (W8.ownsRow W0.heap.size 117 4 v8 (o ++ [c] ++ [E]).length ((o ++ [c] ++ [E]).flatMap Co.enc)) := Lib.hid (by rw [List.length_append, List.flatMap_append]; simpa using ho8)
            have HN8 : Hid (New W0 W8) := Lib.hid (newGrown (HN7.out.trans (by (repeat (first | (with_reducible exact New.refl _) | (with_reducible assumption) | ((with_reducible refine New.setB ?_ ?_ _); focus (first | omega | (simp; omega) | (simp; done))) | (with_reducible refine New.alloc ?_ _) | (with_reducible refine New.drew ?_) | (with_reducible refine New.drewN ?_ _) | (with_reducible refine New.hat ?_ _) | ((with_reducible apply New.snart); (with_reducible assumption)))))) hg8 (fun j hj => own_block HO7.out j hj))
            have n8 : New W0 W8 := HN8.out
            clear ho8 hg8 r0 r1 r2 r3 k0 k1 k2 k3 hol hzw
            go_wp2_with fail
            go_roundg (n - (i + 1))
            case measure => omega
            case rel => exact ⟨i + 1, o ++ [c] ++ [E], v8, true, rfl, rfl, by go_num, by omega, by omega, by simp only [List.length_append, List.length_cons, List.length_nil]; omega, HE2, HO8, HN8⟩
    · have e : i = n := by omega
      subst e
      have hdr : l.drop i = [] := by rw [HNL.out]; exact List.drop_length
      have k0 := HN.out.keep HKC.out.1
      have k1 := HN.out.keep HKC.out.2.1
      have k2 := HN.out.keep HKC.out.2.2.1
      have k3 := HN.out.keep HKC.out.2.2.2
      cases dn with
      | true =>
        have HE2 : Hid (o = putGo c l false) := Lib.hid (by rw [← HE.out, hdr]; simp [putGo])
        clear hdr HE k0 k1 k2 k3
        go_wp2_with fail
        go_ret
        exact ⟨_, rfl, by rw [← HE2.out]; exact own_sl Co.enc_len HO.out, HN0.out.trans HN.out⟩
      | false =>
        have HE2 : Hid (o ++ [c] = putGo c l false) := Lib.hid (by rw [← HE.out, hdr]; simp [putGo])
        clear hdr HE
        have hol : (o).length ≤ 250 := by (try simp only [List.length_append, List.length_cons, List.length_nil]); omega
        have hzw : W0.heap.size ≤ wr.heap.size := HN.out.size
        go_wp2_with (at_builtin; refine wpList_append_own _ rfl _ _ 111 rfl W0.heap.size 117 i0 (.agg #[.int .i64 0, .int .i64 0, .int .i64 0, .int .i64 0]) 4 32 Tryz.underlying111 HI.out HZ0.out HZ1.out HZ2.out rfl (by decide) _ (o).length ((o).flatMap Co.enc) rfl (World.ownsRow.alloc HO.out _) ⟨wr.heap.size, 0, none⟩ 1 1 c.enc rfl rfl (co_new _ _ _) (Co.enc_one c) (by unfold maxLen; omega) (by omega) (by simp; omega) ?_)
        intro v7 W7 ho7 hg7 _
        have HO7 : Hid (W7.ownsRow W0.heap.size 117 4 v7 (o ++ [c]).length ((o ++ [c]).flatMap Co.enc)) := Lib.hid (by rw [List.length_append, List.flatMap_append]; simpa using ho7)
        have HN7 : Hid (New W0 W7) := Lib.hid (newGrown (HN.out.trans (by (repeat (first | (with_reducible exact New.refl _) | (with_reducible assumption) | ((with_reducible refine New.setB ?_ ?_ _); focus (first | omega | (simp; omega) | (simp; done))) | (with_reducible refine New.alloc ?_ _) | (with_reducible refine New.drew ?_) | (with_reducible refine New.drewN ?_ _) | (with_reducible refine New.hat ?_ _) | ((with_reducible apply New.snart); (with_reducible assumption)))))) hg7 (fun j hj => own_block HO.out j hj))
        have n7 : New W0 W7 := HN7.out
        clear ho7 hg7 k0 k1 k2 k3 hol hzw
        go_wp2_with fail
        go_ret
        exact ⟨_, rfl, by rw [← HE2.out]; exact own_sl Co.enc_len HO7.out, HN0.out.trans HN7.out⟩

end Go.Proofs.YtklopjbpfddgfaaGreat

/- The document's own corners over a column: plane, corner, crossing, within. -/
namespace Go.Proofs.YtklopjbpfddgfaaGreat
open Go.RowKit
set_option linter.unusedVariables false

/-- A triangle's corners as a value. -/
theorem k_may (T : TriR) (w : World) : Calls Tryz.prog 91 #[.agg #[.int .i64 T.i, .int .i64 T.x0, .int .i64 T.y0, .int .i64 T.z0, .int .i64 T.x1, .int .i64 T.y1, .int .i64 T.z1, .int .i64 T.x2, .int .i64 T.y2, .int .i64 T.z2]] w fun e w' => e = .returned (.bool (okT T)) ∧ New w w' := by
  have K := fun W => u_mayTri 32 32 (by omega) (by omega) T W
  rw [may_ok] at K
  generalize okT T = b at *
  replace K := Lib.hid K
  go_enter Tryz.func91, Tryz.ntmps91
  go_wp2_with fail
  refine (K.out _).mono ?_
  rintro e W1 ⟨rfl, n1⟩
  go_wp2_with fail
  go_ret
  exact ⟨rfl, New.trans (by (repeat (first | (with_reducible exact New.refl _) | (with_reducible assumption) | ((with_reducible refine New.setB ?_ ?_ _); focus (first | omega | (simp; omega) | (simp; done))) | (with_reducible refine New.alloc ?_ _) | (with_reducible refine New.drew ?_) | (with_reducible refine New.drewN ?_ _) | (with_reducible refine New.hat ?_ _) | ((with_reducible apply New.snart); (with_reducible assumption))))) n1⟩

set_option maxHeartbeats 400000 in
theorem r_within (n den lo hi : Int) (w : World) (hd : 1 ≤ den ∧ den ≤ 1024) (hl : -64 ≤ lo ∧ lo ≤ 64) (hh : -64 ≤ hi ∧ hi ≤ 64) :
    Calls Tryz.prog 95 #[.int .i64 n, .int .i64 den, .int .i64 lo, .int .i64 hi] w fun e w' => e = .returned (.bool (inR n den lo hi)) ∧ w = w' := by
  have h1 := mul_bd (a := lo) (b := den) (A := 64) (B := 1024) hl (by omega)
  have h2 := mul_bd (a := hi) (b := den) (A := 64) (B := 1024) hh (by omega)
  unfold inR
  cases t1 : decide (lo * den ≤ n)
  · go_enter Tryz.func95, Tryz.ntmps95
    go_wp2_with fail
    go_ret
    exact ⟨rfl, rfl⟩
  · go_enter Tryz.func95, Tryz.ntmps95
    go_wp2_with fail
    go_ret
    exact ⟨rfl, rfl⟩

set_option maxHeartbeats 1000000 in
theorem r_crossing (a b n : Int) (w : World) (ha : 0 ≤ a ∧ a ≤ 32) (hb : 0 ≤ b ∧ b ≤ 32) (hn : -64 ≤ n ∧ n ≤ 64) (r : Option (Int × Int)) (hr : rcr a b n = r) :
    Calls Tryz.prog 96 #[.int .i64 a, .int .i64 b, .int .i64 n] w fun e w' => e = .returned (.tuple #[.int .i64 (r.elim 0 Prod.fst), .int .i64 (r.elim 0 Prod.snd), .bool r.isSome]) ∧ w = w' := by
  unfold rcr at hr
  by_cases h1 : a = b
  · subst h1
    have e : r = none := by rw [← hr, if_pos (.inl rfl)]
    subst e
    have q1 : (a == a) = true := by simp
    clear hr
    go_enter Tryz.func96, Tryz.ntmps96
    go_wp2_with fail
    go_ret3
    exact ⟨rfl, rfl⟩
  have q1 : (a == b) = false := by rw [beq_eq_false_iff_ne]; exact h1
  by_cases h2 : n < min a b
  · have e : r = none := by rw [← hr, if_pos (.inr (.inl h2))]
    subst e
    have q2 : decide (n < min a b) = true := decide_eq_true h2
    clear hr h1 h2
    go_enter Tryz.func96, Tryz.ntmps96
    go_wp2_with fail
    all_goals
      go_ret3
      exact ⟨rfl, rfl⟩
  have q2 : decide (n < min a b) = false := decide_eq_false h2
  by_cases h3 : max a b < n
  · have e : r = none := by rw [← hr, if_pos (.inr (.inr h3))]
    subst e
    have q3 : decide (max a b < n) = true := decide_eq_true h3
    clear hr h1 h2 h3
    go_enter Tryz.func96, Tryz.ntmps96
    go_wp2_with fail
    all_goals
      go_ret3
      exact ⟨rfl, rfl⟩
  have q3 : decide (max a b < n) = false := decide_eq_false h3
  by_cases h4 : a < b
  · have e : r = some (n - a, b - a) := by rw [← hr, if_neg (by omega), if_pos h4]
    subst e
    have q4 : decide (a < b) = true := decide_eq_true h4
    clear hr h1 h2 h3 h4
    go_enter Tryz.func96, Tryz.ntmps96
    go_wp2_with fail
    go_ret3
    exact ⟨rfl, rfl⟩
  · have e : r = some (a - n, a - b) := by rw [← hr, if_neg (by omega), if_neg h4]
    subst e
    have q4 : decide (a < b) = false := decide_eq_false h4
    clear hr h1 h2 h3 h4
    go_enter Tryz.func96, Tryz.ntmps96
    go_wp2_with fail
    go_ret3
    exact ⟨rfl, rfl⟩

/-- Bounds of the numbers on the way to a corner. -/
theorem rcY_bd {T : TriR} (hk : okT T = true) {px pz den : Int} (hx : -4096 ≤ px ∧ px ≤ 4096) (hz : -4096 ≤ pz ∧ pz ≤ 4096) (hd : 1 ≤ den ∧ den ≤ 64) :
    (-2048 ≤ flatI T ∧ flatI T ≤ 2048) ∧ (-4294967296 ≤ T.y0 * flatI T ∧ T.y0 * flatI T ≤ 4294967296) ∧ (-549755813888 ≤ T.y0 * flatI T * den ∧ T.y0 * flatI T * den ≤ 549755813888) ∧ (-4096 ≤ T.x0 * den ∧ T.x0 * den ≤ 4096) ∧ (-4096 ≤ T.z0 * den ∧ T.z0 * den ≤ 4096) ∧
      (-2147483648 ≤ tnx T * (px - T.x0 * den) ∧ tnx T * (px - T.x0 * den) ≤ 2147483648) ∧ (-2147483648 ≤ tnz T * (pz - T.z0 * den) ∧ tnz T * (pz - T.z0 * den) ≤ 2147483648) ∧ (-1000000000000 ≤ rcY T px pz den ∧ rcY T px pz den ≤ 1000000000000) := by
  have hs := ok_in hk
  obtain ⟨bx, by', bz⟩ := nI_bd hs
  have h0 : -2048 ≤ flatI T ∧ flatI T ≤ 2048 := by
    have h3 : -2048 ≤ tny T ∧ tny T ≤ 2048 := by'
    rw [flat_ny]; omega
  unfold StP StV at hs
  have h1 := mul_bd (a := T.y0) (b := flatI T) (A := 2048) (B := 2048) (by omega) h0
  have h2 := mul_bd (a := T.y0 * flatI T) (b := den) (A := 4294967296) (B := 64) (by omega) (by omega)
  have h3 := mul_bd (a := T.x0) (b := den) (A := 32) (B := 64) (by omega) (by omega)
  have h4 := mul_bd (a := T.z0) (b := den) (A := 32) (B := 64) (by omega) (by omega)
  have h5 := mul_bd (a := tnx T) (b := px - T.x0 * den) (A := 262144) (B := 8192) bx (by omega)
  have h6 := mul_bd (a := tnz T) (b := pz - T.z0 * den) (A := 262144) (B := 8192) bz (by omega)
  refine ⟨h0, by omega, by omega, by omega, by omega, by omega, by omega, ?_⟩
  unfold rcY
  split <;> omega

end Go.Proofs.YtklopjbpfddgfaaGreat

/- The document's own corners over a column: inside. -/
namespace Go.Proofs.YtklopjbpfddgfaaGreat
open Go.RowKit
set_option linter.unusedVariables false
set_option linter.unusedSimpArgs false

/-- What comes of the three signs. -/
def insR (a b c : Int) : Bool := !((b != 0 && a != 0 && b != a) || (c != 0 && (if b = 0 then a else b) != 0 && c != (if b = 0 then a else b)))
theorem insR_eq (T : TriR) (px pz : Int) : insB T px pz = insR (clampI (s0 T px pz) (-1) 1) (clampI (s1 T px pz) (-1) 1) (clampI (s2 T px pz) (-1) 1) := by
  rw [Bool.eq_iff_iff, insB_iff]
  unfold insR
  simp only [Bool.not_eq_true', Bool.or_eq_false_iff, Bool.and_eq_false_iff, bne_eq_false_iff_eq]
  unfold clampI
  split <;> omega

set_option maxHeartbeats 8000000 in
set_option maxRecDepth 100000 in
theorem r_inside (T : TriR) (hk : okT T = true) (px pz : Int) (w : World) (hx : -64 ≤ px ∧ px ≤ 64) (hz : -64 ≤ pz ∧ pz ≤ 64) :
    Calls Tryz.prog 92 #[.agg #[.int .i64 T.x0, .int .i64 T.y0, .int .i64 T.z0, .int .i64 T.x1, .int .i64 T.y1, .int .i64 T.z1, .int .i64 T.x2, .int .i64 T.y2, .int .i64 T.z2], .int .i64 px, .int .i64 pz, .int .i64 1] w fun e w' => e = .returned (.bool (insB T px pz)) ∧ New w w' := by
  have hs := ok_in hk
  unfold StP StV at hs
  obtain ⟨⟨⟨X0, X0'⟩, ⟨Z0, Z0'⟩, -⟩, ⟨⟨X1, X1'⟩, ⟨Z1, Z1'⟩, -⟩, ⟨⟨X2, X2'⟩, ⟨Z2, Z2'⟩, -⟩⟩ := hs
  have HB := Lib.hid (insR_eq T px pz)
  have ma0 := mul_bd (a := T.x1 - T.x0) (b := pz - T.z0) (A := 32) (B := 128) (by omega) (by omega)
  have mb0 := mul_bd (a := T.z1 - T.z0) (b := px - T.x0) (A := 32) (B := 128) (by omega) (by omega)
  have K0 := Lib.hid (fun W => rsign_any (s0 T px pz) W)
  have E0 : (T.x1 - T.x0) * (pz - T.z0) - (T.z1 - T.z0) * (px - T.x0) = s0 T px pz := rfl
  have ma1 := mul_bd (a := T.x2 - T.x1) (b := pz - T.z1) (A := 32) (B := 128) (by omega) (by omega)
  have mb1 := mul_bd (a := T.z2 - T.z1) (b := px - T.x1) (A := 32) (B := 128) (by omega) (by omega)
  have K1 := Lib.hid (fun W => rsign_any (s1 T px pz) W)
  have E1 : (T.x2 - T.x1) * (pz - T.z1) - (T.z2 - T.z1) * (px - T.x1) = s1 T px pz := rfl
  have ma2 := mul_bd (a := T.x0 - T.x2) (b := pz - T.z2) (A := 32) (B := 128) (by omega) (by omega)
  have mb2 := mul_bd (a := T.z0 - T.z2) (b := px - T.x2) (A := 32) (B := 128) (by omega) (by omega)
  have K2 := Lib.hid (fun W => rsign_any (s2 T px pz) W)
  have E2 : (T.x0 - T.x2) * (pz - T.z2) - (T.z0 - T.z2) * (px - T.x2) = s2 T px pz := rfl
  generalize s0 T px pz = k0 at *
  generalize clampI k0 (-1) 1 = g0 at *
  generalize s1 T px pz = k1 at *
  generalize clampI k1 (-1) 1 = g1 at *
  generalize s2 T px pz = k2 at *
  generalize clampI k2 (-1) 1 = g2 at *
  generalize insB T px pz = res at *
  clear hk
  go_enter Tryz.func92, Tryz.ntmps92
  go_wp2_with fail
  refine Code.at (fun W0 hW => ?_)
  have hn : New w W0 := by subst hW; (repeat (first | (with_reducible exact New.refl _) | (with_reducible assumption) | ((with_reducible refine New.setB ?_ ?_ _); focus (first | omega | (simp; omega) | (simp; done))) | (with_reducible refine New.alloc ?_ _) | (with_reducible refine New.drew ?_) | (with_reducible refine New.drewN ?_ _) | (with_reducible refine New.hat ?_ _) | ((with_reducible apply New.snart); (with_reducible assumption))))
  have c0 : W0.cell? ⟨w.heap.size, 0, none⟩ = some (.int .i64 T.x0) := by subst hW; go_simp
  have c1 : W0.cell? ⟨w.heap.size, 1, none⟩ = some (.int .i64 T.y0) := by subst hW; go_simp
  have c2 : W0.cell? ⟨w.heap.size, 2, none⟩ = some (.int .i64 T.z0) := by subst hW; go_simp
  have c3 : W0.cell? ⟨w.heap.size, 3, none⟩ = some (.int .i64 T.x1) := by subst hW; go_simp
  have c4 : W0.cell? ⟨w.heap.size, 4, none⟩ = some (.int .i64 T.y1) := by subst hW; go_simp
  have c5 : W0.cell? ⟨w.heap.size, 5, none⟩ = some (.int .i64 T.z1) := by subst hW; go_simp
  have c6 : W0.cell? ⟨w.heap.size, 6, none⟩ = some (.int .i64 T.x2) := by subst hW; go_simp
  have c7 : W0.cell? ⟨w.heap.size, 7, none⟩ = some (.int .i64 T.y2) := by subst hW; go_simp
  have c8 : W0.cell? ⟨w.heap.size, 8, none⟩ = some (.int .i64 T.z2) := by subst hW; go_simp
  clear hW
  have zz := World.block_lt_of_cell? _ _ c0
  simp only [] at zz
  refine wp_loop_rounds 4 ?_
  rw [rounds_succ]
  go_upto_region 5 with fail
  go_cut [11, 12] (fun s8 s9 Z => ∃ b b' : Nat, s8 = .pointer (some ⟨b, 0, none⟩) ∧ s9 = .pointer (some ⟨b', 0, none⟩) ∧ New W0 Z ∧ Z.cell? ⟨b, 0, none⟩ = some (.int .i64 T.x0) ∧ Z.cell? ⟨b, 2, none⟩ = some (.int .i64 T.z0) ∧ Z.cell? ⟨b', 0, none⟩ = some (.int .i64 T.x1) ∧ Z.cell? ⟨b', 2, none⟩ = some (.int .i64 T.z1))
  case first =>
    go_region
    all_goals
      go_wp2_with fail
      go_meet
      exact ⟨_, _, rfl, rfl, by (repeat (first | (with_reducible exact New.refl _) | (with_reducible assumption) | ((with_reducible refine New.setB ?_ ?_ _); focus (first | omega | (simp; omega) | (simp; done))) | (with_reducible refine New.alloc ?_ _) | (with_reducible refine New.drew ?_) | (with_reducible refine New.drewN ?_ _) | (with_reducible refine New.hat ?_ _) | ((with_reducible apply New.snart); (with_reducible assumption)))), by go_simp, by go_simp, by go_simp, by go_simp⟩
  case rest =>
    obtain ⟨u0, v0, rfl, rfl, nZ, p0, p2, q0, q2⟩ := hcut
    replace c0 := nZ.keep c0
    replace c1 := nZ.keep c1
    replace c2 := nZ.keep c2
    replace c3 := nZ.keep c3
    replace c4 := nZ.keep c4
    replace c5 := nZ.keep c5
    replace c6 := nZ.keep c6
    replace c7 := nZ.keep c7
    replace c8 := nZ.keep c8
    replace zz := World.block_lt_of_cell? _ _ c0
    simp only [] at zz
    replace hn := hn.trans nZ
    clear nZ
    rename World => X1
    go_wp2_with fail
    refine (K0.out _).mono ?_
    rintro e w' ⟨rfl, rfl⟩
    clear p0 p2 q0 q2 K0
    by_cases a0 : g0 = 0
    · have z0 : (g0 != 0) = false := by simpa using a0
      subst a0
      have HA := Lib.hid (True.intro)
      go_wp2_with fail
      rw [rounds_succ]
      go_upto_region 5 with fail
      go_cut [11, 12] (fun s8 s9 Z => ∃ b b' : Nat, s8 = .pointer (some ⟨b, 0, none⟩) ∧ s9 = .pointer (some ⟨b', 0, none⟩) ∧ New X1 Z ∧ Z.cell? ⟨b, 0, none⟩ = some (.int .i64 T.x1) ∧ Z.cell? ⟨b, 2, none⟩ = some (.int .i64 T.z1) ∧ Z.cell? ⟨b', 0, none⟩ = some (.int .i64 T.x2) ∧ Z.cell? ⟨b', 2, none⟩ = some (.int .i64 T.z2))
      case first =>
        go_region
        all_goals
          go_wp2_with fail
          go_meet
          exact ⟨_, _, rfl, rfl, by (repeat (first | (with_reducible exact New.refl _) | (with_reducible assumption) | ((with_reducible refine New.setB ?_ ?_ _); focus (first | omega | (simp; omega) | (simp; done))) | (with_reducible refine New.alloc ?_ _) | (with_reducible refine New.drew ?_) | (with_reducible refine New.drewN ?_ _) | (with_reducible refine New.hat ?_ _) | ((with_reducible apply New.snart); (with_reducible assumption)))), by go_simp, by go_simp, by go_simp, by go_simp⟩
      case rest =>
        obtain ⟨u1, v1, rfl, rfl, nZ, p0, p2, q0, q2⟩ := hcut
        replace c0 := nZ.keep c0
        replace c1 := nZ.keep c1
        replace c2 := nZ.keep c2
        replace c3 := nZ.keep c3
        replace c4 := nZ.keep c4
        replace c5 := nZ.keep c5
        replace c6 := nZ.keep c6
        replace c7 := nZ.keep c7
        replace c8 := nZ.keep c8
        replace zz := World.block_lt_of_cell? _ _ c0
        simp only [] at zz
        replace hn := hn.trans nZ
        clear nZ
        rename World => X2
        go_wp2_with fail
        refine (K1.out _).mono ?_
        rintro e w' ⟨rfl, rfl⟩
        clear p0 p2 q0 q2 K1
        by_cases a1 : g1 = 0
        · have z1 : (g1 != 0) = false := by simpa using a1
          subst a1
          go_wp2_with fail
          rw [rounds_succ]
          go_upto_region 5 with fail
          go_cut [11, 12] (fun s8 s9 Z => ∃ b b' : Nat, s8 = .pointer (some ⟨b, 0, none⟩) ∧ s9 = .pointer (some ⟨b', 0, none⟩) ∧ New X2 Z ∧ Z.cell? ⟨b, 0, none⟩ = some (.int .i64 T.x2) ∧ Z.cell? ⟨b, 2, none⟩ = some (.int .i64 T.z2) ∧ Z.cell? ⟨b', 0, none⟩ = some (.int .i64 T.x0) ∧ Z.cell? ⟨b', 2, none⟩ = some (.int .i64 T.z0))
          case first =>
            go_region
            all_goals
              go_wp2_with fail
              go_meet
              exact ⟨_, _, rfl, rfl, by (repeat (first | (with_reducible exact New.refl _) | (with_reducible assumption) | ((with_reducible refine New.setB ?_ ?_ _); focus (first | omega | (simp; omega) | (simp; done))) | (with_reducible refine New.alloc ?_ _) | (with_reducible refine New.drew ?_) | (with_reducible refine New.drewN ?_ _) | (with_reducible refine New.hat ?_ _) | ((with_reducible apply New.snart); (with_reducible assumption)))), by go_simp, by go_simp, by go_simp, by go_simp⟩
          case rest =>
            obtain ⟨u2, v2, rfl, rfl, nZ, p0, p2, q0, q2⟩ := hcut
            replace hn := hn.trans nZ
            clear nZ
            rename World => X3
            go_wp2_with fail
            refine (K2.out _).mono ?_
            rintro e w' ⟨rfl, rfl⟩
            clear p0 p2 q0 q2 K2
            by_cases a2 : g2 = 0
            · have z2 : (g2 != 0) = false := by simpa using a2
              subst a2
              go_wp2_with fail
              rw [rounds_succ]
              go_wp2_with fail
              go_ret
              exact ⟨retB (by rw [HB.out]; unfold insR; simp []), hn⟩
            · have z2 : (g2 != 0) = true := by simpa using a2
              have HA2 := Lib.hid a2
              clear a2
              go_wp2_with fail
              rw [rounds_succ]
              go_wp2_with fail
              go_ret
              exact ⟨retB (by rw [HB.out]; unfold insR; simp [HA2.out]), hn⟩
        · have z1 : (g1 != 0) = true := by simpa using a1
          have HA1 := Lib.hid a1
          clear a1
          go_wp2_with fail
          rw [rounds_succ]
          go_upto_region 5 with fail
          go_cut [11, 12] (fun s8 s9 Z => ∃ b b' : Nat, s8 = .pointer (some ⟨b, 0, none⟩) ∧ s9 = .pointer (some ⟨b', 0, none⟩) ∧ New X2 Z ∧ Z.cell? ⟨b, 0, none⟩ = some (.int .i64 T.x2) ∧ Z.cell? ⟨b, 2, none⟩ = some (.int .i64 T.z2) ∧ Z.cell? ⟨b', 0, none⟩ = some (.int .i64 T.x0) ∧ Z.cell? ⟨b', 2, none⟩ = some (.int .i64 T.z0))
          case first =>
            go_region
            all_goals
              go_wp2_with fail
              go_meet
              exact ⟨_, _, rfl, rfl, by (repeat (first | (with_reducible exact New.refl _) | (with_reducible assumption) | ((with_reducible refine New.setB ?_ ?_ _); focus (first | omega | (simp; omega) | (simp; done))) | (with_reducible refine New.alloc ?_ _) | (with_reducible refine New.drew ?_) | (with_reducible refine New.drewN ?_ _) | (with_reducible refine New.hat ?_ _) | ((with_reducible apply New.snart); (with_reducible assumption)))), by go_simp, by go_simp, by go_simp, by go_simp⟩
          case rest =>
            obtain ⟨u2, v2, rfl, rfl, nZ, p0, p2, q0, q2⟩ := hcut
            replace hn := hn.trans nZ
            clear nZ
            rename World => X4
            go_wp2_with fail
            refine (K2.out _).mono ?_
            rintro e w' ⟨rfl, rfl⟩
            clear p0 p2 q0 q2 K2
            by_cases a2 : g2 = 0
            · have z2 : (g2 != 0) = false := by simpa using a2
              subst a2
              go_wp2_with fail
              rw [rounds_succ]
              go_wp2_with fail
              go_ret
              exact ⟨retB (by rw [HB.out]; unfold insR; simp [HA1.out]), hn⟩
            · have z2 : (g2 != 0) = true := by simpa using a2
              have HA2 := Lib.hid a2
              clear a2
              by_cases a3 : g2 = g1
              · have z3 : (g2 != g1) = false := by simpa using a3
                have HA3 := Lib.hid a3
                clear a3
                go_wp2_with fail
                rw [rounds_succ]
                go_wp2_with fail
                go_ret
                exact ⟨retB (by rw [HB.out]; unfold insR; simp [HA1.out, HA2.out, HA3.out]), hn⟩
              · have z3 : (g2 != g1) = true := by simpa using a3
                have HA3 := Lib.hid a3
                clear a3
                go_wp2_with fail
                go_ret
                exact ⟨retB (by rw [HB.out]; unfold insR; simp [HA1.out, HA2.out, HA3.out]), hn⟩
    · have z0 : (g0 != 0) = true := by simpa using a0
      have HA := Lib.hid (True.intro)
      have HA0 := Lib.hid a0
      clear a0
      go_wp2_with fail
      rw [rounds_succ]
      go_upto_region 5 with fail
      go_cut [11, 12] (fun s8 s9 Z => ∃ b b' : Nat, s8 = .pointer (some ⟨b, 0, none⟩) ∧ s9 = .pointer (some ⟨b', 0, none⟩) ∧ New X1 Z ∧ Z.cell? ⟨b, 0, none⟩ = some (.int .i64 T.x1) ∧ Z.cell? ⟨b, 2, none⟩ = some (.int .i64 T.z1) ∧ Z.cell? ⟨b', 0, none⟩ = some (.int .i64 T.x2) ∧ Z.cell? ⟨b', 2, none⟩ = some (.int .i64 T.z2))
      case first =>
        go_region
        all_goals
          go_wp2_with fail
          go_meet
          exact ⟨_, _, rfl, rfl, by (repeat (first | (with_reducible exact New.refl _) | (with_reducible assumption) | ((with_reducible refine New.setB ?_ ?_ _); focus (first | omega | (simp; omega) | (simp; done))) | (with_reducible refine New.alloc ?_ _) | (with_reducible refine New.drew ?_) | (with_reducible refine New.drewN ?_ _) | (with_reducible refine New.hat ?_ _) | ((with_reducible apply New.snart); (with_reducible assumption)))), by go_simp, by go_simp, by go_simp, by go_simp⟩
      case rest =>
        obtain ⟨u1, v1, rfl, rfl, nZ, p0, p2, q0, q2⟩ := hcut
        replace c0 := nZ.keep c0
        replace c1 := nZ.keep c1
        replace c2 := nZ.keep c2
        replace c3 := nZ.keep c3
        replace c4 := nZ.keep c4
        replace c5 := nZ.keep c5
        replace c6 := nZ.keep c6
        replace c7 := nZ.keep c7
        replace c8 := nZ.keep c8
        replace zz := World.block_lt_of_cell? _ _ c0
        simp only [] at zz
        replace hn := hn.trans nZ
        clear nZ
        rename World => X5
        go_wp2_with fail
        refine (K1.out _).mono ?_
        rintro e w' ⟨rfl, rfl⟩
        clear p0 p2 q0 q2 K1
        by_cases a1 : g1 = 0
        · have z1 : (g1 != 0) = false := by simpa using a1
          subst a1
          go_wp2_with fail
          rw [rounds_succ]
          go_upto_region 5 with fail
          go_cut [11, 12] (fun s8 s9 Z => ∃ b b' : Nat, s8 = .pointer (some ⟨b, 0, none⟩) ∧ s9 = .pointer (some ⟨b', 0, none⟩) ∧ New X5 Z ∧ Z.cell? ⟨b, 0, none⟩ = some (.int .i64 T.x2) ∧ Z.cell? ⟨b, 2, none⟩ = some (.int .i64 T.z2) ∧ Z.cell? ⟨b', 0, none⟩ = some (.int .i64 T.x0) ∧ Z.cell? ⟨b', 2, none⟩ = some (.int .i64 T.z0))
          case first =>
            go_region
            all_goals
              go_wp2_with fail
              go_meet
              exact ⟨_, _, rfl, rfl, by (repeat (first | (with_reducible exact New.refl _) | (with_reducible assumption) | ((with_reducible refine New.setB ?_ ?_ _); focus (first | omega | (simp; omega) | (simp; done))) | (with_reducible refine New.alloc ?_ _) | (with_reducible refine New.drew ?_) | (with_reducible refine New.drewN ?_ _) | (with_reducible refine New.hat ?_ _) | ((with_reducible apply New.snart); (with_reducible assumption)))), by go_simp, by go_simp, by go_simp, by go_simp⟩
          case rest =>
            obtain ⟨u2, v2, rfl, rfl, nZ, p0, p2, q0, q2⟩ := hcut
            replace hn := hn.trans nZ
            clear nZ
            rename World => X6
            go_wp2_with fail
            refine (K2.out _).mono ?_
            rintro e w' ⟨rfl, rfl⟩
            clear p0 p2 q0 q2 K2
            by_cases a2 : g2 = 0
            · have z2 : (g2 != 0) = false := by simpa using a2
              subst a2
              go_wp2_with fail
              rw [rounds_succ]
              go_wp2_with fail
              go_ret
              exact ⟨retB (by rw [HB.out]; unfold insR; simp [HA0.out]), hn⟩
            · have z2 : (g2 != 0) = true := by simpa using a2
              have HA2 := Lib.hid a2
              clear a2
              by_cases a3 : g2 = g0
              · have z3 : (g2 != g0) = false := by simpa using a3
                have HA3 := Lib.hid a3
                clear a3
                go_wp2_with fail
                rw [rounds_succ]
                go_wp2_with fail
                go_ret
                exact ⟨retB (by rw [HB.out]; unfold insR; simp [HA0.out, HA2.out, HA3.out]), hn⟩
              · have z3 : (g2 != g0) = true := by simpa using a3
                have HA3 := Lib.hid a3
                clear a3
                go_wp2_with fail
                go_ret
                exact ⟨retB (by rw [HB.out]; unfold insR; simp [HA0.out, HA2.out, HA3.out]), hn⟩
        · have z1 : (g1 != 0) = true := by simpa using a1
          have HA1 := Lib.hid a1
          clear a1
          by_cases a4 : g1 = g0
          · have z4 : (g1 != g0) = false := by simpa using a4
            have HA4 := Lib.hid a4
            clear a4
            go_wp2_with fail
            rw [rounds_succ]
            go_upto_region 5 with fail
            go_cut [11, 12] (fun s8 s9 Z => ∃ b b' : Nat, s8 = .pointer (some ⟨b, 0, none⟩) ∧ s9 = .pointer (some ⟨b', 0, none⟩) ∧ New X5 Z ∧ Z.cell? ⟨b, 0, none⟩ = some (.int .i64 T.x2) ∧ Z.cell? ⟨b, 2, none⟩ = some (.int .i64 T.z2) ∧ Z.cell? ⟨b', 0, none⟩ = some (.int .i64 T.x0) ∧ Z.cell? ⟨b', 2, none⟩ = some (.int .i64 T.z0))
            case first =>
              go_region
              all_goals
                go_wp2_with fail
                go_meet
                exact ⟨_, _, rfl, rfl, by (repeat (first | (with_reducible exact New.refl _) | (with_reducible assumption) | ((with_reducible refine New.setB ?_ ?_ _); focus (first | omega | (simp; omega) | (simp; done))) | (with_reducible refine New.alloc ?_ _) | (with_reducible refine New.drew ?_) | (with_reducible refine New.drewN ?_ _) | (with_reducible refine New.hat ?_ _) | ((with_reducible apply New.snart); (with_reducible assumption)))), by go_simp, by go_simp, by go_simp, by go_simp⟩
            case rest =>
              obtain ⟨u2, v2, rfl, rfl, nZ, p0, p2, q0, q2⟩ := hcut
              replace hn := hn.trans nZ
              clear nZ
              rename World => X7
              go_wp2_with fail
              refine (K2.out _).mono ?_
              rintro e w' ⟨rfl, rfl⟩
              clear p0 p2 q0 q2 K2
              by_cases a2 : g2 = 0
              · have z2 : (g2 != 0) = false := by simpa using a2
                subst a2
                go_wp2_with fail
                rw [rounds_succ]
                go_wp2_with fail
                go_ret
                exact ⟨retB (by rw [HB.out]; unfold insR; simp [HA0.out, HA1.out, HA4.out]), hn⟩
              · have z2 : (g2 != 0) = true := by simpa using a2
                have HA2 := Lib.hid a2
                clear a2
                by_cases a3 : g2 = g1
                · have z3 : (g2 != g1) = false := by simpa using a3
                  have HA3 := Lib.hid a3
                  clear a3
                  go_wp2_with fail
                  rw [rounds_succ]
                  go_wp2_with fail
                  go_ret
                  exact ⟨retB (by rw [HB.out]; unfold insR; simp [HA0.out, HA1.out, HA2.out, HA3.out, HA4.out]), hn⟩
                · have z3 : (g2 != g1) = true := by simpa using a3
                  have HA3 := Lib.hid a3
                  clear a3
                  go_wp2_with fail
                  go_ret
                  exact ⟨retB (by rw [HB.out]; unfold insR; simp [HA0.out, HA1.out, HA2.out, HA3.out, HA4.out]; intro e; exact HA3.out (e.trans HA4.out.symm)), hn⟩
          · have z4 : (g1 != g0) = true := by simpa using a4
            have HA4 := Lib.hid a4
            clear a4
            go_wp2_with fail
            go_ret
            exact ⟨retB (by rw [HB.out]; unfold insR; simp [HA0.out, HA1.out, HA4.out]), hn⟩

end Go.Proofs.YtklopjbpfddgfaaGreat

/- The document's own corners over a column: plane, corner, inside. -/
namespace Go.Proofs.YtklopjbpfddgfaaGreat
open Go.RowKit
set_option linter.unusedVariables false

set_option maxHeartbeats 4000000 in
set_option maxRecDepth 100000 in
theorem r_plane (T : TriR) (hk : okT T = true) (px pz den : Int) (w : World) (hx : -4096 ≤ px ∧ px ≤ 4096) (hz : -4096 ≤ pz ∧ pz ≤ 4096) (hd : 1 ≤ den ∧ den ≤ 64) :
    Calls Tryz.prog 122 #[.agg #[.int .i64 T.x0, .int .i64 T.y0, .int .i64 T.z0, .int .i64 T.x1, .int .i64 T.y1, .int .i64 T.z1, .int .i64 T.x2, .int .i64 T.y2, .int .i64 T.z2], .int .i64 px, .int .i64 pz, .int .i64 den] w fun e w' => e = .returned (.tuple #[.int .i64 (rcY T px pz den), .int .i64 (rcK T * den)]) ∧ New w w' := by
  have hs := ok_in hk
  unfold StP StV at hs
  have KF := Lib.hid (fun W => u_flat T (by omega) (by omega) W)
  obtain ⟨b0, b1, b2, b3, b4, b5, b6, b7⟩ := rcY_bd hk hx hz hd
  have hK : rcK T * den = if flatI T < 0 then -flatI T * den else flatI T * den := by rw [rcK_eq]; split <;> rfl
  have hY : rcY T px pz den = if flatI T < 0 then -(T.y0 * flatI T * den + tnx T * (px - T.x0 * den) + tnz T * (pz - T.z0 * den)) else T.y0 * flatI T * den + tnx T * (px - T.x0 * den) + tnz T * (pz - T.z0 * den) := rfl
  have enx : (T.y1 - T.y0) * (T.z2 - T.z0) - (T.y2 - T.y0) * (T.z1 - T.z0) = tnx T := by unfold tnx nxI; grind
  have enz : (T.y2 - T.y0) * (T.x1 - T.x0) - (T.y1 - T.y0) * (T.x2 - T.x0) = tnz T := by unfold tnz nzI; grind
  have m1 := mul_bd (a := T.y1 - T.y0) (b := T.z2 - T.z0) (A := 4096) (B := 32) (by omega) (by omega)
  have m2 := mul_bd (a := T.y2 - T.y0) (b := T.z1 - T.z0) (A := 4096) (B := 32) (by omega) (by omega)
  have m3 := mul_bd (a := T.y2 - T.y0) (b := T.x1 - T.x0) (A := 4096) (B := 32) (by omega) (by omega)
  have m4 := mul_bd (a := T.y1 - T.y0) (b := T.x2 - T.x0) (A := 4096) (B := 32) (by omega) (by omega)
  have m5 := mul_bd (a := flatI T) (b := den) (A := 2048) (B := 64) b0 (by omega)
  have m6 := mul_bd (a := -flatI T) (b := den) (A := 2048) (B := 64) (by omega) (by omega)
  generalize flatI T = fl at *
  generalize tnx T = nx at *
  generalize tnz T = nz at *
  generalize rcY T px pz den = Y at *
  generalize rcK T * den = D at *
  have HK := Lib.hid hK
  have HY := Lib.hid hY
  clear hk hK hY
  go_enter Tryz.func122, Tryz.ntmps122
  go_wp2_with fail
  refine (KF.out _).mono ?_
  rintro e W1 ⟨rfl, n1⟩
  have c0 : W1.cell? ⟨w.heap.size, 0, none⟩ = some (.int .i64 T.x0) := n1.keep (by go_simp)
  have c1 : W1.cell? ⟨w.heap.size, 1, none⟩ = some (.int .i64 T.y0) := n1.keep (by go_simp)
  have c2 : W1.cell? ⟨w.heap.size, 2, none⟩ = some (.int .i64 T.z0) := n1.keep (by go_simp)
  have c3 : W1.cell? ⟨w.heap.size, 3, none⟩ = some (.int .i64 T.x1) := n1.keep (by go_simp)
  have c4 : W1.cell? ⟨w.heap.size, 4, none⟩ = some (.int .i64 T.y1) := n1.keep (by go_simp)
  have c5 : W1.cell? ⟨w.heap.size, 5, none⟩ = some (.int .i64 T.z1) := n1.keep (by go_simp)
  have c6 : W1.cell? ⟨w.heap.size, 6, none⟩ = some (.int .i64 T.x2) := n1.keep (by go_simp)
  have c7 : W1.cell? ⟨w.heap.size, 7, none⟩ = some (.int .i64 T.y2) := n1.keep (by go_simp)
  have c8 : W1.cell? ⟨w.heap.size, 8, none⟩ = some (.int .i64 T.z2) := n1.keep (by go_simp)
  have hn : New w W1 := New.trans (by (repeat (first | (with_reducible exact New.refl _) | (with_reducible assumption) | ((with_reducible refine New.setB ?_ ?_ _); focus (first | omega | (simp; omega) | (simp; done))) | (with_reducible refine New.alloc ?_ _) | (with_reducible refine New.drew ?_) | (with_reducible refine New.drewN ?_ _) | (with_reducible refine New.hat ?_ _) | ((with_reducible apply New.snart); (with_reducible assumption))))) n1
  clear n1 KF
  by_cases hf : fl < 0
  · have t : decide (fl < 0) = true := decide_eq_true hf
    have HK2 : Hid (D = -fl * den) := Lib.hid (by rw [HK.out, if_pos hf])
    have HY2 := HY.out
    rw [if_pos hf] at HY2
    replace HY2 := Lib.hid HY2
    clear HK HY
    go_wp2_with fail
    go_ret2
    exact ⟨by rw [HK2.out, HY2.out]; rfl, hn⟩
  · have t : decide (fl < 0) = false := decide_eq_false hf
    have HK2 : Hid (D = fl * den) := Lib.hid (by rw [HK.out, if_neg hf])
    have HY2 := HY.out
    rw [if_neg hf] at HY2
    replace HY2 := Lib.hid HY2
    clear HK HY
    go_wp2_with fail
    go_ret2
    exact ⟨by rw [HK2.out, HY2.out]; rfl, hn⟩

theorem cg_other (x z y d : Int) : Nat.gcd (Nat.gcd d.natAbs y.natAbs) (Nat.gcd z.natAbs x.natAbs) = cg x z y d := by
  unfold cg
  apply Nat.dvd_antisymm
  · refine Nat.dvd_gcd (Nat.dvd_gcd (Nat.dvd_gcd ?_ ?_) ?_) ?_
    · exact Nat.dvd_trans (Nat.gcd_dvd_left _ _) (Nat.gcd_dvd_left _ _)
    · exact Nat.dvd_trans (Nat.gcd_dvd_right _ _) (Nat.gcd_dvd_right _ _)
    · exact Nat.dvd_trans (Nat.gcd_dvd_right _ _) (Nat.gcd_dvd_left _ _)
    · exact Nat.dvd_trans (Nat.gcd_dvd_left _ _) (Nat.gcd_dvd_right _ _)
  · refine Nat.dvd_gcd (Nat.dvd_gcd ?_ ?_) (Nat.dvd_gcd ?_ ?_)
    · exact Nat.dvd_trans (Nat.gcd_dvd_left _ _) (Nat.dvd_trans (Nat.gcd_dvd_left _ _) (Nat.gcd_dvd_left _ _))
    · exact Nat.gcd_dvd_right _ _
    · exact Nat.dvd_trans (Nat.gcd_dvd_left _ _) (Nat.gcd_dvd_right _ _)
    · exact Nat.dvd_trans (Nat.gcd_dvd_left _ _) (Nat.dvd_trans (Nat.gcd_dvd_left _ _) (Nat.gcd_dvd_right _ _))

set_option maxHeartbeats 4000000 in
set_option maxRecDepth 100000 in
theorem r_corner (T : TriR) (hk : okT T = true) (px pz den : Int) (w : World) (hx : -4096 ≤ px ∧ px ≤ 4096) (hz : -4096 ≤ pz ∧ pz ≤ 4096) (hd : 1 ≤ den ∧ den ≤ 64) :
    Calls Tryz.prog 94 #[.agg #[.int .i64 T.x0, .int .i64 T.y0, .int .i64 T.z0, .int .i64 T.x1, .int .i64 T.y1, .int .i64 T.z1, .int .i64 T.x2, .int .i64 T.y2, .int .i64 T.z2], .int .i64 px, .int .i64 pz, .int .i64 den] w fun e w' => e = .returned (.agg #[.int .i64 (rcC T px pz den).x, .int .i64 (rcC T px pz den).z, .int .i64 (rcC T px pz den).y, .int .i64 (rcC T px pz den).d]) ∧ New w w' := by
  have hK := rcK_pos hk
  obtain ⟨-, -, -, -, -, -, -, by'⟩ := rcY_bd hk hx hz hd
  have KP := fun W => r_plane T hk px pz den W hx hz hd
  have m1 := mul_bd (a := px) (b := rcK T) (A := 4096) (B := 2048) hx (by omega)
  have m2 := mul_bd (a := pz) (b := rcK T) (A := 4096) (B := 2048) hz (by omega)
  have m3 := mul_bd (a := rcK T) (b := den) (A := 2048) (B := 64) (by omega) (by omega)
  have hD0 : 0 < rcK T * den := Int.mul_pos (by omega) (by omega)
  have hdiv : rcK T * den / den = rcK T := Int.mul_ediv_cancel _ (by omega)
  obtain ⟨L, hL⟩ : ∃ L, L = rcC T px pz den := ⟨_, rfl⟩
  have hV := low_val (px * rcK T) (pz * rcK T) (rcY T px pz den) (rcK T * den)
  have hlb := low_bd (x := px * rcK T) (z := pz * rcK T) (y := rcY T px pz den) (show rcK T * den ≠ 0 by omega)
  change rcC T px pz den = _ at hV
  change (rcC T px pz den).x.natAbs ≤ _ ∧ (rcC T px pz den).z.natAbs ≤ _ ∧ (rcC T px pz den).y.natAbs ≤ _ ∧ (rcC T px pz den).d.natAbs ≤ _ at hlb
  rw [← hL] at hV hlb
  rw [← hL]
  clear hL
  rw [Int.sign_eq_one_of_pos hD0, Int.one_mul] at hV
  generalize rcY T px pz den = Y at *
  obtain ⟨Dn, hDn⟩ : ∃ Dn : Nat, (Dn : Int) = rcK T * den := ⟨(rcK T * den).toNat, by omega⟩
  rw [← hDn] at KP hV hlb m3 hD0 hdiv
  clear hDn
  generalize rcK T = K at *
  obtain ⟨X, hX⟩ : ∃ X, X = px * K := ⟨_, rfl⟩
  obtain ⟨Z, hZ⟩ : ∃ Z, Z = pz * K := ⟨_, rfl⟩
  rw [← hX] at hV hlb m1
  rw [← hZ] at hV hlb m2
  have hX' := hX.symm
  have hZ' := hZ.symm
  clear hX hZ
  obtain ⟨g, hg⟩ : ∃ g, g = cg X Z Y Dn := ⟨_, rfl⟩
  have hg0 : 0 < g := by rw [hg]; exact cg_pos (by omega)
  have KG1 := Lib.hid (fun W => r_greatest X.natAbs Z.natAbs W (by omega) (by omega))
  have KG2 := Lib.hid (fun W => r_greatest Y.natAbs Dn W (by omega) (by omega))
  have KG3 : ∀ W, Calls Tryz.prog 123 #[.int .i64 (Nat.gcd Z.natAbs X.natAbs : Nat), .int .i64 (Nat.gcd Dn Y.natAbs : Nat)] W fun e w' => e = .returned (.int .i64 (g : Nat)) ∧ New W w' := fun W => by
    have b1 : Nat.gcd Z.natAbs X.natAbs ≤ 4611686018427387904 := by
      rcases Nat.eq_zero_or_pos Z.natAbs with q | q
      · rw [q, Nat.gcd_zero_left]; omega
      · exact Nat.le_trans (Nat.gcd_le_left _ q) (by omega)
    have b2 : Nat.gcd Dn Y.natAbs ≤ 4611686018427387904 := Nat.le_trans (Nat.gcd_le_left _ (by omega)) (by omega)
    have k := r_greatest (Nat.gcd Z.natAbs X.natAbs) (Nat.gcd Dn Y.natAbs) W b1 b2
    have e := cg_other X Z Y (Dn : Int)
    rw [Int.natAbs_natCast] at e
    rw [e, ← hg] at k
    exact k
  replace KG3 := Lib.hid KG3
  rw [← hg] at hV
  have q0 : ¬ ((g : Int) = 0) := by omega
  have hVx : X.tdiv (g : Int) = L.x := by rw [hV]
  have hVz : Z.tdiv (g : Int) = L.z := by rw [hV]
  have hVy : Y.tdiv (g : Int) = L.y := by rw [hV]
  have hVd : (Dn : Int).tdiv (g : Int) = L.d := by rw [hV]
  have hVd' : (Dn : Int) / (g : Int) = L.d := by rw [← hVd, Int.tdiv_eq_ediv_of_nonneg (by omega)]
  obtain ⟨l1, l2, l3, l4⟩ := hlb
  have A1 := Lib.hid (fun W => r_abs X W (by omega))
  have A2 := Lib.hid (fun W => r_abs Z W (by omega))
  have A3 := Lib.hid (fun W => r_abs Y W (by omega))
  have wx : IntKind.i64.wrap L.x = L.x := IntWalk.i64_in _ (by omega)
  have wz : IntKind.i64.wrap L.z = L.z := IntWalk.i64_in _ (by omega)
  have wy : IntKind.i64.wrap L.y = L.y := IntWalk.i64_in _ (by omega)
  have wd : IntKind.i64.wrap L.d = L.d := IntWalk.i64_in _ (by omega)
  have wX : IntKind.i64.wrap X = X := IntWalk.i64_in _ (by omega)
  have wZ : IntKind.i64.wrap Z = Z := IntWalk.i64_in _ (by omega)
  have hdt : (Dn : Int).tdiv den = K := by rw [Int.tdiv_eq_ediv_of_nonneg (by omega)]; exact hdiv
  have F8 := Lib.hid (And.intro hVx (And.intro hVz (And.intro hVy (And.intro hVd hVd'))))
  have F9 := Lib.hid (And.intro wx (And.intro wz (And.intro wy (And.intro wd (And.intro wX wZ)))))
  clear hg hV hVx hVz hVy hVd hVd' wx wz wy wd wX wZ hk
  replace KP := Lib.hid KP
  go_enter Tryz.func94, Tryz.ntmps94
  go_wp2_with fail
  refine (KP.out _).mono ?_
  rintro e W1 ⟨rfl, n1⟩
  have f0 : W1.frozen? ⟨w.heap.size + 1, 0, none⟩ = false := n1.keepF (v := .int .i64 0) (by go_simp) (by go_simp)
  have e0 : W1.cell? ⟨w.heap.size + 1, 0, none⟩ = some (.int .i64 0) := n1.keep (by go_simp)
  have f1 : W1.frozen? ⟨w.heap.size + 1, 1, none⟩ = false := n1.keepF (v := .int .i64 0) (by go_simp) (by go_simp)
  have e1 : W1.cell? ⟨w.heap.size + 1, 1, none⟩ = some (.int .i64 0) := n1.keep (by go_simp)
  have f2 : W1.frozen? ⟨w.heap.size + 1, 2, none⟩ = false := n1.keepF (v := .int .i64 0) (by go_simp) (by go_simp)
  have e2 : W1.cell? ⟨w.heap.size + 1, 2, none⟩ = some (.int .i64 0) := n1.keep (by go_simp)
  have f3 : W1.frozen? ⟨w.heap.size + 1, 3, none⟩ = false := n1.keepF (v := .int .i64 0) (by go_simp) (by go_simp)
  have e3 : W1.cell? ⟨w.heap.size + 1, 3, none⟩ = some (.int .i64 0) := n1.keep (by go_simp)
  have hn : New w W1 := New.trans (by (repeat (first | (with_reducible exact New.refl _) | (with_reducible assumption) | ((with_reducible refine New.setB ?_ ?_ _); focus (first | omega | (simp; omega) | (simp; done))) | (with_reducible refine New.alloc ?_ _) | (with_reducible refine New.drew ?_) | (with_reducible refine New.drewN ?_ _) | (with_reducible refine New.hat ?_ _) | ((with_reducible apply New.snart); (with_reducible assumption))))) n1
  clear n1 KP
  go_wp2_with fail
  refine (A1.out _).mono ?_
  rintro e W2 ⟨rfl, rfl⟩
  go_wp2_with fail
  refine (A2.out _).mono ?_
  rintro e W2 ⟨rfl, rfl⟩
  go_wp2_with fail
  refine (KG1.out _).mono ?_
  rintro e W2 ⟨rfl, n2⟩
  replace f0 := New.keepF n2 e0 f0
  replace e0 := New.keep n2 e0
  replace f1 := New.keepF n2 e1 f1
  replace e1 := New.keep n2 e1
  replace f2 := New.keepF n2 e2 f2
  replace e2 := New.keep n2 e2
  replace f3 := New.keepF n2 e3 f3
  replace e3 := New.keep n2 e3
  replace hn := hn.trans n2
  clear n2
  go_wp2_with fail
  refine (A3.out _).mono ?_
  rintro e W3 ⟨rfl, rfl⟩
  go_wp2_with fail
  refine (KG2.out _).mono ?_
  rintro e W3 ⟨rfl, n2⟩
  replace f0 := New.keepF n2 e0 f0
  replace e0 := New.keep n2 e0
  replace f1 := New.keepF n2 e1 f1
  replace e1 := New.keep n2 e1
  replace f2 := New.keepF n2 e2 f2
  replace e2 := New.keep n2 e2
  replace f3 := New.keepF n2 e3 f3
  replace e3 := New.keep n2 e3
  replace hn := hn.trans n2
  clear n2
  go_wp2_with fail
  refine (KG3.out _).mono ?_
  rintro e W4 ⟨rfl, n2⟩
  replace f0 := New.keepF n2 e0 f0
  replace e0 := New.keep n2 e0
  replace f1 := New.keepF n2 e1 f1
  replace e1 := New.keep n2 e1
  replace f2 := New.keepF n2 e2 f2
  replace e2 := New.keep n2 e2
  replace f3 := New.keepF n2 e3 f3
  replace e3 := New.keep n2 e3
  replace hn := hn.trans n2
  clear n2 KG1 KG2 KG3 A1 A2 A3
  go_upto_region 8 with fail
  obtain ⟨hVx, hVz, hVy, hVd, hVd'⟩ := F8.out
  obtain ⟨wx, wz, wy, wd, wX, wZ⟩ := F9.out
  go_region
  all_goals
    go_wp2_with fail
    refine bodyPost_ret (v := .agg #[.int .i64 L.x, .int .i64 L.z, .int .i64 L.y, .int .i64 L.d]) (by simp [results, Tryz.results94, go_sem, *]) rfl ?_
    exact ⟨rfl, by (repeat (first | (with_reducible exact New.refl _) | (with_reducible assumption) | ((with_reducible refine New.setB ?_ ?_ _); focus (first | omega | (simp; omega) | (simp; done))) | (with_reducible refine New.alloc ?_ _) | (with_reducible refine New.drew ?_) | (with_reducible refine New.drewN ?_ _) | (with_reducible refine New.hat ?_ _) | ((with_reducible apply New.snart); (with_reducible assumption))))⟩

end Go.Proofs.YtklopjbpfddgfaaGreat

/- The document's own corners over a column: the pieces in their order, who is in them, and the list that grows by put. -/
namespace Go.Proofs.YtklopjbpfddgfaaGreat
open Go.RowKit
set_option linter.unusedVariables false

def pA (T : TriR) (x z : Int) (m : Nat) : List Co := rA T (x + ((m % 2 : Nat) : Int)) (z + ((m / 2 : Nat) : Int))
def preA (T : TriR) (x z : Int) (n : Nat) : List Co := (List.range n).flatMap (pA T x z)
def kS (T : TriR) (x z : Int) (s : Sd) (k : Nat) : List Co := rX T z (x + (k : Int)) s ++ rZ T x (z + (k : Int)) s
def sS (T : TriR) (x z : Int) (i : Nat) : List Co := rV T x z (side T i) ++ (List.range 2).flatMap (kS T x z (side T i))
def preS (T : TriR) (x z : Int) (i : Nat) : List Co := preA T x z 4 ++ (List.range i).flatMap (sS T x z)
def preK (T : TriR) (x z : Int) (i k : Nat) : List Co := preS T x z i ++ rV T x z (side T i) ++ (List.range k).flatMap (kS T x z (side T i))
theorem pA_eq (T : TriR) (x z : Int) {dx dz : Nat} (h : dx ≤ 1) : pA T x z (2 * dz + dx) = rA T (x + (dx : Int)) (z + (dz : Int)) := by
  unfold pA
  rw [show (2 * dz + dx) % 2 = dx by omega, show (2 * dz + dx) / 2 = dz by omega]
theorem preA_succ (T : TriR) (x z : Int) {dx dz : Nat} (h : dx ≤ 1) : preA T x z (2 * dz + (dx + 1)) = preA T x z (2 * dz + dx) ++ rA T (x + (dx : Int)) (z + (dz : Int)) := by
  unfold preA
  rw [show 2 * dz + (dx + 1) = (2 * dz + dx) + 1 by omega, List.range_succ, List.flatMap_append, ← pA_eq T x z h]
  simp
theorem preK_succ (T : TriR) (x z : Int) (i k : Nat) : preK T x z i (k + 1) = preK T x z i k ++ rX T z (x + (k : Int)) (side T i) ++ rZ T x (z + (k : Int)) (side T i) := by
  unfold preK
  rw [List.range_succ, List.flatMap_append]
  simp [kS]
theorem preK_zero (T : TriR) (x z : Int) (i : Nat) : preK T x z i 0 = preS T x z i ++ rV T x z (side T i) := by simp [preK]
theorem preK_two (T : TriR) (x z : Int) (i : Nat) : preK T x z i 2 = preS T x z (i + 1) := by
  unfold preK preS
  rw [List.range_succ (n := i), List.flatMap_append]
  simp [sS]
theorem preS_zero (T : TriR) (x z : Int) : preS T x z 0 = preA T x z 4 := by simp [preS]

theorem corn_iff {x z : Int} {p : Int × Int} : p ∈ cornL x z ↔ (p.1 = x ∨ p.1 = x + 1) ∧ (p.2 = z ∨ p.2 = z + 1) := by
  obtain ⟨a, b⟩ := p
  unfold cornL
  simp only [List.mem_cons, Prod.mk.injEq, List.not_mem_nil, or_false]
  omega

theorem rA_com {T : TriR} (hk : okT T = true) {x z : Int} (hx : -1 ≤ x ∧ x ≤ 32) (hz : -1 ≤ z ∧ z ≤ 32) {px pz : Int} (hpx : px = x ∨ px = x + 1) (hpz : pz = z ∨ pz = z + 1) {c : Co} (h : c ∈ rA T px pz) : c ∈ comL T x z := by
  unfold rA at h
  split at h
  · rename_i hi
    rw [List.mem_singleton] at h
    rw [rc_ab hk (by omega) (by omega)] at h
    refine mem_comL.2 ⟨?_, .inl ⟨(px, pz), corn_iff.2 ⟨hpx, hpz⟩, hi, h⟩⟩
    subst h
    have hd := (abC_bd hk (px := px) (pz := pz) (by omega) (by omega)).1
    rw [holdsB_iff]
    show (x * hdT T px pz ≤ px * hdT T px pz ∧ px * hdT T px pz ≤ (x + 1) * hdT T px pz) ∧ (z * hdT T px pz ≤ pz * hdT T px pz ∧ pz * hdT T px pz ≤ (z + 1) * hdT T px pz)
    exact ⟨⟨Int.mul_le_mul_of_nonneg_right (by omega) (by omega), Int.mul_le_mul_of_nonneg_right (by omega) (by omega)⟩, ⟨Int.mul_le_mul_of_nonneg_right (by omega) (by omega), Int.mul_le_mul_of_nonneg_right (by omega) (by omega)⟩⟩
  · cases h

theorem ins_vert (T : TriR) (i : Nat) : insB T (side T i).ax (side T i).az = true := by
  have h0 : s0 T T.x0 T.z0 = 0 := by unfold s0 crI; grind
  have h1 : s2 T T.x0 T.z0 = 0 := by unfold s2 crI; grind
  have h2 : s0 T T.x1 T.z1 = 0 := by unfold s0 crI; grind
  have h3 : s1 T T.x1 T.z1 = 0 := by unfold s1 crI; grind
  have h4 : s1 T T.x2 T.z2 = 0 := by unfold s1 crI; grind
  have h5 : s2 T T.x2 T.z2 = 0 := by unfold s2 crI; grind
  rw [insB_iff]
  match i with
  | 0 => simp only [side]; omega
  | 1 => simp only [side]; omega
  | i + 2 => simp only [side]; omega

theorem rV_com {T : TriR} (hk : okT T = true) {x z : Int} (hx : -1 ≤ x ∧ x ≤ 32) (hz : -1 ≤ z ∧ z ≤ 32) (i : Nat) {c : Co} (h : c ∈ rV T x z (side T i)) : c ∈ comL T x z := by
  unfold rV at h
  split at h
  · rename_i hi
    unfold inR at hi
    simp only [Bool.and_eq_true, decide_eq_true_eq, Int.mul_one] at hi
    refine rA_com hk hx hz (px := (side T i).ax) (pz := (side T i).az) (by omega) (by omega) ?_
    unfold rA
    rw [if_pos (ins_vert T i)]
    exact h
  · cases h

theorem cr_x {T : TriR} {n : Int} (i : Nat) (hs : ((side T i).p ⟨1, 0, n⟩).sign ≠ ((side T i).q ⟨1, 0, n⟩).sign) : (crC (side T i) ⟨1, 0, n⟩).x = n * (crC (side T i) ⟨1, 0, n⟩).d := by
  have ep : (side T i).p ⟨1, 0, n⟩ = (side T i).ax - n := by show 1 * _ + 0 * _ - n = _; omega
  have eq : (side T i).q ⟨1, 0, n⟩ = (side T i).bx - n := by show 1 * _ + 0 * _ - n = _; omega
  obtain ⟨hp, hx, -, -⟩ := crC_at hs
  have hne := (sg_ne hs).1
  rw [ep, eq] at hx hne
  apply Int.eq_of_mul_eq_mul_right hne
  generalize crC (side T i) ⟨1, 0, n⟩ = k at *
  generalize side T i = s at *
  rw [hx]
  clear hx hne hp ep eq hs
  grind
theorem cr_z {T : TriR} {n : Int} (i : Nat) (hs : ((side T i).p ⟨0, 1, n⟩).sign ≠ ((side T i).q ⟨0, 1, n⟩).sign) : (crC (side T i) ⟨0, 1, n⟩).z = n * (crC (side T i) ⟨0, 1, n⟩).d := by
  have ep : (side T i).p ⟨0, 1, n⟩ = (side T i).az - n := by show 0 * _ + 1 * _ - n = _; omega
  have eq : (side T i).q ⟨0, 1, n⟩ = (side T i).bz - n := by show 0 * _ + 1 * _ - n = _; omega
  obtain ⟨hp, -, hz, -⟩ := crC_at hs
  have hne := (sg_ne hs).1
  rw [ep, eq] at hz hne
  apply Int.eq_of_mul_eq_mul_right hne
  generalize crC (side T i) ⟨0, 1, n⟩ = k at *
  generalize side T i = s at *
  rw [hz]
  clear hz hne hp ep eq hs
  grind

theorem rX_com {T : TriR} (hk : okT T = true) {x z n : Int} (hn : n = x ∨ n = x + 1) {i : Nat} (hi : i < 3) {c : Co} (h : c ∈ rX T z n (side T i)) : c ∈ comL T x z := by
  obtain ⟨hs, rfl, h1, h2⟩ := (mem_rX hk i).1 h
  have e := cr_x i hs
  have hp := (crC_at hs).1.1
  refine mem_comL.2 ⟨holdsB_iff.2 ⟨?_, h1, h2⟩, .inr ⟨i, hi, ⟨1, 0, n⟩, ?_, hs, rfl⟩⟩
  · rw [e]
    exact ⟨Int.mul_le_mul_of_nonneg_right (by omega) (by omega), Int.mul_le_mul_of_nonneg_right (by omega) (by omega)⟩
  · rcases hn with rfl | rfl <;> simp [lineL]
theorem rZ_com {T : TriR} (hk : okT T = true) {x z n : Int} (hn : n = z ∨ n = z + 1) {i : Nat} (hi : i < 3) {c : Co} (h : c ∈ rZ T x n (side T i)) : c ∈ comL T x z := by
  obtain ⟨hs, rfl, h1, h2⟩ := (mem_rZ hk i).1 h
  have e := cr_z i hs
  have hp := (crC_at hs).1.1
  refine mem_comL.2 ⟨holdsB_iff.2 ⟨⟨h1, h2⟩, ?_⟩, .inr ⟨i, hi, ⟨0, 1, n⟩, ?_, hs, rfl⟩⟩
  · rw [e]
    exact ⟨Int.mul_le_mul_of_nonneg_right (by omega) (by omega), Int.mul_le_mul_of_nonneg_right (by omega) (by omega)⟩
  · rcases hn with rfl | rfl <;> simp [lineL]

/-- Everything in common is one of the pieces. -/
theorem com_pre {T : TriR} (hk : okT T = true) {x z : Int} (hx : -1 ≤ x ∧ x ≤ 32) (hz : -1 ≤ z ∧ z ≤ 32) {c : Co} (h : c ∈ comL T x z) : c ∈ preS T x z 3 := by
  obtain ⟨hh, h⟩ := mem_comL.1 h
  obtain ⟨⟨a1, a2⟩, b1, b2⟩ := holdsB_iff.1 hh
  unfold preS
  rw [List.mem_append]
  rcases h with ⟨⟨px, pz⟩, hp, hi, rfl⟩ | ⟨i, hi, l, hl, hs, rfl⟩
  · left
    obtain ⟨h1, h2⟩ := corn_iff.1 hp
    unfold preA
    rw [List.mem_flatMap]
    obtain ⟨dx, hdx, ex⟩ : ∃ dx : Nat, dx ≤ 1 ∧ px = x + (dx : Int) := by
      rcases h1 with h1 | h1
      · exact ⟨0, by omega, by simpa using h1⟩
      · exact ⟨1, by omega, by simpa using h1⟩
    obtain ⟨dz, hdz, ez⟩ : ∃ dz : Nat, dz ≤ 1 ∧ pz = z + (dz : Int) := by
      rcases h2 with h2 | h2
      · exact ⟨0, by omega, by simpa using h2⟩
      · exact ⟨1, by omega, by simpa using h2⟩
    refine ⟨2 * dz + dx, List.mem_range.2 (by omega), ?_⟩
    rw [pA_eq T x z hdx, ← ex, ← ez]
    unfold rA
    rw [if_pos hi, List.mem_singleton, rc_ab hk (by omega) (by omega)]
  · right
    rw [List.mem_flatMap]
    refine ⟨i, List.mem_range.2 hi, ?_⟩
    unfold sS
    rw [List.mem_append]
    right
    rw [List.mem_flatMap]
    unfold lineL at hl
    simp only [List.mem_cons, List.not_mem_nil, or_false] at hl
    rcases hl with rfl | rfl | rfl | rfl
    · refine ⟨0, by simp, ?_⟩
      unfold kS
      rw [List.mem_append]
      left
      simp only [Int.natCast_zero, Int.add_zero]
      exact (mem_rX hk i).2 ⟨hs, rfl, b1, b2⟩
    · refine ⟨1, by simp, ?_⟩
      unfold kS
      rw [List.mem_append]
      left
      exact (mem_rX hk i).2 ⟨hs, rfl, b1, b2⟩
    · refine ⟨0, by simp, ?_⟩
      unfold kS
      rw [List.mem_append]
      right
      simp only [Int.natCast_zero, Int.add_zero]
      exact (mem_rZ hk i).2 ⟨hs, rfl, a1, a2⟩
    · refine ⟨1, by simp, ?_⟩
      unfold kS
      rw [List.mem_append]
      right
      exact (mem_rZ hk i).2 ⟨hs, rfl, a1, a2⟩

theorem len_flat {f : Nat → List Co} {b : Nat} (h : ∀ i, (f i).length ≤ b) : ∀ n, ((List.range n).flatMap f).length ≤ n * b
  | 0 => by simp
  | n + 1 => by
    rw [List.range_succ, List.flatMap_append, List.length_append, Nat.succ_mul, List.flatMap_cons, List.flatMap_nil, List.append_nil]
    have := len_flat h n
    have := h n
    omega
theorem rA_len (T : TriR) (px pz : Int) : (rA T px pz).length ≤ 1 := by unfold rA; split <;> simp
theorem rV_len (T : TriR) (x z : Int) (s : Sd) : (rV T x z s).length ≤ 1 := by unfold rV; split <;> simp
theorem rX_len (T : TriR) (z n : Int) (s : Sd) : (rX T z n s).length ≤ 1 := by
  unfold rX
  split
  · split <;> simp
  · simp
theorem rZ_len (T : TriR) (x n : Int) (s : Sd) : (rZ T x n s).length ≤ 1 := by
  unfold rZ
  split
  · split <;> simp
  · simp

end Go.Proofs.YtklopjbpfddgfaaGreat

/- The document's own corners over a column: the list that grows by put. -/
namespace Go.Proofs.YtklopjbpfddgfaaGreat
open Go.RowKit
set_option linter.unusedVariables false

/-- The list that holds what was put. -/
def RS (T : TriR) (x z : Int) (b : Nat) (w : World) (v : Value) (ps : List Co) : Prop :=
  ∃ l, Sl Co.enc 4 w v l ∧ l.Pairwise ltC ∧ (∀ c, c ∈ l ↔ c ∈ ps) ∧ l.length ≤ b ∧ ∀ c ∈ ps, c ∈ comL T x z
theorem RS.keep {T : TriR} {x z : Int} {b : Nat} {w w' : World} {v : Value} {ps : List Co} (h : RS T x z b w v ps) (n : New w w') : RS T x z b w' v ps := by
  obtain ⟨l, h1, h2⟩ := h
  exact ⟨l, h1.keep n, h2⟩
theorem RS.more {T : TriR} {x z : Int} {b b' : Nat} {w : World} {v : Value} {ps : List Co} (h : RS T x z b w v ps) (hb : b ≤ b') : RS T x z b' w v ps := by
  obtain ⟨l, h1, h2, h3, h4, h5⟩ := h
  exact ⟨l, h1, h2, h3, by omega, h5⟩

theorem r_putS (T : TriR) (hk : okT T = true) (x z : Int) (hx : -1 ≤ x ∧ x ≤ 32) (hz : -1 ≤ z ∧ z ≤ 32) (b : Nat) (hb : b ≤ 60) (w : World) (v : Value) (ps : List Co) (h : RS T x z b w v ps) (c : Co) (hc : c ∈ comL T x z) :
    Calls Tryz.prog 93 #[v, .agg #[.int .i64 c.x, .int .i64 c.z, .int .i64 c.y, .int .i64 c.d]] w fun e w' => ∃ v', e = .returned v' ∧ RS T x z (b + 1) w' v' (ps ++ [c]) ∧ New w w' := by
  obtain ⟨l, h1, h2, h3, h4, h5⟩ := h
  have hl : ∀ a ∈ l, a ∈ comL T x z := fun a ha => h5 a ((h3 a).1 ha)
  refine (r_put v l c w h1 (by omega) (com_okc hk hx hz hc) (fun a ha => com_okc hk hx hz (hl a ha))).mono ?_
  rintro e w' ⟨v', he, hs, hn⟩
  obtain ⟨p1, p2⟩ := put_rise (com_prim hk hx hz hc).1.1 l (fun a ha => (com_prim hk hx hz (hl a ha)).1.1) (fun a ha e1 e2 => com_one hk (com_prim hk hx hz (hl a ha)) (com_prim hk hx hz hc) e1 e2) h2
  have hlen := putGo_len c l false
  refine ⟨v', he, ⟨_, hs, p1, fun a => ?_, by omega, fun a ha => ?_⟩, hn⟩
  · rw [p2 a, List.mem_append, List.mem_singleton, h3 a]
    exact Or.comm
  · rcases List.mem_append.1 ha with ha | ha
    · exact h5 a ha
    · rw [List.mem_singleton] at ha; rw [ha]; exact hc

/-- At the end the list is the corners. -/
theorem RS.cor {T : TriR} (hk : okT T = true) {x z : Int} (hx : -1 ≤ x ∧ x ≤ 32) (hz : -1 ≤ z ∧ z ≤ 32) {b : Nat} {w : World} {v : Value} (h : RS T x z b w v (preS T x z 3)) : ∃ R, Sl Co.enc 4 w v R ∧ IsCor T x z R ∧ R.length ≤ b := by
  obtain ⟨l, h1, h2, h3, h4, h5⟩ := h
  exact ⟨l, h1, ⟨h2, fun c => by rw [h3 c]; exact ⟨h5 c, com_pre hk hx hz⟩⟩, h4⟩

end Go.Proofs.YtklopjbpfddgfaaGreat
