import Derived.Test.YteoongcajfcgcaaClRZ6
import Derived.Test.YteoongcajfcgcaaSoCBZ6

/- Triangles that are turned about, and lifted: what lies over a column, in plain numbers. -/
namespace Go.Proofs.Yteoongcajfcgcaa
open Go.RowKit
set_option linter.unusedVariables false

def rotT (T : TriR) : TriR := ⟨1, T.x1, T.y1, T.z1, T.x2, T.y2, T.z2, T.x0, T.y0, T.z0⟩
def upT (T : TriR) (u : Int) : TriR := ⟨T.i, T.x0, T.y0 + u, T.z0, T.x1, T.y1 + u, T.z1, T.x2, T.y2 + u, T.z2⟩
def upC (u : Int) (c : Co) : Co := ⟨c.x, c.z, c.y + u * c.d, c.d⟩

theorem okT_iff {T : TriR} : okT T = true ↔ StP 32 32 T.x0 T.y0 T.z0 T.x1 T.y1 T.z1 T.x2 T.y2 T.z2 ∧ tny T ≠ 0 := by
  unfold okT okB tny
  rw [Bool.and_eq_true, stB_iff, bne_iff_ne]

theorem may_ok (T : TriR) : mayTB 32 32 T = okT T := by
  rw [Bool.eq_iff_iff, okT_iff]
  unfold mayTB outV heiB StP StV tny nyI
  simp only [Bool.and_eq_true, Bool.not_eq_true', Bool.or_eq_false_iff, decide_eq_false_iff_not, bne_iff_ne, Bool.not_eq_false', decide_eq_true_eq]
  constructor
  · rintro ⟨⟨⟨h0, h1⟩, h2⟩, h3⟩
    refine ⟨⟨⟨?_, ?_, ?_⟩, ⟨?_, ?_, ?_⟩, ⟨?_, ?_, ?_⟩⟩, fun e => h3 (by grind)⟩ <;> omega
  · rintro ⟨⟨h0, h1, h2⟩, h3⟩
    refine ⟨⟨⟨?_, ?_⟩, ?_⟩, fun e => h3 (by grind)⟩ <;> omega

/-! Turned about. -/
theorem rot_ny (T : TriR) : tny (rotT T) = tny T := by unfold tny nyI rotT; grind
theorem rot_ok (T : TriR) : okT (rotT T) = okT T := by
  rw [Bool.eq_iff_iff, okT_iff, okT_iff, rot_ny]
  unfold StP rotT
  simp only []
  constructor
  · rintro ⟨⟨a, b, c⟩, d⟩; exact ⟨⟨c, a, b⟩, d⟩
  · rintro ⟨⟨a, b, c⟩, d⟩; exact ⟨⟨b, c, a⟩, d⟩
theorem rot_ins (T : TriR) (px pz : Int) : insB (rotT T) px pz = insB T px pz := by
  rw [Bool.eq_iff_iff, insB_iff, insB_iff]
  have e0 : s0 (rotT T) px pz = s1 T px pz := rfl
  have e1 : s1 (rotT T) px pz = s2 T px pz := rfl
  have e2 : s2 (rotT T) px pz = s0 T px pz := rfl
  rw [e0, e1, e2]
  omega
theorem rot_cv {T : TriR} {c : Co} (h : Cv (rotT T) c) : Cv T c := by
  obtain ⟨u0, u1, u2, h0, h1, h2, hw, hx, hz, hy⟩ := h
  unfold rotT at hx hz hy
  simp only [] at hx hz hy
  exact ⟨u2, u0, u1, h2, h0, h1, by omega, by grind, by grind, by grind⟩
theorem rot_ab {T : TriR} (hk : okT T = true) {px pz : Int} (hx : -64 ≤ px ∧ px ≤ 64) (hz : -64 ≤ pz ∧ pz ≤ 64) (hi : insB T px pz = true) : abC (rotT T) px pz = abC T px pz := by
  have hk' : okT (rotT T) = true := by rw [rot_ok]; exact hk
  have c1 := abC_cv hk' hx hz (by rw [rot_ins]; exact hi)
  refine pl_one (ok_ny hk) (pl_of_cv (rot_cv c1)) (abC_pl hk hx hz) (abC_prim hk' hx hz) (abC_prim hk hx hz) ?_ ?_
  · show px * hdT (rotT T) px pz * hdT T px pz = px * hdT T px pz * hdT (rotT T) px pz
    grind
  · show pz * hdT (rotT T) px pz * hdT T px pz = pz * hdT T px pz * hdT (rotT T) px pz
    grind
theorem rot_com {T : TriR} (hk : okT T = true) {x z : Int} (hx : -1 ≤ x ∧ x ≤ 32) (hz : -1 ≤ z ∧ z ≤ 32) (c : Co) : c ∈ comL (rotT T) x z ↔ c ∈ comL T x z := by
  rw [mem_comL, mem_comL]
  refine and_congr Iff.rfl (or_congr ?_ ?_)
  · constructor
    · rintro ⟨p, hp, hi, rfl⟩
      have b := corn_in hx hz hp
      rw [rot_ins] at hi
      exact ⟨p, hp, hi, rot_ab hk (by omega) (by omega) hi⟩
    · rintro ⟨p, hp, hi, rfl⟩
      have b := corn_in hx hz hp
      exact ⟨p, hp, by rw [rot_ins]; exact hi, (rot_ab hk (by omega) (by omega) hi).symm⟩
  · have e0 : side (rotT T) 0 = side T 1 := rfl
    have e1 : side (rotT T) 1 = side T 2 := rfl
    have e2 : side (rotT T) 2 = side T 0 := rfl
    constructor
    · rintro ⟨i, hi, h⟩
      rcases (show i = 0 ∨ i = 1 ∨ i = 2 by omega) with rfl | rfl | rfl
      · exact ⟨1, by omega, h⟩
      · exact ⟨2, by omega, h⟩
      · exact ⟨0, by omega, h⟩
    · rintro ⟨i, hi, h⟩
      rcases (show i = 0 ∨ i = 1 ∨ i = 2 by omega) with rfl | rfl | rfl
      · exact ⟨2, by omega, h⟩
      · exact ⟨0, by omega, h⟩
      · exact ⟨1, by omega, h⟩

theorem ov_congr {T U : TriR} {x z : Int} (hE : corE T x z = corE U x z) (h : corE T x z = 0 → ∀ c, c ∈ comL T x z ↔ c ∈ comL U x z) : ovB T x z = ovB U x z ∧ ovLo T x z = ovLo U x z ∧ ovHi T x z = ovHi U x z := by
  have hb : ovB T x z = ovB U x z := by
    rw [Bool.eq_iff_iff, ov_iff, ov_iff, ← hE]
    exact ⟨fun ⟨a, c, hc⟩ => ⟨a, c, (h a c).1 hc⟩, fun ⟨a, c, hc⟩ => ⟨a, c, (h a c).2 hc⟩⟩
  refine ⟨hb, ?_, ?_⟩
  · unfold ovLo
    rw [← hb]
    cases h1 : ovB T x z with
    | false => rfl
    | true => exact loF_congr (h (ov_iff.1 h1).1)
  · unfold ovHi
    rw [← hb]
    cases h1 : ovB T x z with
    | false => rfl
    | true => exact hiF_congr (h (ov_iff.1 h1).1)

theorem rot_ov {T : TriR} (x z : Int) : corE (rotT T) x z = corE T x z ∧ ovB (rotT T) x z = ovB T x z ∧ ovLo (rotT T) x z = ovLo T x z ∧ ovHi (rotT T) x z = ovHi T x z := by
  have e : corE (rotT T) x z = corE T x z := by unfold corE; rw [rot_ok]
  refine ⟨e, ov_congr e fun h0 c => ?_⟩
  obtain ⟨hk, -, -, hx, hz⟩ := cor_zero h0
  rw [rot_ok] at hk
  exact rot_com hk hx hz c

/-! Lifted. -/
theorem up_ny (T : TriR) (u : Int) : tny (upT T u) = tny T := rfl
theorem up_nx (T : TriR) (u : Int) : tnx (upT T u) = tnx T := by unfold tnx nxI upT; grind
theorem up_nz (T : TriR) (u : Int) : tnz (upT T u) = tnz T := by unfold tnz nzI upT; grind
theorem up_ok {T : TriR} {u : Int} (hk : okT T = true) (h0 : -2048 ≤ T.y0 + u ∧ T.y0 + u ≤ 2048) (h1 : -2048 ≤ T.y1 + u ∧ T.y1 + u ≤ 2048) (h2 : -2048 ≤ T.y2 + u ∧ T.y2 + u ≤ 2048) : okT (upT T u) = true := by
  rw [okT_iff, up_ny]
  have := okT_iff.1 hk
  unfold StP StV upT at *
  simp only []
  refine ⟨⟨⟨?_, ?_, ?_⟩, ⟨?_, ?_, ?_⟩, ⟨?_, ?_, ?_⟩⟩, this.2⟩ <;> omega
theorem upC_prim {u : Int} {c : Co} (h : Prim c) : Prim (upC u c) := by
  refine ⟨h.1, ?_⟩
  obtain ⟨d1, d2, d3, d4⟩ := cg_dvd (upC u c).x (upC u c).z (upC u c).y (upC u c).d
  have hy : ((cg (upC u c).x (upC u c).z (upC u c).y (upC u c).d : Nat) : Int) ∣ c.y := by
    have e : c.y = (upC u c).y - u * (upC u c).d := by show c.y = c.y + u * c.d - u * c.d; omega
    rw [e]
    exact Int.dvd_sub d3 (Int.dvd_mul_of_dvd_right d4)
  have h2 := h.2
  have : cg (upC u c).x (upC u c).z (upC u c).y (upC u c).d ∣ cg c.x c.z c.y c.d :=
    Nat.dvd_gcd (Nat.dvd_gcd (Nat.dvd_gcd (Int.ofNat_dvd_left.1 d4) (Int.ofNat_dvd_left.1 d1)) (Int.ofNat_dvd_left.1 d2)) (Int.ofNat_dvd_left.1 hy)
  rw [h2] at this
  exact Nat.dvd_one.1 this
theorem upC_pl {T : TriR} {u : Int} {c : Co} (h : Pl T c) : Pl (upT T u) (upC u c) := by
  unfold Pl at *
  rw [up_ny, up_nx, up_nz]
  unfold upC upT
  simp only []
  grind
theorem up_ab {T : TriR} {u : Int} (hk : okT T = true) (hk' : okT (upT T u) = true) {px pz : Int} (hx : -64 ≤ px ∧ px ≤ 64) (hz : -64 ≤ pz ∧ pz ≤ 64) : abC (upT T u) px pz = upC u (abC T px pz) := by
  refine pl_one (ok_ny hk') (abC_pl hk' hx hz) (upC_pl (abC_pl hk hx hz)) (abC_prim hk' hx hz) (upC_prim (abC_prim hk hx hz)) ?_ ?_
  · show px * hdT (upT T u) px pz * hdT T px pz = px * hdT T px pz * hdT (upT T u) px pz
    grind
  · show pz * hdT (upT T u) px pz * hdT T px pz = pz * hdT T px pz * hdT (upT T u) px pz
    grind
def upS (u : Int) (s : Sd) : Sd := ⟨s.ax, s.ay + u, s.az, s.bx, s.by' + u, s.bz⟩
theorem up_side (T : TriR) (u : Int) (i : Nat) : side (upT T u) i = upS u (side T i) := by
  match i with
  | 0 => rfl
  | 1 => rfl
  | i + 2 => rfl
theorem up_cr {s : Sd} {l : Ln} (u : Int) (h : (s.p l).sign ≠ (s.q l).sign) : crC (upS u s) l = upC u (crC s l) := by
  have hne := (sg_ne h).1
  have hp : (upS u s).p l = s.p l := rfl
  have hq : (upS u s).q l = s.q l := rfl
  obtain ⟨p1, x1, z1, y1⟩ := crC_at h
  obtain ⟨p2, x2, z2, y2⟩ := crC_at (s := upS u s) (l := l) (by rw [hp, hq]; exact h)
  rw [hp, hq] at x2 z2 y2
  unfold upS at x2 z2 y2
  simp only [] at x2 z2 y2
  have key : ∀ {a b d1 d2 D X : Int}, a * D = X * d2 → b * D = X * d1 → a * d1 * D = b * d2 * D := fun {a b d1 d2 D X} h1 h2 => by
    rw [show a * d1 * D = (a * D) * d1 by grind, show b * d2 * D = (b * D) * d2 by grind, h1, h2]
    grind
  have y3 : ((crC s l).y + u * (crC s l).d) * (s.p l - s.q l) = (s.p l * (s.by' + u) - s.q l * (s.ay + u)) * (crC s l).d := by
    rw [Int.add_mul, y1]
    clear x1 z1 x2 z2 y2 p1 p2 h hne hp hq key y1
    grind
  exact prim_one p2 (upC_prim p1) (Int.eq_of_mul_eq_mul_right hne (key x2 x1)) (Int.eq_of_mul_eq_mul_right hne (key z2 z1)) (Int.eq_of_mul_eq_mul_right hne (key y2 y3))
theorem up_com {T : TriR} {u : Int} (hk : okT T = true) (hk' : okT (upT T u) = true) {x z : Int} (hx : -1 ≤ x ∧ x ≤ 32) (hz : -1 ≤ z ∧ z ≤ 32) (c : Co) : c ∈ comL (upT T u) x z ↔ ∃ b ∈ comL T x z, c = upC u b := by
  rw [mem_comL]
  constructor
  · rintro ⟨h, ⟨p, hp, hi, rfl⟩ | ⟨i, hi, l, hl, hs, rfl⟩⟩
    · have b := corn_in hx hz hp
      rw [up_ab hk hk' (by omega) (by omega)] at h ⊢
      exact ⟨abC T p.1 p.2, mem_comL.2 ⟨h, .inl ⟨p, hp, hi, rfl⟩⟩, rfl⟩
    · rw [up_side] at h hs ⊢
      have hs' : ((side T i).p l).sign ≠ ((side T i).q l).sign := hs
      rw [up_cr u hs'] at h ⊢
      exact ⟨crC (side T i) l, mem_comL.2 ⟨h, .inr ⟨i, hi, l, hl, hs', rfl⟩⟩, rfl⟩
  · rintro ⟨b, hb, rfl⟩
    obtain ⟨h, ⟨p, hp, hi, rfl⟩ | ⟨i, hi, l, hl, hs, rfl⟩⟩ := mem_comL.1 hb
    · have b := corn_in hx hz hp
      exact ⟨h, .inl ⟨p, hp, hi, (up_ab hk hk' (by omega) (by omega)).symm⟩⟩
    · exact ⟨h, .inr ⟨i, hi, l, hl, by rw [up_side]; exact hs, by rw [up_side, up_cr u hs]⟩⟩
theorem up_fl {u : Int} {c : Co} (h : Okc c) (h' : Okc (upC u c)) : flC (upC u c) = flC c + u ∧ clC (upC u c) = clC c + u := by
  have hd : c.d ≠ 0 := by have := h.1; omega
  rw [fl_eq h, fl_eq h', cl_eq h, cl_eq h']
  show (c.y + u * c.d) / c.d = _ ∧ -((-(c.y + u * c.d)) / c.d) = _
  rw [Int.add_mul_ediv_right _ _ hd, show -(c.y + u * c.d) = -c.y + (-u) * c.d by grind, Int.add_mul_ediv_right _ _ hd]
  omega
theorem up_ov {T : TriR} {u : Int} (hk : okT T = true) (hk' : okT (upT T u) = true) (x z : Int) : corE (upT T u) x z = corE T x z ∧ ovB (upT T u) x z = ovB T x z ∧ (ovB T x z = true → ovLo (upT T u) x z = ovLo T x z + u ∧ ovHi (upT T u) x z = ovHi T x z + u) := by
  have e : corE (upT T u) x z = corE T x z := by unfold corE; rw [hk, hk']
  have hm : corE T x z = 0 → ∀ c, c ∈ comL (upT T u) x z ↔ ∃ b ∈ comL T x z, c = upC u b := fun h0 => by
    obtain ⟨-, -, -, hx, hz⟩ := cor_zero h0
    exact up_com hk hk' hx hz
  have hb : ovB (upT T u) x z = ovB T x z := by
    rw [Bool.eq_iff_iff, ov_iff, ov_iff, e]
    constructor
    · rintro ⟨h0, c, hc⟩
      obtain ⟨b, hb, -⟩ := (hm h0 c).1 hc
      exact ⟨h0, b, hb⟩
    · rintro ⟨h0, c, hc⟩
      exact ⟨h0, upC u c, (hm h0 _).2 ⟨c, hc, rfl⟩⟩
  refine ⟨e, hb, fun h => ?_⟩
  have h0 := (ov_iff.1 h).1
  have h' : ovB (upT T u) x z = true := by rw [hb]; exact h
  have h0' : corE (upT T u) x z = 0 := by rw [e]; exact h0
  obtain ⟨⟨a, ha, ea⟩, ⟨b, hb2, eb⟩⟩ := ov_got h
  obtain ⟨⟨a', ha', ea'⟩, ⟨b', hb', eb'⟩⟩ := ov_got h'
  obtain ⟨a0, ha0, rfl⟩ := (hm h0 _).1 ha'
  obtain ⟨b0, hb0, rfl⟩ := (hm h0 _).1 hb'
  have ma : upC u a ∈ comL (upT T u) x z := (hm h0 _).2 ⟨a, ha, rfl⟩
  have mb : upC u b ∈ comL (upT T u) x z := (hm h0 _).2 ⟨b, hb2, rfl⟩
  have f1 := up_fl (fact h0 ha).ok (fact h0' ma).ok
  have f2 := up_fl (fact h0 ha0).ok (fact h0' ha').ok
  have f3 := up_fl (fact h0 hb2).ok (fact h0' mb).ok
  have f4 := up_fl (fact h0 hb0).ok (fact h0' hb').ok
  have k1 := (ov_mem h ha0).1
  have k2 := (ov_mem h' ma).1
  have k3 := (ov_mem h hb0).2
  have k4 := (ov_mem h' mb).2
  omega
theorem ov_flat {T : TriR} {x z : Int} (h : ovB T x z = true) (h1 : T.y0 = T.y1) (h2 : T.y1 = T.y2) : ovLo T x z = T.y0 ∧ ovHi T x z = T.y0 := by
  have hb := ov_between h
  unfold minI maxI at hb
  omega

end Go.Proofs.Yteoongcajfcgcaa
