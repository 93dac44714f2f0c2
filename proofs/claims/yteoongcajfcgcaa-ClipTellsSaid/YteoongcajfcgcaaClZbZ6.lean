import Derived.Test.YteoongcajfcgcaaClVZ6
import Derived.Test.YteoongcajfcgcaaClOZ6
import Derived.Test.YteoongcajfcgcaaClXZ6
import Derived.Test.YteoongcajfcgcaaClXiZ6
import Derived.Test.YteoongcajfcgcaaClYZ6

/- The document's own corners over a column: the pieces in their order, who is in them, and the list that grows by put. -/
namespace Go.Proofs.Yteoongcajfcgcaa
open Go.RowKit
set_option linter.unusedVariables false

def pA (T : TriR) (x z : Int) (m : Nat) : List Co := rA T (x + ((m % 2 : Nat) : Int)) (z + ((m / 2 : Nat) : Int))
def preA (T : TriR) (x z : Int) (n : Nat) : List Co := (List.range n).flatMap (pA T x z)
def kS (T : TriR) (x z : Int) (s : Sd) (k : Nat) : List Co := rX T z (x + (k : Int)) s ++ rZ T x (z + (k : Int)) s
def sS (T : TriR) (x z : Int) (i : Nat) : List Co := rV T x z (side T i) ++ (List.range 2).flatMap (kS T x z (side T i))
def preS (T : TriR) (x z : Int) (i : Nat) : List Co := preA T x z 4 ++ (List.range i).flatMap (sS T x z)
def preK (T : TriR) (x z : Int) (i k : Nat) : List Co := preS T x z i ++ rV T x z (side T i) ++ (List.range k).flatMap (kS T x z (side T i))
theorem pA_eq (T : TriR) (x z : Int) {dx dz : Nat} (h : dx ≤ 1) : pA T x z (2 * dz + dx) = rA T (x + (dx : Int)) (z + (dz : Int)) := by
  unfold pA
  rw [show (2 * dz + dx) % 2 = dx by omega, show (2 * dz + dx) / 2 = dz by omega]
theorem preA_succ (T : TriR) (x z : Int) {dx dz : Nat} (h : dx ≤ 1) : preA T x z (2 * dz + (dx + 1)) = preA T x z (2 * dz + dx) ++ rA T (x + (dx : Int)) (z + (dz : Int)) := by
  unfold preA
  rw [show 2 * dz + (dx + 1) = (2 * dz + dx) + 1 by omega, List.range_succ, List.flatMap_append, ← pA_eq T x z h]
  simp
theorem preK_succ (T : TriR) (x z : Int) (i k : Nat) : preK T x z i (k + 1) = preK T x z i k ++ rX T z (x + (k : Int)) (side T i) ++ rZ T x (z + (k : Int)) (side T i) := by
  unfold preK
  rw [List.range_succ, List.flatMap_append]
  simp [kS]
theorem preK_zero (T : TriR) (x z : Int) (i : Nat) : preK T x z i 0 = preS T x z i ++ rV T x z (side T i) := by simp [preK]
theorem preK_two (T : TriR) (x z : Int) (i : Nat) : preK T x z i 2 = preS T x z (i + 1) := by
  unfold preK preS
  rw [List.range_succ (n := i), List.flatMap_append]
  simp [sS]
theorem preS_zero (T : TriR) (x z : Int) : preS T x z 0 = preA T x z 4 := by simp [preS]

theorem corn_iff {x z : Int} {p : Int × Int} : p ∈ cornL x z ↔ (p.1 = x ∨ p.1 = x + 1) ∧ (p.2 = z ∨ p.2 = z + 1) := by
  obtain ⟨a, b⟩ := p
  unfold cornL
  simp only [List.mem_cons, Prod.mk.injEq, List.not_mem_nil, or_false]
  omega

theorem rA_com {T : TriR} (hk : okT T = true) {x z : Int} (hx : -1 ≤ x ∧ x ≤ 32) (hz : -1 ≤ z ∧ z ≤ 32) {px pz : Int} (hpx : px = x ∨ px = x + 1) (hpz : pz = z ∨ pz = z + 1) {c : Co} (h : c ∈ rA T px pz) : c ∈ comL T x z := by
  unfold rA at h
  split at h
  · rename_i hi
    rw [List.mem_singleton] at h
    rw [rc_ab hk (by omega) (by omega)] at h
    refine mem_comL.2 ⟨?_, .inl ⟨(px, pz), corn_iff.2 ⟨hpx, hpz⟩, hi, h⟩⟩
    subst h
    have hd := (abC_bd hk (px := px) (pz := pz) (by omega) (by omega)).1
    rw [holdsB_iff]
    show (x * hdT T px pz ≤ px * hdT T px pz ∧ px * hdT T px pz ≤ (x + 1) * hdT T px pz) ∧ (z * hdT T px pz ≤ pz * hdT T px pz ∧ pz * hdT T px pz ≤ (z + 1) * hdT T px pz)
    exact ⟨⟨Int.mul_le_mul_of_nonneg_right (by omega) (by omega), Int.mul_le_mul_of_nonneg_right (by omega) (by omega)⟩, ⟨Int.mul_le_mul_of_nonneg_right (by omega) (by omega), Int.mul_le_mul_of_nonneg_right (by omega) (by omega)⟩⟩
  · cases h

theorem ins_vert (T : TriR) (i : Nat) : insB T (side T i).ax (side T i).az = true := by
  have h0 : s0 T T.x0 T.z0 = 0 := by unfold s0 crI; grind
  have h1 : s2 T T.x0 T.z0 = 0 := by unfold s2 crI; grind
  have h2 : s0 T T.x1 T.z1 = 0 := by unfold s0 crI; grind
  have h3 : s1 T T.x1 T.z1 = 0 := by unfold s1 crI; grind
  have h4 : s1 T T.x2 T.z2 = 0 := by unfold s1 crI; grind
  have h5 : s2 T T.x2 T.z2 = 0 := by unfold s2 crI; grind
  rw [insB_iff]
  match i with
  | 0 => simp only [side]; omega
  | 1 => simp only [side]; omega
  | i + 2 => simp only [side]; omega

theorem rV_com {T : TriR} (hk : okT T = true) {x z : Int} (hx : -1 ≤ x ∧ x ≤ 32) (hz : -1 ≤ z ∧ z ≤ 32) (i : Nat) {c : Co} (h : c ∈ rV T x z (side T i)) : c ∈ comL T x z := by
  unfold rV at h
  split at h
  · rename_i hi
    unfold inR at hi
    simp only [Bool.and_eq_true, decide_eq_true_eq, Int.mul_one] at hi
    refine rA_com hk hx hz (px := (side T i).ax) (pz := (side T i).az) (by omega) (by omega) ?_
    unfold rA
    rw [if_pos (ins_vert T i)]
    exact h
  · cases h

theorem cr_x {T : TriR} {n : Int} (i : Nat) (hs : ((side T i).p ⟨1, 0, n⟩).sign ≠ ((side T i).q ⟨1, 0, n⟩).sign) : (crC (side T i) ⟨1, 0, n⟩).x = n * (crC (side T i) ⟨1, 0, n⟩).d := by
  have ep : (side T i).p ⟨1, 0, n⟩ = (side T i).ax - n := by show 1 * _ + 0 * _ - n = _; omega
  have eq : (side T i).q ⟨1, 0, n⟩ = (side T i).bx - n := by show 1 * _ + 0 * _ - n = _; omega
  obtain ⟨hp, hx, -, -⟩ := crC_at hs
  have hne := (sg_ne hs).1
  rw [ep, eq] at hx hne
  apply Int.eq_of_mul_eq_mul_right hne
  generalize crC (side T i) ⟨1, 0, n⟩ = k at *
  generalize side T i = s at *
  rw [hx]
  clear hx hne hp ep eq hs
  grind
theorem cr_z {T : TriR} {n : Int} (i : Nat) (hs : ((side T i).p ⟨0, 1, n⟩).sign ≠ ((side T i).q ⟨0, 1, n⟩).sign) : (crC (side T i) ⟨0, 1, n⟩).z = n * (crC (side T i) ⟨0, 1, n⟩).d := by
  have ep : (side T i).p ⟨0, 1, n⟩ = (side T i).az - n := by show 0 * _ + 1 * _ - n = _; omega
  have eq : (side T i).q ⟨0, 1, n⟩ = (side T i).bz - n := by show 0 * _ + 1 * _ - n = _; omega
  obtain ⟨hp, -, hz, -⟩ := crC_at hs
  have hne := (sg_ne hs).1
  rw [ep, eq] at hz hne
  apply Int.eq_of_mul_eq_mul_right hne
  generalize crC (side T i) ⟨0, 1, n⟩ = k at *
  generalize side T i = s at *
  rw [hz]
  clear hz hne hp ep eq hs
  grind

theorem rX_com {T : TriR} (hk : okT T = true) {x z n : Int} (hn : n = x ∨ n = x + 1) {i : Nat} (hi : i < 3) {c : Co} (h : c ∈ rX T z n (side T i)) : c ∈ comL T x z := by
  obtain ⟨hs, rfl, h1, h2⟩ := (mem_rX hk i).1 h
  have e := cr_x i hs
  have hp := (crC_at hs).1.1
  refine mem_comL.2 ⟨holdsB_iff.2 ⟨?_, h1, h2⟩, .inr ⟨i, hi, ⟨1, 0, n⟩, ?_, hs, rfl⟩⟩
  · rw [e]
    exact ⟨Int.mul_le_mul_of_nonneg_right (by omega) (by omega), Int.mul_le_mul_of_nonneg_right (by omega) (by omega)⟩
  · rcases hn with rfl | rfl <;> simp [lineL]
theorem rZ_com {T : TriR} (hk : okT T = true) {x z n : Int} (hn : n = z ∨ n = z + 1) {i : Nat} (hi : i < 3) {c : Co} (h : c ∈ rZ T x n (side T i)) : c ∈ comL T x z := by
  obtain ⟨hs, rfl, h1, h2⟩ := (mem_rZ hk i).1 h
  have e := cr_z i hs
  have hp := (crC_at hs).1.1
  refine mem_comL.2 ⟨holdsB_iff.2 ⟨⟨h1, h2⟩, ?_⟩, .inr ⟨i, hi, ⟨0, 1, n⟩, ?_, hs, rfl⟩⟩
  · rw [e]
    exact ⟨Int.mul_le_mul_of_nonneg_right (by omega) (by omega), Int.mul_le_mul_of_nonneg_right (by omega) (by omega)⟩
  · rcases hn with rfl | rfl <;> simp [lineL]

/-- Everything in common is one of the pieces. -/
theorem com_pre {T : TriR} (hk : okT T = true) {x z : Int} (hx : -1 ≤ x ∧ x ≤ 32) (hz : -1 ≤ z ∧ z ≤ 32) {c : Co} (h : c ∈ comL T x z) : c ∈ preS T x z 3 := by
  obtain ⟨hh, h⟩ := mem_comL.1 h
  obtain ⟨⟨a1, a2⟩, b1, b2⟩ := holdsB_iff.1 hh
  unfold preS
  rw [List.mem_append]
  rcases h with ⟨⟨px, pz⟩, hp, hi, rfl⟩ | ⟨i, hi, l, hl, hs, rfl⟩
  · left
    obtain ⟨h1, h2⟩ := corn_iff.1 hp
    unfold preA
    rw [List.mem_flatMap]
    obtain ⟨dx, hdx, ex⟩ : ∃ dx : Nat, dx ≤ 1 ∧ px = x + (dx : Int) := by
      rcases h1 with h1 | h1
      · exact ⟨0, by omega, by simpa using h1⟩
      · exact ⟨1, by omega, by simpa using h1⟩
    obtain ⟨dz, hdz, ez⟩ : ∃ dz : Nat, dz ≤ 1 ∧ pz = z + (dz : Int) := by
      rcases h2 with h2 | h2
      · exact ⟨0, by omega, by simpa using h2⟩
      · exact ⟨1, by omega, by simpa using h2⟩
    refine ⟨2 * dz + dx, List.mem_range.2 (by omega), ?_⟩
    rw [pA_eq T x z hdx, ← ex, ← ez]
    unfold rA
    rw [if_pos hi, List.mem_singleton, rc_ab hk (by omega) (by omega)]
  · right
    rw [List.mem_flatMap]
    refine ⟨i, List.mem_range.2 hi, ?_⟩
    unfold sS
    rw [List.mem_append]
    right
    rw [List.mem_flatMap]
    unfold lineL at hl
    simp only [List.mem_cons, List.not_mem_nil, or_false] at hl
    rcases hl with rfl | rfl | rfl | rfl
    · refine ⟨0, by simp, ?_⟩
      unfold kS
      rw [List.mem_append]
      left
      simp only [Int.natCast_zero, Int.add_zero]
      exact (mem_rX hk i).2 ⟨hs, rfl, b1, b2⟩
    · refine ⟨1, by simp, ?_⟩
      unfold kS
      rw [List.mem_append]
      left
      exact (mem_rX hk i).2 ⟨hs, rfl, b1, b2⟩
    · refine ⟨0, by simp, ?_⟩
      unfold kS
      rw [List.mem_append]
      right
      simp only [Int.natCast_zero, Int.add_zero]
      exact (mem_rZ hk i).2 ⟨hs, rfl, a1, a2⟩
    · refine ⟨1, by simp, ?_⟩
      unfold kS
      rw [List.mem_append]
      right
      exact (mem_rZ hk i).2 ⟨hs, rfl, a1, a2⟩

theorem len_flat {f : Nat → List Co} {b : Nat} (h : ∀ i, (f i).length ≤ b) : ∀ n, ((List.range n).flatMap f).length ≤ n * b
  | 0 => by simp
  | n + 1 => by
    rw [List.range_succ, List.flatMap_append, List.length_append, Nat.succ_mul, List.flatMap_cons, List.flatMap_nil, List.append_nil]
    have := len_flat h n
    have := h n
    omega
theorem rA_len (T : TriR) (px pz : Int) : (rA T px pz).length ≤ 1 := by unfold rA; split <;> simp
theorem rV_len (T : TriR) (x z : Int) (s : Sd) : (rV T x z s).length ≤ 1 := by unfold rV; split <;> simp
theorem rX_len (T : TriR) (z n : Int) (s : Sd) : (rX T z n s).length ≤ 1 := by
  unfold rX
  split
  · split <;> simp
  · simp
theorem rZ_len (T : TriR) (x n : Int) (s : Sd) : (rZ T x n s).length ≤ 1 := by
  unfold rZ
  split
  · split <;> simp
  · simp

end Go.Proofs.Yteoongcajfcgcaa

/- The document's own corners over a column: the list that grows by put. -/
namespace Go.Proofs.Yteoongcajfcgcaa
open Go.RowKit
set_option linter.unusedVariables false

/-- The list that holds what was put. -/
def RS (T : TriR) (x z : Int) (b : Nat) (w : World) (v : Value) (ps : List Co) : Prop :=
  ∃ l, Sl Co.enc 4 w v l ∧ l.Pairwise ltC ∧ (∀ c, c ∈ l ↔ c ∈ ps) ∧ l.length ≤ b ∧ ∀ c ∈ ps, c ∈ comL T x z
theorem RS.keep {T : TriR} {x z : Int} {b : Nat} {w w' : World} {v : Value} {ps : List Co} (h : RS T x z b w v ps) (n : New w w') : RS T x z b w' v ps := by
  obtain ⟨l, h1, h2⟩ := h
  exact ⟨l, h1.keep n, h2⟩
theorem RS.more {T : TriR} {x z : Int} {b b' : Nat} {w : World} {v : Value} {ps : List Co} (h : RS T x z b w v ps) (hb : b ≤ b') : RS T x z b' w v ps := by
  obtain ⟨l, h1, h2, h3, h4, h5⟩ := h
  exact ⟨l, h1, h2, h3, by omega, h5⟩

theorem r_putS (T : TriR) (hk : okT T = true) (x z : Int) (hx : -1 ≤ x ∧ x ≤ 32) (hz : -1 ≤ z ∧ z ≤ 32) (b : Nat) (hb : b ≤ 60) (w : World) (v : Value) (ps : List Co) (h : RS T x z b w v ps) (c : Co) (hc : c ∈ comL T x z) :
    Calls Try.prog 31 #[v, .agg #[.int .i64 c.x, .int .i64 c.z, .int .i64 c.y, .int .i64 c.d]] w fun e w' => ∃ v', e = .returned v' ∧ RS T x z (b + 1) w' v' (ps ++ [c]) ∧ New w w' := by
  obtain ⟨l, h1, h2, h3, h4, h5⟩ := h
  have hl : ∀ a ∈ l, a ∈ comL T x z := fun a ha => h5 a ((h3 a).1 ha)
  refine (r_put v l c w h1 (by omega) (com_okc hk hx hz hc) (fun a ha => com_okc hk hx hz (hl a ha))).mono ?_
  rintro e w' ⟨v', he, hs, hn⟩
  obtain ⟨p1, p2⟩ := put_rise (com_prim hk hx hz hc).1.1 l (fun a ha => (com_prim hk hx hz (hl a ha)).1.1) (fun a ha e1 e2 => com_one hk (com_prim hk hx hz (hl a ha)) (com_prim hk hx hz hc) e1 e2) h2
  have hlen := putGo_len c l false
  refine ⟨v', he, ⟨_, hs, p1, fun a => ?_, by omega, fun a ha => ?_⟩, hn⟩
  · rw [p2 a, List.mem_append, List.mem_singleton, h3 a]
    exact Or.comm
  · rcases List.mem_append.1 ha with ha | ha
    · exact h5 a ha
    · rw [List.mem_singleton] at ha; rw [ha]; exact hc

/-- At the end the list is the corners. -/
theorem RS.cor {T : TriR} (hk : okT T = true) {x z : Int} (hx : -1 ≤ x ∧ x ≤ 32) (hz : -1 ≤ z ∧ z ≤ 32) {b : Nat} {w : World} {v : Value} (h : RS T x z b w v (preS T x z 3)) : ∃ R, Sl Co.enc 4 w v R ∧ IsCor T x z R ∧ R.length ≤ b := by
  obtain ⟨l, h1, h2, h3, h4, h5⟩ := h
  exact ⟨l, h1, ⟨h2, fun c => by rw [h3 c]; exact ⟨h5 c, com_pre hk hx hz⟩⟩, h4⟩

end Go.Proofs.Yteoongcajfcgcaa
