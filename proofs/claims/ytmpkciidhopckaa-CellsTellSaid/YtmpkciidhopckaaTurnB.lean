/- Package cells: each column but the first shares a point with one ahead; what the law of the turned segment leans on. No walk. -/
import Derived.Test.YtmpkciidhopckaaTurnA
namespace Go.Proofs.Ytmpkciidhopckaa
open Go.RowKit Go.Sort
set_option linter.unusedVariables false

/-- Share, as the code tells it. -/
def shareB (ax az bx bz x z x' z' : Int) : Bool := match meetO ax az bx bz x z, meetO ax az bx bz x' z' with
  | some p, some q => !lessB p.ln p.ld q.fn q.fd && !lessB q.ln q.ld p.fn p.fd
  | _, _ => false

theorem share_of {ax az bx bz x z x' z' : Int} {p q : Met} (hp : meetO ax az bx bz x z = some p) (hq : meetO ax az bx bz x' z' = some q) (h1 : q.fn * p.ld ≤ p.ln * q.fd) (h2 : p.fn * q.ld ≤ q.ln * p.fd) : shareB ax az bx bz x z x' z' = true := by
  have g1 := meetO_good hp
  have g2 := meetO_good hq
  unfold Good at g1 g2
  unfold shareB
  rw [hp, hq]
  simp only []
  rw [lessN (by omega) (by omega) (by omega) (by omega), lessN (by omega) (by omega) (by omega) (by omega)]
  simp only [Bool.and_eq_true, Bool.not_eq_true', decide_eq_false_iff_not]
  omega

/-- A column that is not met from the way's start on shares its first point with one that is met ahead of it. -/
theorem one_ahead {ax az bx bz : Nat} (ha : ax ≤ 64 ∧ az ≤ 64) (hb : bx ≤ 64 ∧ bz ≤ 64) {c : Col} (hc : c ∈ cellsL ax az bx bz) (hf : 0 < c.m.fn) :
    ∃ e ∈ cellsL ax az bx bz, e.m.fn * c.m.fd < c.m.fn * e.m.fd ∧ shareB ax az bx bz c.x c.z e.x e.z = true := by
  have hm := (colO_iff.1 (cellsL_mem hc)).2.2
  obtain ⟨h1, h2, h3, h4, h5, h6, h7⟩ := met_le hm
  obtain ⟨x, x0, x1, ix, ix'⟩ := ax_back (p := ax) (q := bx) ha.1 hb.1 hf h1
  obtain ⟨z, z0, z1, iz, iz'⟩ := ax_back (p := az) (q := bz) ha.2 hb.2 hf h1
  have hv : validB ax az bx bz x z = true := by
    unfold validB
    rw [ptB_iff.2 (by omega), ptB_iff.2 (by omega), witB_iff.2 (by omega), witB_iff.2 (by omega)]
    rfl
  obtain ⟨e, he, a1, a2⟩ := (meet_spec hv h2 h1).1 ⟨ix, iz⟩
  obtain ⟨e', he', b1, b2⟩ := (meet_spec hv (show 0 < 64 * c.m.fd by omega) (show 64 * c.m.fn - 1 ≤ 64 * c.m.fd by omega)).1 ⟨ix', iz'⟩
  rw [he] at he'
  injection he' with he'
  subst he'
  obtain ⟨k1, k2, k3, k4, k5, k6, k7⟩ := met_le he
  have hlt : e.fn * c.m.fd < c.m.fn * e.fd := by
    have q1 : e.fn * (64 * c.m.fd) = 64 * (e.fn * c.m.fd) := Nat.mul_left_comm _ _ _
    have q2 : (64 * c.m.fn - 1) * e.fd = 64 * (c.m.fn * e.fd) - e.fd := by
      rw [Nat.sub_mul, Nat.one_mul, Nat.mul_assoc]
    have q3 : e.fd ≤ 64 * (c.m.fn * e.fd) := by
      have := Nat.mul_le_mul_right e.fd hf
      omega
    omega
  refine ⟨_, met_mem (colO_some he), hlt, ?_⟩
  refine share_of hm he ?_ a2
  exact cross_trans k2 h2 h3 (Nat.le_of_lt hlt) h4

theorem two_first {ax az bx bz : Nat} {c d : Col} (hc : c ∈ cellsL ax az bx bz) (hd : d ∈ cellsL ax az bx bz) (h1 : c.m.fn = 0) (h2 : d.m.fn = 0) : shareB ax az bx bz c.x c.z d.x d.z = true :=
  share_of (colO_iff.1 (cellsL_mem hc)).2.2 (colO_iff.1 (cellsL_mem hd)).2.2 (by rw [h2, Nat.zero_mul]; exact Nat.zero_le _) (by rw [h1, Nat.zero_mul]; exact Nat.zero_le _)

theorem any_take {α : Type} {f : α → Bool} {l : List α} {i j : Nat} (hj : j < i) (hl : j < l.length) (h : f l[j] = true) : (l.take i).any f = true := by
  rw [List.any_eq_true]
  refine ⟨l[j], ?_, h⟩
  rw [List.mem_take_iff_getElem]
  exact ⟨j, by omega, rfl⟩

theorem any_take_succ {α : Type} (f : α → Bool) (l : List α) (i : Nat) (hi : i < l.length) : (l.take (i + 1)).any f = ((l.take i).any f || f l[i]) := by
  rw [List.take_succ_eq_append_getElem hi, List.any_append]
  simp

theorem shares_ahead {ax az bx bz : Nat} (ha : ax ≤ 64 ∧ az ≤ 64) (hb : bx ≤ 64 ∧ bz ≤ 64) {i : Nat} (hi : i < (cellsL ax az bx bz).length) (h0 : 0 < i) :
    ((cellsL ax az bx bz).take i).any (fun d => shareB ax az bx bz (cellsL ax az bx bz)[i].x (cellsL ax az bx bz)[i].z d.x d.z) = true := by
  have hor := cellsL_order ax az bx bz
  unfold InOrder at hor
  rw [List.pairwise_iff_getElem] at hor
  have hmem : ∀ j (hj : j < (cellsL ax az bx bz).length), (cellsL ax az bx bz)[j] ∈ cellsL ax az bx bz := fun j hj => List.getElem_mem hj
  have hahead := fun hf => one_ahead ha hb (hmem i hi) hf
  have hl0 : 0 < (cellsL ax az bx bz).length := by omega
  have htwo := two_first (hmem i hi) (hmem 0 hl0)
  by_cases hf : 0 < (cellsL ax az bx bz)[i].m.fn
  · obtain ⟨e, he, hlt, hs⟩ := hahead hf
    obtain ⟨j, hj, rfl⟩ := List.getElem_of_mem he
    refine any_take (j := j) ?_ hj hs
    rcases Nat.lt_trichotomy j i with h | h | h
    · exact h
    · subst h; omega
    · have := hor i j hi hj h
      rw [colLt_not] at this
      omega
  · have o := hor 0 i (by omega) hi h0
    rw [colLt_not] at o
    have e0 : (cellsL ax az bx bz)[i].m.fn = 0 := by omega
    have fd := (cellsL ax az bx bz)[i].ok
    unfold Good at fd
    rw [e0] at o
    have e1 : (cellsL ax az bx bz)[0].m.fn = 0 := by
      rcases Nat.eq_zero_or_pos (cellsL ax az bx bz)[0].m.fn with h | h
      · exact h
      · have := Nat.mul_pos h fd.2.2.1
        omega
    exact any_take (j := 0) h0 (by omega) (htwo e0 e1)

theorem keys_there {ax az bx bz : Nat} {c : Col} (hc : c ∈ cellsL ax az bx bz) : (cellsL bx bz ax az).any (fun d => c.x == d.x && c.z == d.z) = true := by
  have h1 : Col.key c ∈ (cellsL ax az bx bz).map Col.key := List.mem_map_of_mem hc
  rw [(cells_key ax az bx bz).mem_iff] at h1
  obtain ⟨d, hd, hk⟩ := List.mem_map.1 h1
  rw [List.any_eq_true]
  refine ⟨d, hd, ?_⟩
  unfold Col.key at hk
  injection hk with k1 k2
  simp [k1, k2]

/-- What the law leans on. -/
def TFacts (ax az bx bz : Int) (L M : List Col) : Prop := 0 < L.length ∧ L.length ≤ 1156 ∧ M.length = L.length ∧
  (∀ i (hi : i < L.length), M.any (fun d => L[i].x == d.x && L[i].z == d.z) = true) ∧
  (∀ i (hi : i < L.length), 0 < i → (L.take i).any (fun d => shareB ax az bx bz L[i].x L[i].z d.x d.z) = true) ∧
  L.any (fun c => holdsB c.x c.z ax az) = true ∧ L.any (fun c => holdsB c.x c.z bx bz) = true

theorem okB_comm (ax az bx bz : Int) : okB ax az bx bz = okB bx bz ax az := by unfold okB; exact Bool.and_comm _ _

theorem told_turned {ax az bx bz : Int} (h : okB ax az bx bz = true) : TFacts ax az bx bz (told ax az bx bz) (told bx bz ax az) := by
  obtain ⟨f1, f2, _, _⟩ := told_facts h
  have hol := fun k n (hn : 1 ≤ n) (hn2 : n ≤ 100) (hk0 : 0 ≤ k) (hk : k ≤ n) px pz hx hz => (told_holds h (k := k) (n := n) hn hn2 hk0 hk (px := px) (pz := pz) hx hz).2
  have h1 := hol 0 1 (by omega) (by omega) (by omega) (by omega) ax az (by omega) (by omega)
  have h2 := hol 1 1 (by omega) (by omega) (by omega) (by omega) bx bz (by omega) (by omega)
  have hL : told ax az bx bz = cellsL ax.toNat az.toNat bx.toNat bz.toNat := by unfold told; rw [if_pos h]
  have hM : told bx bz ax az = cellsL bx.toNat bz.toNat ax.toNat az.toNat := by unfold told; rw [← okB_comm, if_pos h]
  unfold okB at h
  rw [Bool.and_eq_true] at h
  obtain ⟨pa1, pa2⟩ := ptB_iff.1 h.1
  obtain ⟨pb1, pb2⟩ := ptB_iff.1 h.2
  obtain ⟨ax, rfl⟩ : ∃ u : Nat, ax = u := ⟨ax.toNat, by omega⟩
  obtain ⟨az, rfl⟩ : ∃ u : Nat, az = u := ⟨az.toNat, by omega⟩
  obtain ⟨bx, rfl⟩ : ∃ u : Nat, bx = u := ⟨bx.toNat, by omega⟩
  obtain ⟨bz, rfl⟩ : ∃ u : Nat, bz = u := ⟨bz.toNat, by omega⟩
  simp only [Int.toNat_natCast] at hL hM
  rw [hL] at f1 f2 h1 h2
  rw [hL, hM]
  refine ⟨f1, f2, ?_, fun i hi => keys_there (List.getElem_mem hi), fun i hi h0 => shares_ahead (by omega) (by omega) hi h0, h1, h2⟩
  have := (cells_key ax az bx bz).length_eq
  rw [List.length_map, List.length_map] at this
  exact this.symm

end Go.Proofs.Ytmpkciidhopckaa
