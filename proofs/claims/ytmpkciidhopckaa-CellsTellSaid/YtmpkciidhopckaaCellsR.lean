/- Package cells: Cells, whatever comes in; the law's first look at the chapter's examples. -/
import Derived.Test.YtmpkciidhopckaaCellsN
import Derived.Test.YtmpkciidhopckaaCellsQ
namespace Go.Proofs.Ytmpkciidhopckaa
open Go.RowKit Go.Shelf Go.Sort
set_option linter.unusedVariables false

def okB (ax az bx bz : Int) : Bool := ptB ax az && ptB bx bz
/-- What Cells answers: the columns in their order, and no error; or none, and ErrArg. -/
def told (ax az bx bz : Int) : List Col := if okB ax az bx bz = true then cellsL ax.toNat az.toNat bx.toNat bz.toNat else []
def errOf (ax az bx bz : Int) : Int := if okB ax az bx bz = true then 0 else 2

theorem c_cells (ax az bx bz : Int) (w : World) :
    Calls Try.prog 10 #[.agg #[.int .i64 ax, .int .i64 az], .agg #[.int .i64 bx, .int .i64 bz]] w fun e w' =>
      ∃ v, e = .returned (.tuple #[v, .int .i64 (errOf ax az bx bz)]) ∧ RowIs w' v (told ax az bx bz) ∧ New w w' := by
  refine (callsIn_wide (n := 5)).1 ?_
  unfold told errOf
  cases h : okB ax az bx bz with
  | false =>
    rw [if_neg (by simp), if_neg (by simp)]
    refine (c_cells_no ax az bx bz h w).mono ?_
    rintro e w' ⟨rfl, n⟩
    exact ⟨_, rfl, Or.inl ⟨rfl, rfl⟩, n⟩
  | true =>
    rw [if_pos rfl, if_pos rfl]
    unfold okB at h
    rw [Bool.and_eq_true] at h
    obtain ⟨pa1, pa2⟩ := ptB_iff.1 h.1
    obtain ⟨pb1, pb2⟩ := ptB_iff.1 h.2
    obtain ⟨ax, rfl⟩ : ∃ u : Nat, ax = u := ⟨ax.toNat, by omega⟩
    obtain ⟨az, rfl⟩ : ∃ u : Nat, az = u := ⟨az.toNat, by omega⟩
    obtain ⟨bx, rfl⟩ : ∃ u : Nat, bx = u := ⟨bx.toNat, by omega⟩
    obtain ⟨bz, rfl⟩ : ∃ u : Nat, bz = u := ⟨bz.toNat, by omega⟩
    refine (c_cells_yes ax az bx bz (by omega) (by omega) w).mono ?_
    rintro e w' ⟨v, L, rfl, r, p, o, n⟩
    rw [cells_is p o] at r
    exact ⟨v, rfl, r, n⟩

/-- The elements of a row. -/
theorem RowIs.at {w : World} {v : Value} {L : List Col} (h : RowIs w v L) (h0 : 0 < L.length) : ∃ g cap, v = .slice (some ⟨g, 0, none⟩) L.length cap ∧ L.length ≤ cap ∧ ∀ i (hi : i < L.length), w.cell? ⟨g, i * 6, none⟩ = some (.int .i64 L[i].x) ∧ w.cell? ⟨g, i * 6 + 1, none⟩ = some (.int .i64 L[i].z) ∧ w.cell? ⟨g, i * 6 + 2, none⟩ = some (.int .i64 L[i].m.fn) ∧
    w.cell? ⟨g, i * 6 + 3, none⟩ = some (.int .i64 L[i].m.fd) ∧ w.cell? ⟨g, i * 6 + 4, none⟩ = some (.int .i64 L[i].m.ln) ∧ w.cell? ⟨g, i * 6 + 5, none⟩ = some (.int .i64 L[i].m.ld) := by
  rcases h with ⟨_, rfl⟩ | ⟨g, cap, rfl, hcap, hH⟩
  · simp at h0
  · refine ⟨g, cap, rfl, hcap, fun i hi => ?_⟩
    have := col_at hH (i := i) (by simpa using hi)
    rw [getElem!_pos L.toArray i (by simpa using hi)] at this
    simpa using this

theorem RowIs.len {w : World} {v : Value} {L : List Col} (h : RowIs w v L) : ∃ at0 cap, v = .slice at0 L.length cap := by
  rcases h with ⟨rfl, rfl⟩ | ⟨g, cap, rfl, _⟩
  · exact ⟨none, 0, rfl⟩
  · exact ⟨_, cap, rfl⟩

/-- What the law of the order leans on. -/
def Facts (ax az bx bz : Int) (L : List Col) : Prop := 0 < L.length ∧ L.length ≤ 1156 ∧
    (∀ i (hi : i < L.length), lessB L[i].m.ln L[i].m.ld L[i].m.fn L[i].m.fd = false ∧ lessB L[i].m.fn L[i].m.fd 0 1 = false ∧ lessB 1 1 L[i].m.ln L[i].m.ld = false ∧
      (meetO ax az bx bz L[i].x L[i].z).isSome = true) ∧
    (∀ i j (hi : i < L.length) (hj : j < i), Apart L[j] L[i] ∧ lessB L[i].m.fn L[i].m.fd L[j].m.fn L[j].m.fd = false)
theorem told_facts {ax az bx bz : Int} (h : okB ax az bx bz = true) : Facts ax az bx bz (told ax az bx bz) := by
  have hL : told ax az bx bz = cellsL ax.toNat az.toNat bx.toNat bz.toNat := by unfold told; rw [if_pos h]
  unfold okB at h
  rw [Bool.and_eq_true] at h
  obtain ⟨pa1, pa2⟩ := ptB_iff.1 h.1
  obtain ⟨pb1, pb2⟩ := ptB_iff.1 h.2
  obtain ⟨ax, rfl⟩ : ∃ u : Nat, ax = u := ⟨ax.toNat, by omega⟩
  obtain ⟨az, rfl⟩ : ∃ u : Nat, az = u := ⟨az.toNat, by omega⟩
  obtain ⟨bx, rfl⟩ : ∃ u : Nat, bx = u := ⟨bx.toNat, by omega⟩
  obtain ⟨bz, rfl⟩ : ∃ u : Nat, bz = u := ⟨bz.toNat, by omega⟩
  simp only [Int.toNat_natCast] at hL
  rw [hL]
  unfold Facts
  have hap := cellsL_apart ax az bx bz
  have hor := cellsL_order ax az bx bz
  unfold InOrder at hor
  rw [List.pairwise_iff_getElem] at hap hor
  have lb : ∀ a b c d : Nat, ¬ (a * d < c * b) → lessB a b c d = false := fun a b c d h => by
    unfold lessB ltR
    have : ¬ ((a : Int) * d < (c : Int) * b) := by rw [← Int.natCast_mul, ← Int.natCast_mul]; omega
    simp only [decide_eq_false this, Bool.and_false]
  refine ⟨metL_pos (by omega) (by omega), by rw [(cellsL_perm _ _ _ _).length_eq]; exact metL_len (by omega) (by omega), fun i hi => ?_, fun i j hi hj => ⟨hap j i (by omega) hi hj, ?_⟩⟩
  · have hm := cellsL_mem (List.getElem_mem hi)
    have hm' := (colO_iff.1 hm).2.2
    have hmo := meetO_more hm'
    generalize (cellsL ax az bx bz)[i] = c at *
    refine ⟨lb _ _ _ _ (by omega), lb _ _ 0 1 (by omega), lb 1 1 _ _ (by omega), by rw [hm']; rfl⟩
  · have := hor j i (by omega) hi hj
    rw [colLt_not] at this
    refine lb _ _ _ _ (by omega)

theorem told_1133 : (told 1 1 3 3).map (fun c => (c.x, c.z, c.m)) = [(0, 0, ⟨0, 1, 1, 2⟩), (1, 0, ⟨1, 2, 1, 2⟩), (0, 1, ⟨1, 2, 1, 2⟩), (1, 1, ⟨1, 2, 1, 1⟩)] := by
  have h : told 1 1 3 3 = metL 1 1 3 3 := by
    show cellsL 1 1 3 3 = _
    refine (cells_is (List.Perm.refl _) ?_).symm
    unfold InOrder
    decide +kernel
  rw [h]
  exact met_1133
theorem told_2222 : (told 2 2 2 2).length = 4 := by
  show (cellsL 2 2 2 2).length = 4
  rw [(cellsL_perm 2 2 2 2).length_eq]
  have := congrArg List.length met_2222
  simpa using this

end Go.Proofs.Ytmpkciidhopckaa
