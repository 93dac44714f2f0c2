/- Package cells: which columns are told, in which order: there is one such row. No walk. -/
import Derived.Test.YtmpkciidhopckaaCellsM
namespace Go.Proofs.Ytmpkciidhopckaa
open Go.RowKit Go.Sort
set_option linter.unusedVariables false

theorem mem_row {ax az bx bz x0 z : Int} {k : Nat} {c : Col} : c ∈ rowL ax az bx bz x0 z k ↔ ∃ i : Nat, i < k ∧ colO ax az bx bz (x0 + i) z = some c := by
  unfold rowL
  simp [List.mem_filterMap]
theorem mem_grid {ax az bx bz x0 z0 : Int} {kx k : Nat} {c : Col} : c ∈ gridL ax az bx bz x0 z0 kx k ↔ ∃ j : Nat, j < k ∧ ∃ i : Nat, i < kx ∧ colO ax az bx bz (x0 + i) (z0 + j) = some c := by
  unfold gridL
  simp [List.mem_flatMap, mem_row]
theorem mem_met {ax az bx bz : Nat} {c : Col} (h : c ∈ metL ax az bx bz) : colO ax az bx bz c.x c.z = some c := by
  unfold metL at h
  obtain ⟨j, _, i, _, hc⟩ := mem_grid.1 h
  have := colO_iff.1 hc
  rw [this.1, this.2.1]
  exact hc

/-- No column is told twice. -/
def Apart (c d : Col) : Prop := ¬ (c.x = d.x ∧ c.z = d.z)
theorem row_apart (ax az bx bz x0 z : Int) (k : Nat) : (rowL ax az bx bz x0 z k).Pairwise Apart := by
  unfold rowL
  rw [List.pairwise_filterMap]
  refine List.pairwise_lt_range.imp fun {i j} hij c hc d hd => ?_
  have h1 := colO_iff.1 hc
  have h2 := colO_iff.1 hd
  rintro ⟨e, _⟩
  rw [h1.1, h2.1] at e
  omega
theorem grid_apart (ax az bx bz x0 z0 : Int) (kx k : Nat) : (gridL ax az bx bz x0 z0 kx k).Pairwise Apart := by
  unfold gridL
  rw [List.pairwise_flatMap]
  refine ⟨fun j _ => row_apart _ _ _ _ _ _ _, List.pairwise_lt_range.imp fun {i j} hij c hc d hd => ?_⟩
  obtain ⟨_, _, hc⟩ := mem_row.1 hc
  obtain ⟨_, _, hd⟩ := mem_row.1 hd
  have h1 := colO_iff.1 hc
  have h2 := colO_iff.1 hd
  rintro ⟨_, e⟩
  rw [h1.2.1, h2.2.1] at e
  omega
theorem met_apart (ax az bx bz : Nat) : (metL ax az bx bz).Pairwise Apart := grid_apart _ _ _ _ _ _ _ _

theorem order_unique {ax az bx bz : Nat} {L M : List Col} (h1 : L.Perm (metL ax az bx bz)) (h2 : M.Perm (metL ax az bx bz)) (o1 : InOrder L) (o2 : InOrder M) : L = M := by
  refine List.Perm.eq_of_pairwise (le := fun c d => colLt d c = false) (fun c d hc hd h k => ?_) o1 o2 (h1.trans h2.symm)
  have mc := mem_met (h1.mem_iff.1 hc)
  have md := mem_met (h2.mem_iff.1 hd)
  rw [colLt_not] at h k
  have hx : c.x = d.x ∧ c.z = d.z := by omega
  rw [hx.1, hx.2] at mc
  rw [mc] at md
  injection md

/-- The columns in their order. -/
def cellsL (ax az bx bz : Nat) : List Col := (metL ax az bx bz).mergeSort (fun c d => !colLt d c)
theorem cellsL_perm (ax az bx bz : Nat) : (cellsL ax az bx bz).Perm (metL ax az bx bz) := List.mergeSort_perm _ _
theorem cellsL_order (ax az bx bz : Nat) : InOrder (cellsL ax az bx bz) := by
  have h := List.pairwise_mergeSort (le := fun c d => !colLt d c) (fun a b c h1 h2 => by
    have h1' : colLt b a = false := by simpa using h1
    have h2' : colLt c b = false := by simpa using h2
    have := colLt_swo.ntrans c b a h2' h1'
    simpa using this) (fun a b => by
    cases h : colLt b a with
    | false => simp
    | true => have := SWO.asymmA colLt_swo h; simp [this]) (metL ax az bx bz)
  exact h.imp fun {a b} h => by simpa using h
theorem cells_is {ax az bx bz : Nat} {L : List Col} (h : L.Perm (metL ax az bx bz)) (o : InOrder L) : L = cellsL ax az bx bz := order_unique h (cellsL_perm _ _ _ _) o (cellsL_order _ _ _ _)

theorem cellsL_mem {ax az bx bz : Nat} {c : Col} (h : c ∈ cellsL ax az bx bz) : colO ax az bx bz c.x c.z = some c := mem_met ((cellsL_perm _ _ _ _).mem_iff.1 h)
theorem cellsL_apart (ax az bx bz : Nat) : (cellsL ax az bx bz).Pairwise Apart := List.Perm.pairwise (cellsL_perm ax az bx bz).symm (met_apart _ _ _ _) (fun {x y} h k => h ⟨k.1.symm, k.2.symm⟩)

/-- What the chapter's two examples come to. -/
theorem met_1133 : (metL 1 1 3 3).map (fun c => (c.x, c.z, c.m)) = [(0, 0, ⟨0, 1, 1, 2⟩), (1, 0, ⟨1, 2, 1, 2⟩), (0, 1, ⟨1, 2, 1, 2⟩), (1, 1, ⟨1, 2, 1, 1⟩)] := by decide +kernel
theorem met_2222 : (metL 2 2 2 2).map (fun c => (c.x, c.z, c.m)) = [(0, 0, ⟨0, 1, 1, 1⟩), (1, 0, ⟨0, 1, 1, 1⟩), (0, 1, ⟨0, 1, 1, 1⟩), (1, 1, ⟨0, 1, 1, 1⟩)] := by decide +kernel

end Go.Proofs.Ytmpkciidhopckaa
