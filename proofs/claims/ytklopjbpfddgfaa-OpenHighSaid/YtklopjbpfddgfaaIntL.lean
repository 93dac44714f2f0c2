/- Rows of whole numbers, and how two are compared. -/
import Derived.Test.YtklopjbpfddgfaaSoW
import Derived.Test.YtklopjbpfddgfaaHatS
import Derived.Outline
import Derived.Deep.DeepCutAuto
import Derived.Deep.LoopGhost
namespace Go.Proofs.Ytklopjbpfddgfaa
open Go.RowKit
set_option linter.unusedVariables false
set_option maxRecDepth 100000

abbrev iE (t : Int) : List Value := [.int .i64 t]
theorem iE_len (t : Int) : (iE t).length = 1 := rfl
theorem int_info : (Try.prog.info? 3).map (fun i => (i.zero, i.size, i.bytes)) = some (some (.int .i64 0), 1, 8) := by kernel_rfl
theorem cells_int (w : World) (t : Int) (ty : TypeId) : ∀ j u, (iE t)[j]? = some u → (w.alloc (.cells #[.int .i64 t] ty)).cell? ((⟨w.heap.size, 0, none⟩ : Addr).add j) = some u := by
  intro j u hj
  match j, hj with
  | 0, hj => simp at hj; subst hj; simp [Addr.add]
  | j + 1, hj => simp at hj

theorem sl_at {w : World} {v : Value} {l : List Int} (h : Sl iE 1 w v l) : ∃ at0 c, v = .slice at0 l.length c ∧ l.length ≤ c ∧ c ≤ maxLen ∧ ∀ j (hj : j < l.length), ∃ b off, at0 = some ⟨b, off, none⟩ ∧ w.cell? ⟨b, off + j, none⟩ = some (.int .i64 l[j]) := by
  obtain ⟨at0, c, e, h1, h2, -, h3⟩ := h
  refine ⟨at0, c, e, h1, h2, fun j hj => ?_⟩
  obtain ⟨b, off, e1, h4⟩ := h3 (by omega)
  refine ⟨b, off, e1, ?_⟩
  have := h4 j hj 0 (by simp)
  simpa using this

end Go.Proofs.Ytklopjbpfddgfaa
