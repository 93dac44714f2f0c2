/- sort.reverseRange_func and sort.breakPatterns_func: they compare nothing, so the shelf's contracts serve. -/
import Derived.Test.YtmpkciidhopckaaSortA
import Derived.Test.YtmpkciidhopckaaSortL
import Derived.Shelf.SlSortFuncK.BreakPatternsK
import Derived.Sort.LotD1
namespace Go.Proofs.Ytmpkciidhopckaa
open Go.RowKit Go.Sort Go.Shelf Go.Lib
set_option linter.unusedVariables false
variable {α : Type} [Inhabited α] {g : Nat} {lb : Array Value} {sf : Nat} {sb : Array Value} {enc : α → List Value} {k : Nat} {lt : α → α → Bool} {blk off n : Nat} {w0 : World}

theorem but_sorted {enc : α → List Value} {k blk off m : Nat} {d : Array α} {w : World} {os : Array Obj} : But blk w (Go.Proofs.sortWorldK enc k w blk off m d os) := by
  refine ⟨rfl, rfl, rfl, ?_, fun i hi hn => ?_⟩
  · show w.heap.size ≤ ((putRowK enc k (Sort.ahead w m) blk off d).heap ++ os).size
    rw [Array.size_append, size_putRowK]
    show w.heap.size ≤ w.heap.size + _
    omega
  · show ((putRowK enc k (Sort.ahead w m) blk off d).heap ++ os)[i]? = _
    rw [Array.getElem?_append_left (by rw [size_putRowK]; exact hi)]
    show (w.heap.modify blk _)[i]? = _
    rw [Array.getElem?_modify, if_neg (fun e => hn e.symm)]

theorem row_sorted {w : World} {d d' : Array α} (h : Row enc k blk off n w0 d w) (hb : blk < w0.heap.size) {w' : World} (hw : ∃ m os, w' = Go.Proofs.sortWorldK enc k w blk off m d' os) (hs : d'.size = d.size) : But blk w w' ∧ Row enc k blk off n w0 d' w' := by
  obtain ⟨m, os, rfl⟩ := hw
  exact ⟨but_sorted, h.next but_sorted (Go.Proofs.holdsK_sortWorldK enc k w blk off m d d' os (by have := h.le; omega) h.holds hs) (hs.trans h.size)⟩

theorem s_rev (C : Sorting Try.prog g lb sf sb enc k lt blk off n w0) (a b : Nat) (d : Array α) (w : World) (hR : Row enc k blk off n w0 d w) (hab : a ≤ b) (hb : b ≤ n) :
    Calls Try.prog 92 #[.agg #[.func (.func g) #[] lb, .func (.func sf) #[] sb], .int .i64 a, .int .i64 b] w fun e w' =>
      e = .returned (.tuple #[]) ∧ But blk w w' ∧ ∃ d', PermIn a b d d' ∧ Row enc k blk off n w0 d' w' := by
  have hs := hR.size
  have h := Go.Proofs.Any.reverseRange_func_cells_w (P := Try.prog) (ρ := laysSort_ren) { laysSort with } enc k C.hk (.func g) #[] lb sf sb blk off a b d w (by rw [hs]; exact C.swap) hR.holds (by have := hR.le; have := C.lt0; omega) hab (by omega) (by have := C.small; omega)
  refine h.mono ?_
  rintro e w' ⟨rfl, hw⟩
  have hp := reverseRange_holds d a b hab (by omega)
  obtain ⟨p, r⟩ := row_sorted hR C.lt0 hw hp.1
  exact ⟨rfl, p, _, hp, r⟩

theorem s_brk (C : Sorting Try.prog g lb sf sb enc k lt blk off n w0) (a b : Nat) (d : Array α) (w : World) (hR : Row enc k blk off n w0 d w) (hab : a ≤ b) (hb : b ≤ n) :
    Calls Try.prog 90 #[.agg #[.func (.func g) #[] lb, .func (.func sf) #[] sb], .int .i64 a, .int .i64 b] w fun e w' =>
      e = .returned (.tuple #[]) ∧ But blk w w' ∧ ∃ d', PermIn a b d d' ∧ Row enc k blk off n w0 d' w' := by
  have hs := hR.size
  have h := Go.Proofs.Any.breakPatterns_func_cells_w (P := Try.prog) (ρ := laysSort_ren) { laysSort with } enc k C.hk (.func g) #[] lb sf sb blk off a b d w (by rw [hs]; exact C.swap) hR.holds (by have := hR.le; have := C.lt0; omega) hab (by omega) (by have := C.small; omega)
  refine h.mono ?_
  rintro e w' ⟨rfl, hw⟩
  have hp := breakPatterns_holds d a b hab (by omega)
  obtain ⟨p, r⟩ := row_sorted hR C.lt0 hw hp.1
  exact ⟨rfl, p, _, hp, r⟩

end Go.Proofs.Ytmpkciidhopckaa
