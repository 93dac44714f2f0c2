/- Package cells: what goes over the columns, as a contract. -/
import Derived.Test.YtmpkciidhopckaaCellsI
import Derived.Maps.AppendAt
import Derived.OwnWalk
import Derived.Shelf.GgSortFunc.RowK
namespace Go.Proofs.Ytmpkciidhopckaa
open Go.RowKit Go.Shelf
set_option linter.unusedVariables false
attribute [local go_sem] Oper.semAt_some

theorem c_met (ax az bx bz : Int) (n : Nat) (w : World) :
    CallsIn Fence.wide n Try.prog 36 #[.agg #[.int .i64 ax, .int .i64 az], .agg #[.int .i64 bx, .int .i64 bz]] w fun e w' => e = .returned (.func (.func 58) #[] #[.pointer (some ⟨w.heap.size, 0, none⟩), .pointer (some ⟨w.heap.size + 1, 0, none⟩)]) ∧
      w' = (w.alloc (.cells #[.int .i64 ax, .int .i64 az] 23)).alloc (.cells #[.int .i64 bx, .int .i64 bz] 23) := by
  refine callsIn_of_wp Try.func36 rfl trivial ?_ rfl
  simp only [Try.ntmps36, List.size_toArray, List.length_cons, List.length_nil, Nat.reduceAdd, Nat.reduceSub, Array.replicate_succ, Array.replicate_zero, List.push_toArray, List.append_toArray, List.nil_append, List.cons_append]
  gi_wp2
  go_ret
  exact ⟨rfl, rfl⟩

/-- All columns that the segment meets, row by row. -/
def metL (ax az bx bz : Nat) : List Col := gridL ax az bx bz ((((min ax bx + 1) / 2 : Nat) : Int) - 1) ((((min az bz + 1) / 2 : Nat) : Int) - 1) (max ax bx / 2 + 2 - (min ax bx + 1) / 2) (max az bz / 2 + 2 - (min az bz + 1) / 2)
theorem metL_len {ax az bx bz : Nat} (ha : ax ≤ 64 ∧ az ≤ 64) (hb : bx ≤ 64 ∧ bz ≤ 64) : (metL ax az bx bz).length ≤ 1156 := by
  unfold metL
  refine Nat.le_trans (gridL_len _ _ _ _ _ _ _ _) ?_
  have h1 : max az bz / 2 + 2 - (min az bz + 1) / 2 ≤ 34 := by omega
  have h2 : max ax bx / 2 + 2 - (min ax bx + 1) / 2 ≤ 34 := by omega
  exact Nat.mul_le_mul h1 h2

theorem c_stops (ax az bx bz : Nat) (ha : ax ≤ 64 ∧ az ≤ 64) (hb : bx ≤ 64 ∧ bz ≤ 64) (n : Nat) (hn : 1 ≤ n) (Ba Bb : Nat) (w : World) (hBa : Ba < w.heap.size) (hBb : Bb < w.heap.size)
    (a0 : w.cell? ⟨Ba, 0, none⟩ = some (.int .i64 ax)) (a1 : w.cell? ⟨Ba, 1, none⟩ = some (.int .i64 az)) (b0 : w.cell? ⟨Bb, 0, none⟩ = some (.int .i64 bx)) (b1 : w.cell? ⟨Bb, 1, none⟩ = some (.int .i64 bz)) :
    SeqStopsK Fence.wide n Try.prog 58 #[.pointer (some ⟨Ba, 0, none⟩), .pointer (some ⟨Bb, 0, none⟩)] (fun c : Col => #[c.val]) (fun W W' => W'.heap[Ba]? = W.heap[Ba]? ∧ W'.heap[Bb]? = W.heap[Bb]?) (fun ys => ys = metL ax az bx bz) (fun _ => True) 1156 w := fun l J Jx W hW hJ _ hY h0 =>
  c_met1 ax az bx bz _ _ _ _ (fun w => c_lowest az bz w (by omega) (by omega)) (fun w => c_highest az bz w (by omega) (by omega)) (fun w => c_lowest ax bx w (by omega) (by omega)) (fun w => c_highest ax bx w (by omega) (by omega))
    _ _ (by omega) (by omega) (by omega) (by omega) (by omega) (by omega) n l Ba Bb hn J Jx hY W (fun _ _ _ h k => hJ _ _ _ none h k.grown_of (fun r e => by cases e))
    ((hW.cell (p := ⟨Ba, 0, none⟩) (show Ba < w.heap.size by omega)).trans a0) ((hW.cell (p := ⟨Ba, 1, none⟩) (show Ba < w.heap.size by omega)).trans a1) ((hW.cell (p := ⟨Bb, 0, none⟩) (show Bb < w.heap.size by omega)).trans b0) ((hW.cell (p := ⟨Bb, 1, none⟩) (show Bb < w.heap.size by omega)).trans b1) h0

theorem cell_info : (Try.prog.info? 27).map (fun i => (i.zero, i.size, i.bytes)) = some (some (.agg #[.int .i64 0, .int .i64 0, .int .i64 0, .int .i64 0, .int .i64 0, .int .i64 0]), 6, 48) := by kernel_rfl

theorem cells_new6 (w : World) (c : Col) (t : TypeId) : ∀ j u, c.enc[j]? = some u → (w.alloc (.cells #[.int .i64 c.x, .int .i64 c.z, .int .i64 c.m.fn, .int .i64 c.m.fd, .int .i64 c.m.ln, .int .i64 c.m.ld] t)).cell? ((⟨w.heap.size, 0, none⟩ : Addr).add j) = some u := by
  intro j u hj
  unfold Col.enc at hj
  match j, hj with
  | 0, hj => simp at hj; subst hj; simp [Addr.add]
  | 1, hj => simp at hj; subst hj; simp [Addr.add]
  | 2, hj => simp at hj; subst hj; simp [Addr.add]
  | 3, hj => simp at hj; subst hj; simp [Addr.add]
  | 4, hj => simp at hj; subst hj; simp [Addr.add]
  | 5, hj => simp at hj; subst hj; simp [Addr.add]
  | j + 6, hj => simp at hj

/-- A block of another type stands behind the append and the store of its result. -/
theorem stands {W w1 : World} {base e : Nat} {size B b : Nat} {v v' : Value} {k : Nat} {xs : List Value} {tmp : Obj} {cs : Array Value} {t : TypeId} {fr : Nat × Nat} (h : W.heap[b]? = some (.cells cs t fr)) (hte : t ≠ e) (hrow : W.ownsRow base e size v k xs)
    (hgrow : (W.alloc tmp).grownBy w1 v.ownBlock) (hb : b ≠ B) : (w1.setCell ⟨B, 0, none⟩ v').heap[b]? = some (.cells cs t fr) := by
  have hlt : b < W.heap.size := (Array.getElem?_eq_some_iff.1 h).1
  have h1 : (W.alloc tmp).heap[b]? = some (.cells cs t fr) := (Below.heap_alloc W tmp b hlt).trans h
  rw [Below.heap_setCell _ _ _ _ hb]
  refine (hgrow.block b (by simp; omega) (fun e' => ?_)).trans h1
  rcases hrow.2 with ⟨rfl, _⟩ | ⟨g, cap, cur, rfl, _, hgb, _⟩
  · simp [Value.ownBlock] at e'
  · obtain rfl : b = g := by simpa [Value.ownBlock] using e'
    rw [h] at hgb
    injection hgb with hgb
    injection hgb with _ hgb
    exact hte hgb

/-- The box that a round lays for its column. -/
def AxOf (f : Col → Nat → Array Value) (c : Col) (a' : Act) (W : World) : Prop := ∃ Bx : Nat, W.heap[Bx]? = some (.cells #[.int .i64 c.x, .int .i64 c.z, .int .i64 c.m.fn, .int .i64 c.m.fd, .int .i64 c.m.ln, .int .i64 c.m.ld] 27 (0, 0)) ∧ a' = { tmps := f c Bx, defers := [] }
theorem axOf_own (f : Col → Nat → Array Value) (D : Nat) (c : Col) (a' : Act) : OwnFrom D (fun (_ : Unit) W => AxOf f c a' W) := fun _ X Y row hs hg hr => by
  obtain ⟨Bx, h, e⟩ := hs
  refine ⟨Bx, (hg.block Bx (Array.getElem?_eq_some_iff.1 h).1 (fun e' => ?_)).trans h, e⟩
  obtain ⟨_, o, ho, hc⟩ := hr Bx e'.symm
  rw [h] at ho; cases ho; cases hc
theorem block_own {β : Type} (b : Nat) {cs : Array Value} {t : TypeId} {fr : Nat × Nat} (D : Nat) : OwnFrom D (fun (_ : β) W => W.heap[b]? = some (.cells cs t fr)) := fun _ X Y row hs hg hr => by
  refine (hg.block b (Array.getElem?_eq_some_iff.1 hs).1 (fun e' => ?_)).trans hs
  obtain ⟨_, o, ho, hc⟩ := hr b e'.symm
  rw [hs] at ho; cases ho; cases hc

theorem flat_get : ∀ (l : List Col) (i r : Nat), r < 6 → (l.flatMap Col.enc)[i * 6 + r]? = (l[i]?).bind (fun c => c.enc[r]?)
  | [], i, r, _ => by simp
  | c :: l, 0, r, h => by
    rw [List.flatMap_cons, List.getElem?_append_left (by simpa [Col.enc] using h)]
    simp
  | c :: l, i + 1, r, h => by
    have he : c.enc.length = 6 := rfl
    rw [List.flatMap_cons, List.getElem?_append_right (by rw [he]; omega), he, show (i + 1) * 6 + r - 6 = i * 6 + r by omega, flat_get l i r h]
    simp

/-- The row that the call owns holds the columns. -/
theorem row_holds {W : World} {base : Nat} {e : TypeId} {g cap n : Nat} {l : List Col} (h : W.ownsRow base e 6 (.slice (some ⟨g, 0, none⟩) n cap) n (l.flatMap Col.enc)) (hn : n = l.length) : Go.Sort.HoldsK Col.enc 6 W g 0 l.toArray := by
  subst hn
  intro j hj
  rw [Go.Sort.size_flatK] at hj
  have hj' : j < l.length * 6 := by simpa using hj
  have hc := World.ownsRow.cellAt h j (by simpa using hj')
  have hf := World.ownsRow.frozenAt h j
  rw [Nat.zero_add]
  refine ⟨?_, hf⟩
  rw [hc, Go.Sort.get_flatK _ _ _ _ hj]
  have hi : j / 6 < l.length := by omega
  have e1 := flat_get l (j / 6) (j % 6) (Nat.mod_lt _ (by omega))
  rw [show j / 6 * 6 + j % 6 = j by omega] at e1
  rw [e1, List.getElem?_eq_getElem hi]
  have e2 : (l.toArray)[j / 6]! = l[j / 6] := by simp [hi]
  rw [e2]
  have hr : j % 6 < (l[j / 6]).enc.length := by show j % 6 < 6; omega
  have e3 : (l[j / 6]).enc[j % 6]? = some ((l[j / 6]).enc[j % 6]!) := by
    rw [List.getElem?_eq_getElem hr, getElem!_pos (l[j / 6]).enc (j % 6) hr]
  exact e3

end Go.Proofs.Ytmpkciidhopckaa
