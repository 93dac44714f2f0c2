import Derived.Test.YtdbhlepbaepngaaDoorSoWZ14
import Derived.Test.YtdbhlepbaepngaaDoorHatS
import Derived.Outline
import Derived.Deep.DeepCutAuto
import Derived.Deep.LoopGhost
import Derived.Test.YtdbhlepbaepngaaDoorBinsDZ14
import Derived.Test.YtdbhlepbaepngaaDoorWholeJZ14

/- Rows of whole numbers, and how two are compared. -/
namespace Go.Proofs.YtdbhlepbaepngaaDoor
open Go.RowKit
set_option linter.unusedVariables false
set_option maxRecDepth 100000

abbrev iE (t : Int) : List Value := [.int .i64 t]
theorem iE_len (t : Int) : (iE t).length = 1 := rfl
theorem int_info : (Tryd.prog.info? 3).map (fun i => (i.zero, i.size, i.bytes)) = some (some (.int .i64 0), 1, 8) := by kernel_rfl
theorem cells_int (w : World) (t : Int) (ty : TypeId) : ∀ j u, (iE t)[j]? = some u → (w.alloc (.cells #[.int .i64 t] ty)).cell? ((⟨w.heap.size, 0, none⟩ : Addr).add j) = some u := by
  intro j u hj
  match j, hj with
  | 0, hj => simp at hj; subst hj; simp [Addr.add]
  | j + 1, hj => simp at hj

theorem sl_at {w : World} {v : Value} {l : List Int} (h : Sl iE 1 w v l) : ∃ at0 c, v = .slice at0 l.length c ∧ l.length ≤ c ∧ c ≤ maxLen ∧ ∀ j (hj : j < l.length), ∃ b off, at0 = some ⟨b, off, none⟩ ∧ w.cell? ⟨b, off + j, none⟩ = some (.int .i64 l[j]) := by
  obtain ⟨at0, c, e, h1, h2, -, h3⟩ := h
  refine ⟨at0, c, e, h1, h2, fun j hj => ?_⟩
  obtain ⟨b, off, e1, h4⟩ := h3 (by omega)
  refine ⟨b, off, e1, ?_⟩
  have := h4 j hj 0 (by simp)
  simpa using this

end Go.Proofs.YtdbhlepbaepngaaDoor

/- The document's own answers on tiles: wide, Count, Touch, All. -/
namespace Go.Proofs.YtdbhlepbaepngaaDoor
open Go.RowKit
set_option linter.unusedVariables false
set_option maxRecDepth 100000

theorem touch_out {cl cb ht ri ru wd dp k x0 z0 x1 z1 : Int} (h : ¬ (0 ≤ k ∧ k < countN cl cb ht ri ru wd dp)) : touchB cl cb ht ri ru wd dp k x0 z0 x1 z1 = false := by
  unfold touchB; rw [decide_eq_false h]; rfl
theorem touch_cross {cl cb ht ri ru wd dp k x0 z0 x1 z1 : Int} (h : ¬ (x0 ≤ x1 ∧ z0 ≤ z1)) : touchB cl cb ht ri ru wd dp k x0 z0 x1 z1 = false := by
  unfold touchB; rw [decide_eq_false h]; simp

/-- Those of the first m numbers that T says. -/
def upTo (T : Int → Bool) (m : Nat) : List Int := ((List.range m).map (fun j : Nat => (j : Int))).filter T
theorem upTo_succ (T : Int → Bool) (m : Nat) : upTo T (m + 1) = upTo T m ++ (if T m then [(m : Int)] else []) := by
  unfold upTo
  rw [List.range_succ, List.map_append, List.filter_append, List.map_cons, List.map_nil, List.filter_cons, List.filter_nil]
theorem upTo_len (T : Int → Bool) (m : Nat) : (upTo T m).length ≤ m := by
  unfold upTo
  refine Nat.le_trans (List.length_filter_le _ _) ?_
  simp

/-- The tiles that the stretch touches, rising. -/
def tilesL (cl cb ht ri ru wd dp x0 z0 x1 z1 : Int) : List Int := upTo (fun k => touchB cl cb ht ri ru wd dp k x0 z0 x1 z1) (countN cl cb ht ri ru wd dp).toNat
theorem tilesL_len (cl cb ht ri ru wd dp x0 z0 x1 z1 : Int) : (tilesL cl cb ht ri ru wd dp x0 z0 x1 z1).length ≤ 16 := by
  have := count_bd cl cb ht ri ru wd dp
  exact Nat.le_trans (upTo_len _ _) (by omega)

theorem own_mono {w : World} {base b0 size : Nat} {e : TypeId} {v : Value} {n : Nat} {xs : List Value} (h : w.ownsRow base e size v n xs) (hb : b0 ≤ base) : w.ownsRow b0 e size v n xs := by
  obtain ⟨h1, h2⟩ := h
  refine ⟨h1, h2.imp id ?_⟩
  rintro ⟨g, cap, cur, rfl, hg, r⟩
  exact ⟨g, cap, cur, rfl, Nat.le_trans hb hg, r⟩

end Go.Proofs.YtdbhlepbaepngaaDoor
