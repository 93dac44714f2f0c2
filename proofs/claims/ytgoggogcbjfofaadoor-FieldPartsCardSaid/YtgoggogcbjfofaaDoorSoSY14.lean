import Derived.Test.YtgoggogcbjfofaaDoorSoRY14
import Derived.Test.YtgoggogcbjfofaaDoorSteady
import Derived.Deep.MidRow

/- A struct stored whole into a block of the call's own. No function of the program in sight. -/
namespace Go.Proofs.YtgoggogcbjfofaaDoor
open Go.RowKit
set_option linter.unusedVariables false

/-- n cells are there at a block's head, and may be written. -/
def Thr (w : World) (b n : Nat) : Prop := ∀ j, j < n → (∃ v, w.cell? ⟨b, j, none⟩ = some v) ∧ w.frozen? ⟨b, j, none⟩ = false
theorem Thr.keep {w w' : World} {b n : Nat} (h : Thr w b n) (hn : New w w') : Thr w' b n := fun j hj => by
  obtain ⟨⟨v, hv⟩, hf⟩ := h j hj
  exact ⟨⟨v, hn.keep hv⟩, hn.keepF hv hf⟩
theorem Thr.lt {w : World} {b n : Nat} (h : Thr w b n) (h0 : 0 < n) : b < w.heap.size := by
  obtain ⟨⟨v, hv⟩, _⟩ := h 0 h0
  exact World.block_lt_of_cell? _ _ hv
theorem Thr.new (w : World) (cs : Array Value) (T : TypeId) (b : Nat) (hb : w.heap.size = b) : Thr (w.alloc (.cells cs T)) b cs.size := fun j hj => by
  subst hb
  have h1 : (w.alloc (.cells cs T)).heap[w.heap.size]? = some (.cells cs T) := heap_new _ _
  exact ⟨⟨cs[j], cell_of_heap h1 (by simp [hj])⟩, frozen_of_heap h1⟩

theorem new_setCells {a w : World} {b : Nat} (h : New a w) (hb : a.heap.size ≤ b) : ∀ (vs : List Value) (o : Nat), New a (w.setCells b o vs)
  | [], o => h
  | v :: vs, o => by
    rw [World.setCells]
    exact new_setCells (New.setCell h (p := ⟨b, o, none⟩) hb v) hb vs (o + 1)

/-- The store: the world behind it under a name. -/
theorem wpList_store_row {P : Program} {ops : Array Oper} {rest : List Oper} {op : Oper} {a : Act} {w : World} {Q : Exit → Act → World → Prop} (hgd : op.guard = none) (ty : TypeId) (x y : Operand) (ho : op.op = .store ty x y)
    (b : Nat) (cells : Array Value) (hx : a.eval x = .pointer (some ⟨b, 0, none⟩)) (hy : a.eval y = .agg cells)
    (ht : Thr w b cells.size) (hi : (P.info? ty).map (·.size) = some cells.size) (h1 : ∀ v ∈ cells.toList, v.oneCell' = true)
    (h : ∀ W, (∀ a0, New a0 w → a0.heap.size ≤ b → New a0 W) → (∀ b' o v, b' ≠ b → w.cell? ⟨b', o, none⟩ = some v → W.cell? ⟨b', o, none⟩ = some v) → CellsAt W b 0 cells.toList → wpList P ops Q rest (a.put op.dst undef) W) : wpList P ops Q (op :: rest) a w := by
  have ht' : w.there b 0 cells.size := fun j hj => by
    obtain ⟨⟨v, hv⟩, hf⟩ := ht j hj
    rw [Nat.zero_add]
    exact ⟨by rw [hv]; rfl, hf⟩
  refine wpList_store_mid hgd ty x y ho b 0 cells hx hy ht' hi (all_oneCell_toArray h1) (h _ (fun a0 h0 hb => new_setCells h0 hb _ _) (fun b' o v hne hv => by rw [World.cell?_setCells_out b _ 0 w ⟨b', o, none⟩ (fun e => absurd e hne)]; exact hv) ?_)
  intro j hj
  have := World.rangeAt_setCells_same w b 0 cells.toList (by simpa using ht')
  exact this j _ (List.getElem?_eq_getElem hj)

/-- A slice that does not lie in the block that was stored to. -/
theorem sl_but {α : Type} {enc : α → List Value} {k : Nat} {w W : World} {b : Nat} {v : Value} {l : List α} (h : Sl enc k w v l) (hb : ∀ j, v.ownBlock = some j → j ≠ b) (hk : ∀ b' o u, b' ≠ b → w.cell? ⟨b', o, none⟩ = some u → W.cell? ⟨b', o, none⟩ = some u) : Sl enc k W v l := by
  obtain ⟨a, c, rfl, h1, h2, h3, h4⟩ := h
  refine ⟨a, c, rfl, h1, h2, h3, fun h0 => ?_⟩
  obtain ⟨B, off, rfl, hA⟩ := h4 h0
  exact ⟨B, off, rfl, fun j hj i hi => hk _ _ _ (hb B rfl) (hA j hj i hi)⟩

/-- A soup's lists lie in blocks of this number or later. -/
structure SoupV.own (S : SoupV) (n : Nat) : Prop where
  t : ∀ j, (Value.slice S.a0 S.ts.length S.c0).ownBlock = some j → n ≤ j
  b : ∀ j, (Value.slice S.a1 S.bs.length S.c1).ownBlock = some j → n ≤ j
  h : ∀ j, (Value.slice S.a2 S.hs.length S.c2).ownBlock = some j → n ≤ j
/-- A new soup of these lists is answered. -/
def SoupIs (T : List TriR) (B : List BoxR) (H : List HopR) (w : World) (e : Ending) (w' : World) : Prop := ∃ S : SoupV, e = .returned (.agg #[.slice S.a0 S.ts.length S.c0, .slice S.a1 S.bs.length S.c1, .slice S.a2 S.hs.length S.c2]) ∧ S.ok w' ∧ S.ts = T ∧ S.bs = B ∧ S.hs = H ∧ S.own w.heap.size ∧ New w w'
/-- .. and an error's number. -/
def SoupE (T : List TriR) (B : List BoxR) (H : List HopR) (er : Int) (w : World) (e : Ending) (w' : World) : Prop := ∃ S : SoupV, e = .returned (.tuple #[.agg #[.slice S.a0 S.ts.length S.c0, .slice S.a1 S.bs.length S.c1, .slice S.a2 S.hs.length S.c2], .int .i64 er]) ∧ S.ok w' ∧ S.ts = T ∧ S.bs = B ∧ S.hs = H ∧ S.own w.heap.size ∧ New w w'
theorem SoupV.ok_but {S : SoupV} {w W : World} {b n : Nat} (h : S.ok w) (ho : S.own n) (hb : b < n) (hk : ∀ b' o u, b' ≠ b → w.cell? ⟨b', o, none⟩ = some u → W.cell? ⟨b', o, none⟩ = some u) : S.ok W :=
  ⟨sl_but h.t (fun j hj => by have := ho.t j hj; omega) hk, sl_but h.b (fun j hj => by have := ho.b j hj; omega) hk, sl_but h.h (fun j hj => by have := ho.h j hj; omega) hk⟩
theorem SoupV.own.mono {S : SoupV} {n m : Nat} (h : S.own n) (hm : m ≤ n) : S.own m := ⟨fun j hj => Nat.le_trans hm (h.t j hj), fun j hj => Nat.le_trans hm (h.b j hj), fun j hj => Nat.le_trans hm (h.h j hj)⟩
def SoupV.none : SoupV := ⟨[], [], [], Option.none, Option.none, Option.none, 0, 0, 0⟩
theorem SoupV.none_ok (w : World) : SoupV.none.ok w := ⟨Sl.nil, Sl.nil, Sl.nil⟩
theorem SoupV.none_own (n : Nat) : SoupV.none.own n := ⟨fun j h => (by cases h), fun j h => (by cases h), fun j h => (by cases h)⟩

end Go.Proofs.YtgoggogcbjfofaaDoor
