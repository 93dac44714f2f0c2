import Derived.Test.YteoongcajfcgcaaClIZ7
import Derived.Test.YteoongcajfcgcaaClKZ7
import Derived.Test.YteoongcajfcgcaaSlAppZ7
import Derived.Deep.LoopGhost

/- Package clip: worlds in which rows of corners alone may have changed. -/
namespace Go.Proofs.Yteoongcajfcgcaa
open Go.RowKit
set_option linter.unusedVariables false

/-- All blocks that are no corners stay. -/
structure Ex (w w' : World) : Prop where
  os : w'.os = w.os
  tape : w'.tape = w.tape
  output : w'.output = w.output
  size : w.heap.size ≤ w'.heap.size
  block : ∀ k, k < w.heap.size → (∀ cs fr, w.heap[k]? ≠ some (.cells cs 39 fr)) → w'.heap[k]? = w.heap[k]?
theorem Ex.refl (w : World) : Ex w w := ⟨rfl, rfl, rfl, Nat.le_refl _, fun _ _ _ => rfl⟩
theorem Ex.trans {a b c : World} (h : Ex a b) (k : Ex b c) : Ex a c :=
  ⟨k.os.trans h.os, k.tape.trans h.tape, k.output.trans h.output, Nat.le_trans h.size k.size, fun i hi hn => by
    have e := h.block i hi hn
    rw [k.block i (Nat.lt_of_lt_of_le hi h.size) (fun cs fr => by rw [e]; exact hn cs fr), e]⟩
theorem Ex.of_new {a b : World} (h : New a b) : Ex a b := ⟨h.os, h.tape, h.output, h.size, fun k hk _ => h.block k hk⟩
theorem Ex.new {a b c : World} (h : Ex a b) (k : New b c) : Ex a c := h.trans (Ex.of_new k)
/-- The block is of this type. -/
def Typ (w : World) (b : Nat) (t : TypeId) : Prop := ∃ cs fr, w.heap[b]? = some (.cells cs t fr)
theorem Typ.lt {w : World} {b : Nat} {t : TypeId} (h : Typ w b t) : b < w.heap.size := by
  obtain ⟨cs, fr, h⟩ := h
  rcases Nat.lt_or_ge b w.heap.size with q | q
  · exact q
  · rw [Array.getElem?_eq_none q] at h; cases h
theorem Typ.not {w : World} {b : Nat} {t : TypeId} (h : Typ w b t) (ht : t ≠ 39) : ∀ cs fr, w.heap[b]? ≠ some (.cells cs 39 fr) := by
  obtain ⟨cs, fr, h⟩ := h
  intro cs' fr' e
  rw [h] at e
  injection e with e
  injection e with _ e _
  exact ht e
theorem Ex.heap {w w' : World} (h : Ex w w') {b : Nat} {t : TypeId} (hb : Typ w b t) (ht : t ≠ 39) : w'.heap[b]? = w.heap[b]? := h.block b hb.lt (hb.not ht)
theorem Ex.typ {w w' : World} (h : Ex w w') {b : Nat} {t : TypeId} (hb : Typ w b t) (ht : t ≠ 39) : Typ w' b t := by
  have e := h.heap hb ht
  obtain ⟨cs, fr, k⟩ := hb
  exact ⟨cs, fr, e.trans k⟩
theorem Ex.cell {w w' : World} (h : Ex w w') {b o : Nat} {t : TypeId} {v : Value} (hb : Typ w b t) (ht : t ≠ 39) (hc : w.cell? ⟨b, o, none⟩ = some v) : w'.cell? ⟨b, o, none⟩ = some v := cell_block (h.heap hb ht) hc
theorem Typ.keep {w w' : World} {b : Nat} {t : TypeId} (h : Typ w b t) (n : New w w') : Typ w' b t := by
  have hl := h.lt
  obtain ⟨cs, fr, k⟩ := h
  exact ⟨cs, fr, (n.block b hl).trans k⟩
theorem Typ.made (w : World) (cs : Array Value) (t : TypeId) : Typ (w.alloc (.cells cs t)) w.heap.size t := ⟨_, _, heap_new w (.cells cs t)⟩
theorem Ex.rows {α : Type} {enc : α → List Value} {k : Nat} {w w' : World} (h : Ex w w') {b off : Nat} {l : List α} {t : TypeId} (hb : Typ w b t) (ht : t ≠ 39) (hr : RowAt enc k w b off l) : RowAt enc k w' b off l :=
  fun j hj i hi => h.cell hb ht (hr j hj i hi)

/-- What the grown row leaves. -/
theorem Ex.grown {w w' : World} {base : Nat} {v : Value} {n : Nat} {xs : List Value} (hown : w.ownsRow base 39 4 v n xs) (hg : w.grownBy w' v.ownBlock) : Ex w w' :=
  ⟨hg.os, hg.tape, hg.output, hg.size, fun k hk hn => hg.block k hk fun e => by
    rcases hown.2 with ⟨rfl, _⟩ | ⟨g, cap, cur, rfl, _, hh, _⟩
    · cases e
    · simp only [Value.ownBlock, Option.some.injEq] at e
      subst e
      exact hn _ _ hh⟩

/-- Worlds with no older block than base changed. -/
def Past (w : World) (base : Nat) (w' : World) : Prop := ∀ a, New a w → a.heap.size ≤ base → New a w'
theorem Past.refl (w : World) (base : Nat) : Past w base w := fun _ h _ => h
theorem Past.trans {a b c : World} {base : Nat} (h : Past a base b) (k : Past b base c) : Past a base c := fun x hx hg => k x (h x hx hg) hg
theorem Past.new {a b c : World} {base : Nat} (h : Past a base b) (k : New b c) : Past a base c := fun x hx hg => (h x hx hg).trans k
theorem Past.grown {w w' : World} {base : Nat} {v : Value} {n : Nat} {xs : List Value} (hown : w.ownsRow base 39 4 v n xs) (hg : w.grownBy w' v.ownBlock) : Past w base w' :=
  fun a hn hb => newGrown hn hg (fun j hj => Nat.le_trans hb (own_block hown j hj))

theorem co_info : (Try.prog.info? 39).map (fun i => (i.zero, i.size, i.bytes)) = some (some (.agg #[.int .i64 0, .int .i64 0, .int .i64 0, .int .i64 0]), 4, 32) := by kernel_rfl

theorem co_new (w : World) (c : Co) (t : TypeId) : ∀ j u, c.enc[j]? = some u → (w.alloc (.cells #[.int .i64 c.x, .int .i64 c.z, .int .i64 c.y, .int .i64 c.d] t)).cell? ((⟨w.heap.size, 0, none⟩ : Addr).add j) = some u := by
  intro j u hu
  have hh := heap_new w (.cells #[.int .i64 c.x, .int .i64 c.z, .int .i64 c.y, .int .i64 c.d] t)
  rw [Addr.add_lit, Nat.zero_add]
  refine cell_of_heap hh ?_
  rw [← Array.getElem?_toList]
  exact hu

/-- The whole of what a round of gathering keeps. -/
structure Gat (w0 : World) (base : Nat) (wr : World) (v : Value) (l : List Co) : Prop where
  ex : Ex w0 wr
  past : Past w0 base wr
  own : wr.ownsRow base 39 4 v l.length (l.flatMap Co.enc)
theorem Gat.new {w0 wr wr' : World} {base : Nat} {v : Value} {l : List Co} (h : Gat w0 base wr v l) (n : New wr wr') : Gat w0 base wr' v l :=
  ⟨h.ex.new n, h.past.new n, own_new h.own n⟩
theorem Gat.more {w0 wr wr' : World} {base : Nat} {v v' : Value} {l : List Co} {c : Co} (h : Gat w0 base wr v l) (ho : wr'.ownsRow base 39 4 v' (l.length + 1) (l.flatMap Co.enc ++ c.enc)) (hg : wr.grownBy wr' v.ownBlock) : Gat w0 base wr' v' (l ++ [c]) :=
  ⟨h.ex.trans (Ex.grown h.own hg), h.past.trans (Past.grown h.own hg), by rw [List.length_append, List.flatMap_append]; simpa using ho⟩

end Go.Proofs.Yteoongcajfcgcaa
