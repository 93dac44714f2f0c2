/- Worlds that hold below a block what a world held: the class in which one walk of a region serves every order, where its callees make memory of their own. -/
import Derived.Test.YtgoggogcbjfofaaDoorRows
import Derived.WalkKit
import Derived.WalkSpells
import Derived.WalkLawsBesides
import Derived.IntWalk
import Derived.Deep.QuietTactic
import Derived.BigQuiet
import Derived.Handy
import Derived.Lib.Hide
import Derived.Lib.MinMax
namespace Go.Proofs.YtgoggogcbjfofaaDoor
open Go.RowKit
set_option linter.unusedVariables false

/-- A world in which all that W held stands as it stood. -/
structure Hat (W : World) where
  w : World
  h : Below W.heap.size W w

instance (W : World) : Nonempty (Hat W) := ⟨⟨W, Below.refl _ _⟩⟩

/-- New blocks alone. -/
def New (w w' : World) : Prop := Below w.heap.size w w'
theorem New.refl (w : World) : New w w := Below.refl _ _
theorem New.trans {a b c : World} (h : New a b) (k : New b c) : New a c := Below.trans h (Below.mono k h.size)
theorem New.alloc {a w : World} (h : New a w) (o : Obj) : New a (w.alloc o) := Below.alloc h h.size o
theorem New.drew {a w : World} (h : New a w) : New a w.drew := Below.drew h
theorem New.drewN {a w : World} (h : New a w) (n : Nat) : New a (w.drewN n) := ⟨h.os, h.tape, h.output, h.size, h.block⟩
theorem New.setCell {a w : World} (h : New a w) {p : Addr} (hp : a.heap.size ≤ p.block) (u : Value) : New a (w.setCell p u) := Below.setCell h hp u
theorem New.setB {a w : World} {p : Addr} (hp : a.heap.size ≤ p.block) (h : New a w) (u : Value) : New a (w.setCell p u) := h.setCell hp u
theorem New.snart {a b c : World} (k : New b c) (h : New a b) : New a c := h.trans k
theorem New.hat {a W : World} (h : New a W) (x : Hat W) : New a x.w := h.trans x.h
theorem New.size {a w : World} (h : New a w) : a.heap.size ≤ w.heap.size := Below.size h
theorem New.cell {a w : World} (h : New a w) (b o : Nat) (hb : b < a.heap.size) : w.cell? ⟨b, o, none⟩ = a.cell? ⟨b, o, none⟩ := Below.cell h (p := ⟨b, o, none⟩) hb
theorem New.frozen {a w : World} (h : New a w) (b o : Nat) (hb : b < a.heap.size) : w.frozen? ⟨b, o, none⟩ = a.frozen? ⟨b, o, none⟩ := Below.frozen h (p := ⟨b, o, none⟩) hb

/-- A cell that is there stays. -/
theorem New.keep {a w : World} (h : New a w) {b o : Nat} {v : Value} (hc : a.cell? ⟨b, o, none⟩ = some v) : w.cell? ⟨b, o, none⟩ = some v :=
  (h.cell b o (World.block_lt_of_cell? a ⟨b, o, none⟩ hc)).trans hc
theorem New.keepF {a w : World} (h : New a w) {b o : Nat} {v : Value} (hc : a.cell? ⟨b, o, none⟩ = some v) {f : Bool} (hf : a.frozen? ⟨b, o, none⟩ = f) : w.frozen? ⟨b, o, none⟩ = f :=
  (h.frozen b o (World.block_lt_of_cell? a ⟨b, o, none⟩ hc)).trans hf

/-- For a region with calls that make memory: what each world on its way holds. -/
theorem keeps {W w : World} (h : New W w) : New W w ∧ ∀ b o, (W.cell? ⟨b, o, none⟩).isSome = true → w.cell? ⟨b, o, none⟩ = W.cell? ⟨b, o, none⟩ :=
  ⟨h, fun b o hb => by obtain ⟨v, hv⟩ := Option.isSome_iff_exists.1 hb; rw [hv]; exact h.keep hv⟩
theorem keepsF {W w : World} (h : New W w) : ∀ b o, (W.cell? ⟨b, o, none⟩).isSome = true → w.frozen? ⟨b, o, none⟩ = W.frozen? ⟨b, o, none⟩ :=
  fun b o hb => by obtain ⟨v, hv⟩ := Option.isSome_iff_exists.1 hb; exact h.keepF hv rfl

/-- What a world of the class holds: lay it ahead of the region. -/
theorem hat_cell {W : World} (x : Hat W) (b o : Nat) (h : (W.cell? ⟨b, o, none⟩).isSome = true) : x.w.cell? ⟨b, o, none⟩ = W.cell? ⟨b, o, none⟩ := (keeps x.h).2 b o h
theorem hat_frozen {W : World} (x : Hat W) (b o : Nat) (h : (W.cell? ⟨b, o, none⟩).isSome = true) : x.w.frozen? ⟨b, o, none⟩ = W.frozen? ⟨b, o, none⟩ := keepsF x.h b o h

/-- The world under a name. -/
theorem Calls.at {P : Program} {f : FuncId} {args : Array Value} {w : World} {Q : Ending → World → Prop} (h : ∀ W, W = w → Calls P f args W Q) : Calls P f args w Q := h w rfl
theorem Code.at {P : Program} {s : Code} {Q : Exit → Act → World → Prop} {a : Act} {w : World} (h : ∀ W, W = w → s.wp P Q a W) : s.wp P Q a w := h w rfl

/-- A callee that makes memory of its own alone, met in a world of the class. -/
theorem Calls.hat {P : Program} {f : FuncId} {args : Array Value} {W : World} {x : Hat W} {v : Value}
    (h : Calls P f args x.w fun e w' => e = .returned v ∧ New x.w w') : Calls P f args x.w fun e w'' => e = .returned v ∧ ∃ y : Hat W, w'' = y.w :=
  h.mono fun _ w'' ⟨he, hn⟩ => ⟨he, ⟨w'', Below.trans x.h (Below.mono hn x.h.size)⟩, rfl⟩
/-- .. that leaves the world as it is. -/
theorem Calls.hat_same {P : Program} {f : FuncId} {args : Array Value} {W : World} {x : Hat W} {v : Value}
    (h : Calls P f args x.w fun e w' => e = .returned v ∧ x.w = w') : Calls P f args x.w fun e w'' => e = .returned v ∧ ∃ y : Hat W, w'' = y.w :=
  h.mono fun _ _ ⟨he, hn⟩ => ⟨he, x, hn.symm⟩

theorem Calls.hat_b {P : Program} {f : FuncId} {args : Array Value} {W : World} {x : Hat W} {b b' : Bool} (hb : b = b')
    (h : Calls P f args x.w fun e w' => e = .returned (.bool b) ∧ New x.w w') : Calls P f args x.w fun e w'' => e = .returned (.bool b') ∧ ∃ y : Hat W, w'' = y.w := by
  subst hb; exact Calls.hat h
theorem Calls.mild_b {P : Program} {f : FuncId} {args : Array Value} {w : World} {b b' : Bool} (hb : b = b')
    (h : Calls P f args w fun e w' => e = .returned (.bool b) ∧ New w w') : Calls P f args w fun e w' => e = .returned (.bool b') ∧ New w w' := by
  subst hb; exact h
theorem Calls.mild_same {P : Program} {f : FuncId} {args : Array Value} {w : World} {v : Value}
    (h : Calls P f args w fun e w' => e = .returned v ∧ w = w') : Calls P f args w fun e w' => e = .returned v ∧ New w w' :=
  h.mono fun _ _ ⟨he, hn⟩ => ⟨he, by rw [← hn]; exact New.refl _⟩

theorem wp_region_hat {P : Program} {id : Nat} {Q : Exit → Act → World → Prop} {a : Act} {w : World} {l : List Oper} (hm : P.follows .mixedOrders = true) (hB : Region.lexB .any l.toArray = true)
    (h : (∀ (x : Hat w) (b o : Nat), (w.cell? ⟨b, o, none⟩).isSome = true → x.w.cell? ⟨b, o, none⟩ = w.cell? ⟨b, o, none⟩) → (∀ (x : Hat w) (b o : Nat), (w.cell? ⟨b, o, none⟩).isSome = true → x.w.frozen? ⟨b, o, none⟩ = w.frozen? ⟨b, o, none⟩) → wpQuiet P l.toArray (fun w' => ∃ x : Hat w, w' = x.w) (fun a' => ∀ w', (∃ x : Hat w, w' = x.w) → Q .normal a' w') l a) : (Code.region id l.toArray true).wp P Q a w :=
  wp_region_quiet (C := fun w' => ∃ x : Hat w, w' = x.w) hm hB ⟨⟨_, Below.drew (Below.refl _ w)⟩, rfl⟩ (by simpa using h hat_cell hat_frozen)

end Go.Proofs.YtgoggogcbjfofaaDoor
