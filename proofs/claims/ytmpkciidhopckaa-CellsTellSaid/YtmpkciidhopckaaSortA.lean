/- Worlds on the way of a sort whose comparison lays blocks of its own: all that was there stands, but for one block. No function of the program in sight. -/
import Derived.Test.YtmpkciidhopckaaHat
import Derived.Shelf.GgSortFunc.InsertionK
import Derived.Shelf.SlSortFuncK.RowK2
import Derived.Sort.LotA
import Derived.Sort.LotB
import Derived.Deep.LoopGhost
namespace Go.Proofs.Ytmpkciidhopckaa
open Go.RowKit Go.Sort Go.Shelf Go.Lib
set_option linter.unusedVariables false

/-- w' is w but for the block blk, and for what was laid since. -/
structure But (blk : Nat) (w w' : World) : Prop where
  os : w'.os = w.os
  tape : w'.tape = w.tape
  output : w'.output = w.output
  size : w.heap.size ≤ w'.heap.size
  block : ∀ k, k < w.heap.size → k ≠ blk → w'.heap[k]? = w.heap[k]?

theorem But.refl (blk : Nat) (w : World) : But blk w w := ⟨rfl, rfl, rfl, Nat.le_refl _, fun _ _ _ => rfl⟩
theorem But.trans {blk : Nat} {a b c : World} (h : But blk a b) (k : But blk b c) : But blk a c :=
  ⟨k.os.trans h.os, k.tape.trans h.tape, k.output.trans h.output, Nat.le_trans h.size k.size, fun i hi hn => (k.block i (Nat.lt_of_lt_of_le hi h.size) hn).trans (h.block i hi hn)⟩
theorem But.new {blk : Nat} {a b c : World} (h : But blk a b) (k : New b c) : But blk a c :=
  h.trans ⟨k.os, k.tape, k.output, k.size, fun i hi _ => k.block i hi⟩
theorem But.of_new {blk : Nat} {b c : World} (k : New b c) : But blk b c := (But.refl blk b).new k
theorem But.alloc {blk : Nat} {a b : World} (h : But blk a b) (o : Obj) : But blk a (b.alloc o) := h.new ((New.refl b).alloc o)
theorem But.snd {blk : Nat} {a b c : World} (k : But blk b c) (h : New a b) : But blk a c := (But.of_new h).trans k
/-- A block of a call's own that is laid ahead: whoever changes what lies behind it changes nothing of a's. -/
theorem But.own {blk B : Nat} {a b c : World} (h : But blk a b) (k : But B b c) (hB : a.heap.size ≤ B) : But blk a c :=
  ⟨k.os.trans h.os, k.tape.trans h.tape, k.output.trans h.output, Nat.le_trans h.size k.size, fun i hi hn => (k.block i (Nat.lt_of_lt_of_le hi h.size) (by omega)).trans (h.block i hi hn)⟩
theorem But.toNew {B : Nat} {a c : World} (k : But B a c) (hB : a.heap.size ≤ B) : New a c :=
  ⟨k.os, k.tape, k.output, k.size, fun i hi => k.block i hi (by omega)⟩
theorem But.keep {blk : Nat} {a w : World} (h : But blk a w) {b o : Nat} {v : Value} (hc : a.cell? ⟨b, o, none⟩ = some v) (hb : b ≠ blk) : w.cell? ⟨b, o, none⟩ = some v :=
  (World.cell?_of_block (w := a) (a := ⟨b, o, none⟩) (h.block b (World.block_lt_of_cell? a ⟨b, o, none⟩ hc) hb)).trans hc
theorem But.keepF {blk : Nat} {a w : World} (h : But blk a w) {b o : Nat} {v : Value} (hc : a.cell? ⟨b, o, none⟩ = some v) (hb : b ≠ blk) {f : Bool} (hf : a.frozen? ⟨b, o, none⟩ = f) : w.frozen? ⟨b, o, none⟩ = f :=
  (World.frozen?_of_block (w := a) (a := ⟨b, o, none⟩) (h.block b (World.block_lt_of_cell? a ⟨b, o, none⟩ hc) hb)).trans hf
theorem But.setCell {blk : Nat} {a w : World} (h : But blk a w) (o : Nat) (u : Value) : But blk a (w.setCell ⟨blk, o, none⟩ u) :=
  h.trans ⟨rfl, rfl, rfl, by simp [World.setCell], fun k _ hn => Below.heap_setCell _ _ _ _ hn⟩

variable {α : Type} [Inhabited α]

theorem holdsK_but {enc : α → List Value} {k blk off B : Nat} {d : Array α} {a w : World} (h : HoldsK enc k a blk off d) (n : But B a w) (hb : blk ≠ B) : HoldsK enc k w blk off d := fun j hj => by
  obtain ⟨p, q⟩ := h j hj
  exact ⟨n.keep p hb, n.keepF p hb q⟩
theorem holdsK_new {enc : α → List Value} {k blk off : Nat} {d : Array α} {a w : World} (h : HoldsK enc k a blk off d) (n : New a w) : HoldsK enc k w blk off d := fun j hj => by
  obtain ⟨p, q⟩ := h j hj
  exact ⟨n.keep p, n.keepF p q⟩

theorem but_putRow {enc : α → List Value} {k blk off : Nat} {d : Array α} {w : World} : But blk w (putRowK enc k w blk off d) :=
  ⟨rfl, rfl, rfl, by rw [size_putRowK]; exact Nat.le_refl _, fun i _ hn => by
    show (w.heap.modify blk _)[i]? = _
    rw [Array.getElem?_modify, if_neg (fun e => hn e.symm)]⟩

/-- The two runs of stores of an exchange. -/
theorem swapped {enc : α → List Value} {k : Nat} (hk : ∀ x, (enc x).length = k) {blk off : Nat} {d : Array α} {w : World} (h : HoldsK enc k w blk off d) (i j : Nat) (hi : i < d.size) (hj : j < d.size) :
    But blk w ((w.setCells blk (off + i * k) (enc d[j]!)).setCells blk (off + j * k) (enc d[i]!)) ∧ HoldsK enc k ((w.setCells blk (off + i * k) (enc d[j]!)).setCells blk (off + j * k) (enc d[i]!)) blk off (swp d i j) := by
  have e := putRowK_swp enc k hk w blk off d i j hi hj
  rw [putRowK_self enc k w blk off d h] at e
  rw [e]
  exact ⟨but_putRow, holdsK_putRowK enc k w blk off d _ h (size_swp _ _ _)⟩

/-- What a sort leans on: the comparison (function g, bound to lb) and the exchange (function sf, bound to sb), over the row at blk, from the world w0 on. -/
structure Sorting (P : Program) (g : Nat) (lb : Array Value) (sf : Nat) (sb : Array Value) (enc : α → List Value) (k : Nat) (lt : α → α → Bool) (blk off n : Nat) (w0 : World) : Prop where
  hk : ∀ x, (enc x).length = k
  swo : SWO lt
  eg : ∀ args w, (callFunc g args).run P w = .ok (.enter g args) w
  small : n < 4611686018427387904
  lt0 : blk < w0.heap.size
  less : ∀ (W : World) (d : Array α), But blk w0 W → HoldsK enc k W blk off d → d.size = n → ∀ i j : Nat, i < n → j < n →
    Calls P g (#[.int .i64 i, .int .i64 j] ++ lb) W fun e w' => e = .returned (.bool (lt d[i]! d[j]!)) ∧ New W w'
  swap : SwapSwapsK P sf sb enc k blk off n

/-- In W the row holds d. -/
structure Row (enc : α → List Value) (k : Nat) (blk off n : Nat) (w0 : World) (d : Array α) (W : World) : Prop where
  but : But blk w0 W
  holds : HoldsK enc k W blk off d
  size : d.size = n

theorem Row.new {enc : α → List Value} {k blk off n : Nat} {w0 W W' : World} {d : Array α} (h : Row enc k blk off n w0 d W) (q : New W W') : Row enc k blk off n w0 d W' := ⟨h.but.new q, holdsK_new h.holds q, h.size⟩
theorem Row.alloc {enc : α → List Value} {k blk off n : Nat} {w0 W : World} {d : Array α} (h : Row enc k blk off n w0 d W) (o : Obj) : Row enc k blk off n w0 d (W.alloc o) := h.new ((New.refl W).alloc o)
theorem Row.own {enc : α → List Value} {k blk off n B : Nat} {w0 W W' : World} {d : Array α} (h : Row enc k blk off n w0 d W) (q : But B W W') (hB : w0.heap.size ≤ B) (hb : blk < w0.heap.size) : Row enc k blk off n w0 d W' := ⟨h.but.own q hB, holdsK_but h.holds q (by omega), h.size⟩
theorem Row.next {enc : α → List Value} {k blk off n : Nat} {w0 W W' : World} {d d' : Array α} (h : Row enc k blk off n w0 d W) (q : But blk W W') (r : HoldsK enc k W' blk off d') (s : d'.size = n) : Row enc k blk off n w0 d' W' := ⟨h.but.trans q, r, s⟩
theorem Row.le {enc : α → List Value} {k blk off n : Nat} {w0 W : World} {d : Array α} (h : Row enc k blk off n w0 d W) : w0.heap.size ≤ W.heap.size := h.but.size

/-- The comparison, met in W. -/
theorem Sorting.at {P : Program} {g : Nat} {lb : Array Value} {sf : Nat} {sb : Array Value} {enc : α → List Value} {k : Nat} {lt : α → α → Bool} {blk off n : Nat} {w0 : World}
    (C : Sorting P g lb sf sb enc k lt blk off n w0) {W : World} {d : Array α} (h : Row enc k blk off n w0 d W) (i j : Nat) (hi : i < n) (hj : j < n) {v : Bool} (hv : lt d[i]! d[j]! = v) :
    Calls P g (#[.int .i64 i, .int .i64 j] ++ lb) W fun e w' => e = .returned (.bool v) ∧ New W w' := by
  subst hv
  exact C.less W d h.but h.holds h.size i j hi hj

/-- The exchange, met in W: the world behind it under a name. -/
theorem Sorting.swp {P : Program} {g : Nat} {lb : Array Value} {sf : Nat} {sb : Array Value} {enc : α → List Value} {k : Nat} {lt : α → α → Bool} {blk off n : Nat} {w0 : World}
    (C : Sorting P g lb sf sb enc k lt blk off n w0) {W : World} {d : Array α} (h : Row enc k blk off n w0 d W) (i j : Nat) (hi : i < n) (hj : j < n) :
    ∃ W', (callFunc sf (#[.int .i64 i, .int .i64 j] ++ sb)).run P W = .ok (.value (.tuple #[])) W' ∧ But blk W W' ∧ Row enc k blk off n w0 (Sort.swp d i j) W' := by
  have hs := h.size
  obtain ⟨a, b⟩ := swapped C.hk h.holds i j (by omega) (by omega)
  exact ⟨_, C.swap W d h.holds hs i j hi hj, a, h.next a b ((size_swp _ _ _).trans hs)⟩

end Go.Proofs.Ytmpkciidhopckaa
