import Derived.Test.YtklopjbpfddgfaaGreatRows
import Derived.ProofKit
import Derived.OpenShut
import Derived.WalkKit
import Derived.WalkSpells
import Derived.WalkLawsBesides
import Derived.IntWalk
import Derived.Deep.QuietTactic
import Derived.BigQuiet
import Derived.Handy
import Derived.Lib.Hide
import Derived.Lib.MinMax

/- Values of plain types laid flat: of a value that can be read as data, what each of its cells holds. No function of the program in sight. -/
namespace Go.Proofs.YtklopjbpfddgfaaGreat
open Go.ChangeShapes Go.WideShapes Go.RowKit

/-- What a cell may hold. -/
inductive Kd where
  | num (k : IntKind)
  | yes
  | text

def Fit : Kd → Value → Prop
  | .num k, v => ∃ n : Int, v = .int k n ∧ (Lit.int k n).wf = true
  | .yes, v => ∃ b : Bool, v = .bool b
  | .text, v => ∃ s : ByteArray, v = .string s ∧ s.size ≤ maxLen

def Fits : List Kd → List Value → Prop
  | [], [] => True
  | k :: ks, v :: vs => Fit k v ∧ Fits ks vs
  | _, _ => False

theorem Fits.length : ∀ {ks : List Kd} {vs : List Value}, Fits ks vs → vs.length = ks.length
  | [], [], _ => rfl
  | _ :: _, _ :: _, h => by simp [Fits.length h.2]
  | [], _ :: _, h => h.elim
  | _ :: _, [], h => h.elim

theorem Fits.append : ∀ {ks ls : List Kd} {vs us : List Value}, Fits ks vs → Fits ls us → Fits (ks ++ ls) (vs ++ us)
  | [], _, [], _, _, k => k
  | _ :: _, _, _ :: _, _, h, k => ⟨h.1, Fits.append h.2 k⟩
  | [], _, _ :: _, _, h, _ => h.elim
  | _ :: _, _, [], _, h, _ => h.elim

mutual
/-- A type's cells, laid flat. -/
def flat (P : Program) : Nat → TypeId → Option (List Kd)
  | 0, _ => none
  | n + 1, t => match P.underlying t with
    | some (.int k) => some [.num k]
    | some .bool => some [.yes]
    | some .string => some [.text]
    | some (.array m e) => match flat P n e with
      | some ks => if ks.length = P.cellsOf e ∧ m * ks.length = P.cellsOf t then some (List.replicate m ks).flatten else none
      | none => none
    | some (.struct fs) => match flatFields P n 0 fs.toList with
      | some ks => if ks.length = P.cellsOf t then some ks else none
      | none => none
    | _ => none
def flatFields (P : Program) : Nat → Nat → List Field → Option (List Kd)
  | _, _, [] => some []
  | 0, _, _ :: _ => none
  | n + 1, o, f :: fs => if f.offset = o then match flat P n f.type with
      | some ks => match flatFields P n (o + ks.length) fs with
        | some ls => some (ks ++ ls)
        | none => none
      | none => none
    else none
end

theorem take_of_length {α : Type} {l : List α} {c m : Nat} (h : (l.take c).length = m) : l.take m = l.take c := by
  rw [List.length_take] at h
  subst h
  rw [List.take_eq_take_iff]; omega

section
variable {H : Type} {enc : TypeId × Value → H} {P : Program} {w : World} {base : Nat} {spare : Nat → Bool} {held : Bool}

theorem fits_rep {ks : List Kd} {c : Nat} (hc : ks.length = c) : ∀ (m : Nat) (cs : List Value), (∀ i, i < m → Fits ks ((cs.drop (i * c)).take c)) → Fits (List.replicate m ks).flatten (cs.take (m * c))
  | 0, cs, _ => by simp [Fits]
  | m + 1, cs, h => by
    rw [List.replicate_succ, List.flatten_cons, show (m + 1) * c = c + m * c by rw [Nat.add_mul]; omega, List.take_add]
    refine Fits.append (by simpa using h 0 (by omega)) (fits_rep hc m (cs.drop c) fun i hi => ?_)
    have := h (i + 1) (by omega)
    rw [List.drop_drop]
    rwa [show (i + 1) * c = c + i * c by rw [Nat.add_mul]; omega] at this

mutual
theorem fits_flat : ∀ (n : Nat) {m : Nat} {t : TypeId} {cs : List Value} {x : DataW H × List MemPlace} {ks : List Kd}, flat P n t = some ks → DataW.trod enc P w base spare held m t cs = some x → Fits ks cs
  | 0, _, _, _, _, _, hf, _ => by simp [flat] at hf
  | n + 1, m, t, cs, x, ks, hf, h => by
    unfold flat at hf
    split at hf
    · rename_i k hu
      obtain ⟨v, rfl, _, hw⟩ := DataW.trod_int hu h
      obtain rfl := Option.some.inj hf
      exact ⟨⟨v, rfl, hw⟩, trivial⟩
    · rename_i hu
      obtain ⟨v, rfl, _⟩ := DataW.trod_bool hu h
      obtain rfl := Option.some.inj hf
      exact ⟨⟨v, rfl⟩, trivial⟩
    · rename_i hu
      obtain ⟨v, rfl, _, hw⟩ := DataW.trod_string hu h
      obtain rfl := Option.some.inj hf
      exact ⟨⟨v, rfl, hw⟩, trivial⟩
    · rename_i k e hu
      split at hf
      · rename_i ls hl
        split at hf
        · rename_i hc
          obtain rfl := Option.some.inj hf
          obtain ⟨xs, m', _, _, hlen, hxs, hi⟩ := DataW.trod_array hu h
          have := fits_rep hc.1 k cs fun i hik => by
            have h2 := hi i hik
            rw [List.getElem?_eq_getElem (by omega)] at h2
            exact fits_flat n hl h2
          rw [← hc.1, List.take_of_length_le (by omega)] at this
          exact this
        · cases hf
      · cases hf
    · rename_i fs hu
      split at hf
      · rename_i ls hl
        split at hf
        · rename_i hc
          obtain rfl := Option.some.inj hf
          obtain ⟨xs, m', _, _, hlen, hxs, hi⟩ := DataW.trod_struct hu h
          have := fits_fields n 0 fs.toList (cs := cs) (m := m') hl fun f hfm => by
            obtain ⟨i, hi1, hi2⟩ := List.getElem_of_mem hfm
            have h2 := hi i f (by rw [Array.getElem?_eq_getElem (by simpa using hi1)]; simpa using hi2)
            rw [List.getElem?_eq_getElem (by rw [hxs]; simpa using hi1)] at h2
            exact ⟨_, h2⟩
          rw [List.drop_zero, List.take_of_length_le (by omega)] at this
          exact this
        · cases hf
      · cases hf
    · cases hf
theorem fits_fields : ∀ (n o : Nat) (fs : List Field) {m : Nat} {cs : List Value} {ks : List Kd}, flatFields P n o fs = some ks →
    (∀ f ∈ fs, ∃ x, DataW.trod enc P w base spare held m f.type ((cs.drop f.offset).take (P.cellsOf f.type)) = some x) → Fits ks ((cs.drop o).take ks.length)
  | 0, _, [], _, _, _, hf, _ => by
    simp [flatFields] at hf
    subst hf
    exact trivial
  | n + 1, _, [], _, _, _, hf, _ => by
    simp [flatFields] at hf
    subst hf
    exact trivial
  | 0, _, _ :: _, _, _, _, hf, _ => by simp [flatFields] at hf
  | n + 1, o, f :: fs, m, cs, ks, hf, h => by
    unfold flatFields at hf
    split at hf
    · rename_i ho
      split at hf
      · rename_i ls hl
        split at hf
        · rename_i rs hr
          obtain rfl := Option.some.inj hf
          obtain ⟨x, hx⟩ := h f List.mem_cons_self
          have h1 := fits_flat n hl hx
          rw [ho] at h1
          have h2 := fits_fields n (o + ls.length) fs (cs := cs) hr fun g hg => h g (List.mem_cons_of_mem _ hg)
          rw [← List.drop_drop] at h2
          rw [List.length_append, List.take_add]
          refine Fits.append ?_ h2
          rw [take_of_length h1.length]
          exact h1
        · cases hf
      · cases hf
    · cases hf
end

/-- A struct (or an array) by value: its cells. -/
theorem open_flat {r : Reach} {b0 : Nat} {t : TypeId} {fs : Array Field} {v : Value} {d : DataW H} {p : List MemPlace} {ks : List Kd} (hs : P.underlying t = some (.struct fs)) (n : Nat) (hk : flat P n t = some ks)
    (hv : Value.okWide P w r b0 t v) (h : DataW.Trod enc P w base spare held t v d p) : ∃ cs : Array Value, v = .agg cs ∧ Fits ks cs.toList := by
  obtain ⟨cs, rfl, _⟩ := okWide_struct hs hv
  obtain ⟨fuel, hf⟩ := h
  exact ⟨cs, rfl, fits_flat n hk hf⟩
end

theorem Fits.cons {k : Kd} {ks : List Kd} {vs : List Value} (h : Fits (k :: ks) vs) : ∃ v us, vs = v :: us ∧ Fit k v ∧ Fits ks us := by
  cases vs with
  | nil => exact h.elim
  | cons v us => exact ⟨v, us, rfl, h.1, h.2⟩
theorem Fits.nil {vs : List Value} (h : Fits [] vs) : vs = [] := by
  cases vs with
  | nil => rfl
  | cons v us => exact h.elim

theorem fits7 {k : IntKind} {cs : Array Value} (h : Fits [.num k, .num k, .num k, .num k, .num k, .num k, .num k] cs.toList) :
    ∃ a b c d e f g : Int, cs = #[.int k a, .int k b, .int k c, .int k d, .int k e, .int k f, .int k g] := by
  obtain ⟨l⟩ := cs
  obtain ⟨_, _, e1, ⟨a, rfl, _⟩, h⟩ := h.cons
  obtain ⟨_, _, e2, ⟨b, rfl, _⟩, h⟩ := h.cons
  obtain ⟨_, _, e3, ⟨c, rfl, _⟩, h⟩ := h.cons
  obtain ⟨_, _, e4, ⟨d, rfl, _⟩, h⟩ := h.cons
  obtain ⟨_, _, e5, ⟨e, rfl, _⟩, h⟩ := h.cons
  obtain ⟨_, _, e6, ⟨f, rfl, _⟩, h⟩ := h.cons
  obtain ⟨_, _, e7, ⟨g, rfl, _⟩, h⟩ := h.cons
  have e8 := h.nil
  subst e8 e7 e6 e5 e4 e3 e2
  exact ⟨a, b, c, d, e, f, g, by rw [show l = _ from e1]⟩

theorem fits2 {k : IntKind} {cs : Array Value} (h : Fits [.num k, .num k] cs.toList) : ∃ a b : Int, cs = #[.int k a, .int k b] := by
  obtain ⟨l⟩ := cs
  obtain ⟨_, _, e1, ⟨a, rfl, _⟩, h⟩ := h.cons
  obtain ⟨_, _, e2, ⟨b, rfl, _⟩, h⟩ := h.cons
  have e3 := h.nil
  subst e3 e2
  exact ⟨a, b, by rw [show l = _ from e1]⟩

theorem bcell {W w1 : World} (hb : Below W.heap.size W w1) : (∀ b o, b < W.heap.size → w1.cell? ⟨b, o, none⟩ = W.cell? ⟨b, o, none⟩) ∧ (∀ b o, b < W.heap.size → w1.frozen? ⟨b, o, none⟩ = W.frozen? ⟨b, o, none⟩) :=
  ⟨fun b o h => hb.cell (p := ⟨b, o, none⟩) h, fun b o h => hb.frozen (p := ⟨b, o, none⟩) h⟩

end Go.Proofs.YtklopjbpfddgfaaGreat

/- Worlds that hold below a block what a world held: the class in which one walk of a region serves every order, where its callees make memory of their own. -/
namespace Go.Proofs.YtklopjbpfddgfaaGreat
open Go.RowKit
set_option linter.unusedVariables false

/-- A world in which all that W held stands as it stood. -/
structure Hat (W : World) where
  w : World
  h : Below W.heap.size W w

instance (W : World) : Nonempty (Hat W) := ⟨⟨W, Below.refl _ _⟩⟩

/-- New blocks alone. -/
def New (w w' : World) : Prop := Below w.heap.size w w'
theorem New.refl (w : World) : New w w := Below.refl _ _
theorem New.trans {a b c : World} (h : New a b) (k : New b c) : New a c := Below.trans h (Below.mono k h.size)
theorem New.alloc {a w : World} (h : New a w) (o : Obj) : New a (w.alloc o) := Below.alloc h h.size o
theorem New.drew {a w : World} (h : New a w) : New a w.drew := Below.drew h
theorem New.drewN {a w : World} (h : New a w) (n : Nat) : New a (w.drewN n) := ⟨h.os, h.tape, h.output, h.size, h.block⟩
theorem New.setCell {a w : World} (h : New a w) {p : Addr} (hp : a.heap.size ≤ p.block) (u : Value) : New a (w.setCell p u) := Below.setCell h hp u
theorem New.setB {a w : World} {p : Addr} (hp : a.heap.size ≤ p.block) (h : New a w) (u : Value) : New a (w.setCell p u) := h.setCell hp u
theorem New.snart {a b c : World} (k : New b c) (h : New a b) : New a c := h.trans k
theorem New.hat {a W : World} (h : New a W) (x : Hat W) : New a x.w := h.trans x.h
theorem New.size {a w : World} (h : New a w) : a.heap.size ≤ w.heap.size := Below.size h
theorem New.cell {a w : World} (h : New a w) (b o : Nat) (hb : b < a.heap.size) : w.cell? ⟨b, o, none⟩ = a.cell? ⟨b, o, none⟩ := Below.cell h (p := ⟨b, o, none⟩) hb
theorem New.frozen {a w : World} (h : New a w) (b o : Nat) (hb : b < a.heap.size) : w.frozen? ⟨b, o, none⟩ = a.frozen? ⟨b, o, none⟩ := Below.frozen h (p := ⟨b, o, none⟩) hb

/-- A cell that is there stays. -/
theorem New.keep {a w : World} (h : New a w) {b o : Nat} {v : Value} (hc : a.cell? ⟨b, o, none⟩ = some v) : w.cell? ⟨b, o, none⟩ = some v :=
  (h.cell b o (World.block_lt_of_cell? a ⟨b, o, none⟩ hc)).trans hc
theorem New.keepF {a w : World} (h : New a w) {b o : Nat} {v : Value} (hc : a.cell? ⟨b, o, none⟩ = some v) {f : Bool} (hf : a.frozen? ⟨b, o, none⟩ = f) : w.frozen? ⟨b, o, none⟩ = f :=
  (h.frozen b o (World.block_lt_of_cell? a ⟨b, o, none⟩ hc)).trans hf

/-- For a region with calls that make memory: what each world on its way holds. -/
theorem keeps {W w : World} (h : New W w) : New W w ∧ ∀ b o, (W.cell? ⟨b, o, none⟩).isSome = true → w.cell? ⟨b, o, none⟩ = W.cell? ⟨b, o, none⟩ :=
  ⟨h, fun b o hb => by obtain ⟨v, hv⟩ := Option.isSome_iff_exists.1 hb; rw [hv]; exact h.keep hv⟩
theorem keepsF {W w : World} (h : New W w) : ∀ b o, (W.cell? ⟨b, o, none⟩).isSome = true → w.frozen? ⟨b, o, none⟩ = W.frozen? ⟨b, o, none⟩ :=
  fun b o hb => by obtain ⟨v, hv⟩ := Option.isSome_iff_exists.1 hb; exact h.keepF hv rfl

/-- What a world of the class holds: lay it ahead of the region. -/
theorem hat_cell {W : World} (x : Hat W) (b o : Nat) (h : (W.cell? ⟨b, o, none⟩).isSome = true) : x.w.cell? ⟨b, o, none⟩ = W.cell? ⟨b, o, none⟩ := (keeps x.h).2 b o h
theorem hat_frozen {W : World} (x : Hat W) (b o : Nat) (h : (W.cell? ⟨b, o, none⟩).isSome = true) : x.w.frozen? ⟨b, o, none⟩ = W.frozen? ⟨b, o, none⟩ := keepsF x.h b o h

/-- The world under a name. -/
theorem Calls.at {P : Program} {f : FuncId} {args : Array Value} {w : World} {Q : Ending → World → Prop} (h : ∀ W, W = w → Calls P f args W Q) : Calls P f args w Q := h w rfl
theorem Code.at {P : Program} {s : Code} {Q : Exit → Act → World → Prop} {a : Act} {w : World} (h : ∀ W, W = w → s.wp P Q a W) : s.wp P Q a w := h w rfl

/-- A callee that makes memory of its own alone, met in a world of the class. -/
theorem Calls.hat {P : Program} {f : FuncId} {args : Array Value} {W : World} {x : Hat W} {v : Value}
    (h : Calls P f args x.w fun e w' => e = .returned v ∧ New x.w w') : Calls P f args x.w fun e w'' => e = .returned v ∧ ∃ y : Hat W, w'' = y.w :=
  h.mono fun _ w'' ⟨he, hn⟩ => ⟨he, ⟨w'', Below.trans x.h (Below.mono hn x.h.size)⟩, rfl⟩
/-- .. that leaves the world as it is. -/
theorem Calls.hat_same {P : Program} {f : FuncId} {args : Array Value} {W : World} {x : Hat W} {v : Value}
    (h : Calls P f args x.w fun e w' => e = .returned v ∧ x.w = w') : Calls P f args x.w fun e w'' => e = .returned v ∧ ∃ y : Hat W, w'' = y.w :=
  h.mono fun _ _ ⟨he, hn⟩ => ⟨he, x, hn.symm⟩

theorem Calls.hat_b {P : Program} {f : FuncId} {args : Array Value} {W : World} {x : Hat W} {b b' : Bool} (hb : b = b')
    (h : Calls P f args x.w fun e w' => e = .returned (.bool b) ∧ New x.w w') : Calls P f args x.w fun e w'' => e = .returned (.bool b') ∧ ∃ y : Hat W, w'' = y.w := by
  subst hb; exact Calls.hat h
theorem Calls.mild_b {P : Program} {f : FuncId} {args : Array Value} {w : World} {b b' : Bool} (hb : b = b')
    (h : Calls P f args w fun e w' => e = .returned (.bool b) ∧ New w w') : Calls P f args w fun e w' => e = .returned (.bool b') ∧ New w w' := by
  subst hb; exact h
theorem Calls.mild_same {P : Program} {f : FuncId} {args : Array Value} {w : World} {v : Value}
    (h : Calls P f args w fun e w' => e = .returned v ∧ w = w') : Calls P f args w fun e w' => e = .returned v ∧ New w w' :=
  h.mono fun _ _ ⟨he, hn⟩ => ⟨he, by rw [← hn]; exact New.refl _⟩

theorem wp_region_hat {P : Program} {id : Nat} {Q : Exit → Act → World → Prop} {a : Act} {w : World} {l : List Oper} (hm : P.follows .mixedOrders = true) (hB : Region.lexB .any l.toArray = true)
    (h : (∀ (x : Hat w) (b o : Nat), (w.cell? ⟨b, o, none⟩).isSome = true → x.w.cell? ⟨b, o, none⟩ = w.cell? ⟨b, o, none⟩) → (∀ (x : Hat w) (b o : Nat), (w.cell? ⟨b, o, none⟩).isSome = true → x.w.frozen? ⟨b, o, none⟩ = w.frozen? ⟨b, o, none⟩) → wpQuiet P l.toArray (fun w' => ∃ x : Hat w, w' = x.w) (fun a' => ∀ w', (∃ x : Hat w, w' = x.w) → Q .normal a' w') l a) : (Code.region id l.toArray true).wp P Q a w :=
  wp_region_quiet (C := fun w' => ∃ x : Hat w, w' = x.w) hm hB ⟨⟨_, Below.drew (Below.refl _ w)⟩, rfl⟩ (by simpa using h hat_cell hat_frozen)

end Go.Proofs.YtklopjbpfddgfaaGreat
