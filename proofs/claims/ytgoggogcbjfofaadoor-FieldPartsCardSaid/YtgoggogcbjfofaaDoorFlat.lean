/- Values of plain types laid flat: of a value that can be read as data, what each of its cells holds. No function of the program in sight. -/
import Derived.Test.YtgoggogcbjfofaaDoorRows
import Derived.ProofKit
import Derived.OpenShut
namespace Go.Proofs.YtgoggogcbjfofaaDoor
open Go.ChangeShapes Go.WideShapes Go.RowKit

/-- What a cell may hold. -/
inductive Kd where
  | num (k : IntKind)
  | yes
  | text

def Fit : Kd → Value → Prop
  | .num k, v => ∃ n : Int, v = .int k n ∧ (Lit.int k n).wf = true
  | .yes, v => ∃ b : Bool, v = .bool b
  | .text, v => ∃ s : ByteArray, v = .string s ∧ s.size ≤ maxLen

def Fits : List Kd → List Value → Prop
  | [], [] => True
  | k :: ks, v :: vs => Fit k v ∧ Fits ks vs
  | _, _ => False

theorem Fits.length : ∀ {ks : List Kd} {vs : List Value}, Fits ks vs → vs.length = ks.length
  | [], [], _ => rfl
  | _ :: _, _ :: _, h => by simp [Fits.length h.2]
  | [], _ :: _, h => h.elim
  | _ :: _, [], h => h.elim

theorem Fits.append : ∀ {ks ls : List Kd} {vs us : List Value}, Fits ks vs → Fits ls us → Fits (ks ++ ls) (vs ++ us)
  | [], _, [], _, _, k => k
  | _ :: _, _, _ :: _, _, h, k => ⟨h.1, Fits.append h.2 k⟩
  | [], _, _ :: _, _, h, _ => h.elim
  | _ :: _, _, [], _, h, _ => h.elim

mutual
/-- A type's cells, laid flat. -/
def flat (P : Program) : Nat → TypeId → Option (List Kd)
  | 0, _ => none
  | n + 1, t => match P.underlying t with
    | some (.int k) => some [.num k]
    | some .bool => some [.yes]
    | some .string => some [.text]
    | some (.array m e) => match flat P n e with
      | some ks => if ks.length = P.cellsOf e ∧ m * ks.length = P.cellsOf t then some (List.replicate m ks).flatten else none
      | none => none
    | some (.struct fs) => match flatFields P n 0 fs.toList with
      | some ks => if ks.length = P.cellsOf t then some ks else none
      | none => none
    | _ => none
def flatFields (P : Program) : Nat → Nat → List Field → Option (List Kd)
  | _, _, [] => some []
  | 0, _, _ :: _ => none
  | n + 1, o, f :: fs => if f.offset = o then match flat P n f.type with
      | some ks => match flatFields P n (o + ks.length) fs with
        | some ls => some (ks ++ ls)
        | none => none
      | none => none
    else none
end

theorem take_of_length {α : Type} {l : List α} {c m : Nat} (h : (l.take c).length = m) : l.take m = l.take c := by
  rw [List.length_take] at h
  subst h
  rw [List.take_eq_take_iff]; omega

section
variable {H : Type} {enc : TypeId × Value → H} {P : Program} {w : World} {base : Nat} {spare : Nat → Bool} {held : Bool}

theorem fits_rep {ks : List Kd} {c : Nat} (hc : ks.length = c) : ∀ (m : Nat) (cs : List Value), (∀ i, i < m → Fits ks ((cs.drop (i * c)).take c)) → Fits (List.replicate m ks).flatten (cs.take (m * c))
  | 0, cs, _ => by simp [Fits]
  | m + 1, cs, h => by
    rw [List.replicate_succ, List.flatten_cons, show (m + 1) * c = c + m * c by rw [Nat.add_mul]; omega, List.take_add]
    refine Fits.append (by simpa using h 0 (by omega)) (fits_rep hc m (cs.drop c) fun i hi => ?_)
    have := h (i + 1) (by omega)
    rw [List.drop_drop]
    rwa [show (i + 1) * c = c + i * c by rw [Nat.add_mul]; omega] at this

mutual
theorem fits_flat : ∀ (n : Nat) {m : Nat} {t : TypeId} {cs : List Value} {x : DataW H × List MemPlace} {ks : List Kd}, flat P n t = some ks → DataW.trod enc P w base spare held m t cs = some x → Fits ks cs
  | 0, _, _, _, _, _, hf, _ => by simp [flat] at hf
  | n + 1, m, t, cs, x, ks, hf, h => by
    unfold flat at hf
    split at hf
    · rename_i k hu
      obtain ⟨v, rfl, _, hw⟩ := DataW.trod_int hu h
      obtain rfl := Option.some.inj hf
      exact ⟨⟨v, rfl, hw⟩, trivial⟩
    · rename_i hu
      obtain ⟨v, rfl, _⟩ := DataW.trod_bool hu h
      obtain rfl := Option.some.inj hf
      exact ⟨⟨v, rfl⟩, trivial⟩
    · rename_i hu
      obtain ⟨v, rfl, _, hw⟩ := DataW.trod_string hu h
      obtain rfl := Option.some.inj hf
      exact ⟨⟨v, rfl, hw⟩, trivial⟩
    · rename_i k e hu
      split at hf
      · rename_i ls hl
        split at hf
        · rename_i hc
          obtain rfl := Option.some.inj hf
          obtain ⟨xs, m', _, _, hlen, hxs, hi⟩ := DataW.trod_array hu h
          have := fits_rep hc.1 k cs fun i hik => by
            have h2 := hi i hik
            rw [List.getElem?_eq_getElem (by omega)] at h2
            exact fits_flat n hl h2
          rw [← hc.1, List.take_of_length_le (by omega)] at this
          exact this
        · cases hf
      · cases hf
    · rename_i fs hu
      split at hf
      · rename_i ls hl
        split at hf
        · rename_i hc
          obtain rfl := Option.some.inj hf
          obtain ⟨xs, m', _, _, hlen, hxs, hi⟩ := DataW.trod_struct hu h
          have := fits_fields n 0 fs.toList (cs := cs) (m := m') hl fun f hfm => by
            obtain ⟨i, hi1, hi2⟩ := List.getElem_of_mem hfm
            have h2 := hi i f (by rw [Array.getElem?_eq_getElem (by simpa using hi1)]; simpa using hi2)
            rw [List.getElem?_eq_getElem (by rw [hxs]; simpa using hi1)] at h2
            exact ⟨_, h2⟩
          rw [List.drop_zero, List.take_of_length_le (by omega)] at this
          exact this
        · cases hf
      · cases hf
    · cases hf
theorem fits_fields : ∀ (n o : Nat) (fs : List Field) {m : Nat} {cs : List Value} {ks : List Kd}, flatFields P n o fs = some ks →
    (∀ f ∈ fs, ∃ x, DataW.trod enc P w base spare held m f.type ((cs.drop f.offset).take (P.cellsOf f.type)) = some x) → Fits ks ((cs.drop o).take ks.length)
  | 0, _, [], _, _, _, hf, _ => by
    simp [flatFields] at hf
    subst hf
    exact trivial
  | n + 1, _, [], _, _, _, hf, _ => by
    simp [flatFields] at hf
    subst hf
    exact trivial
  | 0, _, _ :: _, _, _, _, hf, _ => by simp [flatFields] at hf
  | n + 1, o, f :: fs, m, cs, ks, hf, h => by
    unfold flatFields at hf
    split at hf
    · rename_i ho
      split at hf
      · rename_i ls hl
        split at hf
        · rename_i rs hr
          obtain rfl := Option.some.inj hf
          obtain ⟨x, hx⟩ := h f List.mem_cons_self
          have h1 := fits_flat n hl hx
          rw [ho] at h1
          have h2 := fits_fields n (o + ls.length) fs (cs := cs) hr fun g hg => h g (List.mem_cons_of_mem _ hg)
          rw [← List.drop_drop] at h2
          rw [List.length_append, List.take_add]
          refine Fits.append ?_ h2
          rw [take_of_length h1.length]
          exact h1
        · cases hf
      · cases hf
    · cases hf
end

/-- A struct (or an array) by value: its cells. -/
theorem open_flat {r : Reach} {b0 : Nat} {t : TypeId} {fs : Array Field} {v : Value} {d : DataW H} {p : List MemPlace} {ks : List Kd} (hs : P.underlying t = some (.struct fs)) (n : Nat) (hk : flat P n t = some ks)
    (hv : Value.okWide P w r b0 t v) (h : DataW.Trod enc P w base spare held t v d p) : ∃ cs : Array Value, v = .agg cs ∧ Fits ks cs.toList := by
  obtain ⟨cs, rfl, _⟩ := okWide_struct hs hv
  obtain ⟨fuel, hf⟩ := h
  exact ⟨cs, rfl, fits_flat n hk hf⟩
end

theorem Fits.cons {k : Kd} {ks : List Kd} {vs : List Value} (h : Fits (k :: ks) vs) : ∃ v us, vs = v :: us ∧ Fit k v ∧ Fits ks us := by
  cases vs with
  | nil => exact h.elim
  | cons v us => exact ⟨v, us, rfl, h.1, h.2⟩
theorem Fits.nil {vs : List Value} (h : Fits [] vs) : vs = [] := by
  cases vs with
  | nil => rfl
  | cons v us => exact h.elim

theorem fits7 {k : IntKind} {cs : Array Value} (h : Fits [.num k, .num k, .num k, .num k, .num k, .num k, .num k] cs.toList) :
    ∃ a b c d e f g : Int, cs = #[.int k a, .int k b, .int k c, .int k d, .int k e, .int k f, .int k g] := by
  obtain ⟨l⟩ := cs
  obtain ⟨_, _, e1, ⟨a, rfl, _⟩, h⟩ := h.cons
  obtain ⟨_, _, e2, ⟨b, rfl, _⟩, h⟩ := h.cons
  obtain ⟨_, _, e3, ⟨c, rfl, _⟩, h⟩ := h.cons
  obtain ⟨_, _, e4, ⟨d, rfl, _⟩, h⟩ := h.cons
  obtain ⟨_, _, e5, ⟨e, rfl, _⟩, h⟩ := h.cons
  obtain ⟨_, _, e6, ⟨f, rfl, _⟩, h⟩ := h.cons
  obtain ⟨_, _, e7, ⟨g, rfl, _⟩, h⟩ := h.cons
  have e8 := h.nil
  subst e8 e7 e6 e5 e4 e3 e2
  exact ⟨a, b, c, d, e, f, g, by rw [show l = _ from e1]⟩

theorem fits2 {k : IntKind} {cs : Array Value} (h : Fits [.num k, .num k] cs.toList) : ∃ a b : Int, cs = #[.int k a, .int k b] := by
  obtain ⟨l⟩ := cs
  obtain ⟨_, _, e1, ⟨a, rfl, _⟩, h⟩ := h.cons
  obtain ⟨_, _, e2, ⟨b, rfl, _⟩, h⟩ := h.cons
  have e3 := h.nil
  subst e3 e2
  exact ⟨a, b, by rw [show l = _ from e1]⟩

theorem bcell {W w1 : World} (hb : Below W.heap.size W w1) : (∀ b o, b < W.heap.size → w1.cell? ⟨b, o, none⟩ = W.cell? ⟨b, o, none⟩) ∧ (∀ b o, b < W.heap.size → w1.frozen? ⟨b, o, none⟩ = W.frozen? ⟨b, o, none⟩) :=
  ⟨fun b o h => hb.cell (p := ⟨b, o, none⟩) h, fun b o h => hb.frozen (p := ⟨b, o, none⟩) h⟩

end Go.Proofs.YtgoggogcbjfofaaDoor
