/- The same class of worlds where a statement's order is fixed. -/
import Derived.Test.YtgoggogcbjfofaaDoorHat
namespace Go.Proofs.YtgoggogcbjfofaaDoor
open Go.RowKit
set_option linter.unusedVariables false

theorem wpList_of_quiet {P : Program} {ops : Array Oper} {C : World → Prop} {Q : Exit → Act → World → Prop} : ∀ (l : List Oper) (a : Act) (w : World), C w → wpQuiet P ops C (fun a' => ∀ w', C w' → Q .normal a' w') l a → wpList P ops Q l a w
  | [], _, _, hw, h => h _ hw
  | o :: l, a, w, hw, h => by
    unfold wpQuiet at h
    unfold wpList
    split
    · rename_i hwant
      rw [if_pos hwant] at h
      exact .inl (Oper.wp_of_quiet hw (fun a' w' hw' hk => wpList_of_quiet l a' w' hw' hk) h)
    · rename_i hwant
      rw [if_neg hwant] at h
      exact wpList_of_quiet l _ w hw h

theorem wp_region_hats {P : Program} {id : Nat} {Q : Exit → Act → World → Prop} {a : Act} {w : World} {l : List Oper}
    (h : (∀ (x : Hat w) (b o : Nat), (w.cell? ⟨b, o, none⟩).isSome = true → x.w.cell? ⟨b, o, none⟩ = w.cell? ⟨b, o, none⟩) → (∀ (x : Hat w) (b o : Nat), (w.cell? ⟨b, o, none⟩).isSome = true → x.w.frozen? ⟨b, o, none⟩ = w.frozen? ⟨b, o, none⟩) → wpQuiet P l.toArray (fun w' => ∃ x : Hat w, w' = x.w) (fun a' => ∀ w', (∃ x : Hat w, w' = x.w) → Q .normal a' w') l a) : (Code.region id l.toArray false).wp P Q a w :=
  wp_region_lit (wpList_of_quiet l a w ⟨⟨w, Below.refl _ w⟩, rfl⟩ (h hat_cell hat_frozen))

end Go.Proofs.YtgoggogcbjfofaaDoor
