import Derived.Test.YtgoggogcbjfofaaDoorFdPbY14
import Derived.Orders

/- A region's list parted in two: what holds behind the first part. -/
namespace Go.Proofs.YtgoggogcbjfofaaDoor
open Go.RowKit
set_option linter.unusedVariables false

section
variable {P : Program} {ops : Array Oper} {Q Q2 : Exit → Act → World → Prop}
theorem wp_exit {o : Oper} {a : Act} {w : World} {K : Act → World → Prop} (hq : ∀ e a w, e ≠ .normal → Q2 e a w → Q e a w) (h : o.wp P a w K Q2) : o.wp P a w K Q := by
  unfold Oper.wp at *
  generalize (execOp a.eval o).run P w = r at *
  cases r with
  | ok nx w' =>
    cases nx with
    | value v => exact h
    | skip => exact h
    | defer d => exact h
    | enter f args =>
      refine Calls.mono h ?_
      intro e w'' q
      cases e with
      | returned v => exact q
      | panicked chain => exact hq _ _ _ (by simp) q
      | outgrown =>
        obtain ⟨a1, w1, q⟩ := q
        exact ⟨a1, w1, hq _ _ _ (by simp) q⟩
    | row r args => exact h
    | _ => exact h
  | halt x w' =>
    cases x with
    | panic v => exact hq _ _ _ (by simp) h
    | _ => exact h
/-- The list's first part, and what then holds. -/
def Stops (Q : Exit → Act → World → Prop) (R : Act → World → Prop) : Exit → Act → World → Prop := fun e a w => match e with | .normal => R a w | e => Q e a w
theorem stops_exit {R : Act → World → Prop} : ∀ e a w, e ≠ .normal → Stops Q R e a w → Q e a w := by
  intro e a w hn h
  cases e <;> first | exact absurd rfl hn | exact h
theorem wpList_split (R : Act → World → Prop) {ys : List Oper} (hR : ∀ a w, R a w → wpList P ops Q ys a w) : ∀ (xs : List Oper) (a : Act) (w : World), wpList P ops (Stops Q R) xs a w → wpList P ops Q (xs ++ ys) a w
  | [], a, w, h => hR a w h
  | o :: xs, a, w, h => by
    have ih := wpList_split R hR xs
    rw [List.cons_append]
    unfold wpList at h ⊢
    split at h
    · rename_i hw
      rw [if_pos hw]
      rcases h with h | ⟨h, a1, w1, q⟩
      · exact Or.inl (wp_exit stops_exit (Oper.wp_mono (fun a w q => ih a w q) h))
      · exact Or.inr ⟨h, a1, w1, stops_exit _ _ _ (by simp) q⟩
    · rename_i hw
      rw [if_neg hw]
      exact ih _ _ h
/-- What holds behind a stretch of a list that writes the slots from k on and leaves the world: the last is a bool. -/
def Grp9 (k : Nat) (C : Prop) (a : Act) (w : World) (a' : Act) (w' : World) : Prop := w = w' ∧ ∃ (u0 u1 u2 u3 u4 u5 u6 u7 u8 : Value) (f : Bool), a' = (((((((((a.put (some (k + 0)) u0).put (some (k + 1)) u1).put (some (k + 2)) u2).put (some (k + 3)) u3).put (some (k + 4)) u4).put (some (k + 5)) u5).put (some (k + 6)) u6).put (some (k + 7)) u7).put (some (k + 8)) u8).put (some (k + 9)) (.bool f) ∧ (f = true → C)
def Grp13 (k : Nat) (C : Prop) (a : Act) (w : World) (a' : Act) (w' : World) : Prop := w = w' ∧ ∃ (u0 u1 u2 u3 u4 u5 u6 u7 u8 u9 u10 u11 u12 : Value) (f : Bool), a' = (((((((((((((a.put (some (k + 0)) u0).put (some (k + 1)) u1).put (some (k + 2)) u2).put (some (k + 3)) u3).put (some (k + 4)) u4).put (some (k + 5)) u5).put (some (k + 6)) u6).put (some (k + 7)) u7).put (some (k + 8)) u8).put (some (k + 9)) u9).put (some (k + 10)) u10).put (some (k + 11)) u11).put (some (k + 12)) u12).put (some (k + 13)) (.bool f) ∧ (f = true → C)
def Grp10 (k : Nat) (C : Prop) (a : Act) (w : World) (a' : Act) (w' : World) : Prop := w = w' ∧ ∃ (u0 u1 u2 u3 u4 u5 u6 u7 u8 u9 : Value) (f : Bool), a' = ((((((((((a.put (some (k + 0)) u0).put (some (k + 1)) u1).put (some (k + 2)) u2).put (some (k + 3)) u3).put (some (k + 4)) u4).put (some (k + 5)) u5).put (some (k + 6)) u6).put (some (k + 7)) u7).put (some (k + 8)) u8).put (some (k + 9)) u9).put (some (k + 10)) (.bool f) ∧ (f = true → C)
theorem wpList_cut (n : Nat) (R : Act → World → Act → World → Prop) {l : List Oper} {a : Act} {w : World} (hx : wpList P ops (Stops Q (R a w)) (l.take n) a w) (hR : ∀ a' w', R a w a' w' → wpList P ops Q (l.drop n) a' w') : wpList P ops Q l a w := by
  have h := wpList_split (R a w) hR (l.take n) a w hx
  rwa [List.take_append_drop] at h
end

end Go.Proofs.YtgoggogcbjfofaaDoor
