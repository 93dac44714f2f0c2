/- A region that draws its order, in a round of a range over a function, whose operations only read: one walk of the text's order serves all. -/
import Derived.OrdersIn
import Derived.Deep.Quiet
import Derived.TacticsIn
import Derived.TacticsInMore
import Derived.BigQuiet
namespace Go.PlainIn
open Go
set_option linter.unusedVariables false
open Go.RowKit

/-- Operations that call no Go function. -/
def _root_.Go.Oper.plainB (o : Oper) : Bool :=
  match o.op with
  | .move _ | .assign _ | .pick _ _ _ | .load _ _ | .binOp _ _ _ _ _ | .indexAddr _ _ _ | .fieldAddr _ _ _ => true
  | .call c => match c.callee with
    | .builtin .len => true
    | _ => false
  | _ => false

theorem run_value_only {α : Type} {P : Program} {w : World} (s : Sem α) (k : α → Value) {f : FuncId} {args : Array Value} {w' : World} : (Sem.run P (s >>= fun a => (pure (Next.value (k a)) : Sem Next)) w) ≠ .ok (.enter f args) w' := by
  intro h
  simp at h
  cases hs : Sem.run P s w with
  | ok v w1 => rw [hs] at h; simp [Result.andThen] at h
  | halt x w1 => rw [hs] at h; simp [Result.andThen] at h

theorem plain_enter {P : Program} {o : Oper} (hp : o.plainB = true) (ρ : Operand → Value) (w : World) {f : FuncId} {args : Array Value} {w' : World} : (execOp ρ o).run P w ≠ .ok (.enter f args) w' := by
  unfold Oper.plainB at hp
  unfold execOp
  split at hp <;> rename_i ho <;> simp only [ho]
  · simp
  · simp
  · exact run_value_only _ _
  · exact run_value_only _ _
  · exact run_value_only _ _
  · exact run_value_only _ _
  · exact run_value_only _ _
  · split at hp
    · rename_i hc
      simp only [resolve, hc]
      intro h
      simp [invoke, builtin] at h
      cases hs : Sem.run P (Builtin.len_ _ _ _) w with
      | ok v w1 => rw [hs] at h; simp [Result.andThen] at h
      | halt x w1 => rw [hs] at h; simp [Result.andThen] at h
    · cases hp
  · cases hp

theorem plain_about {P : Program} {o : Oper} (hp : o.plainB = true) (ρ : Operand → Value) (w : World) : o.about P w ρ = none := by
  unfold Oper.plainB at hp
  unfold Oper.about
  split at hp <;> rename_i ho <;> simp only [ho]
  · split at hp
    · rename_i hc
      simp [resolve, hc, Target.leads]
    · cases hp

theorem plain_defer {o : Oper} (hp : o.plainB = true) : ∀ c, o.op ≠ .defer c := fun c e => by
  unfold Oper.plainB at hp
  rw [e] at hp
  cases hp

section
variable {F : Fence} {n : Nat} {P : Program} {ops : Array Oper} {md : Region.Mode} {C : World → Prop}

theorem semAt_plain {o : Oper} (hp : o.plainB = true) (r : Option Nat) (ρ : Operand → Value) : Oper.semAt r ρ o = execOp ρ o := by
  cases r with
  | none => rfl
  | some l => exact Oper.semAt_some l ρ o (plain_defer hp)

theorem wpIn_of_quiet' {o : Oper} (hp : o.plainB = true) {a : Act} {K : Act → Prop} {K' : Act → World → Prop} {Q' : Exit → Act → World → Prop} {w : World} (hw : C w) (h : ∀ a w', C w' → K a → K' a w') (hh : o.quiet P a C K) : o.wpIn F n P a w K' Q' := by
  obtain ⟨v, h1, h2⟩ := hh
  have h3 := h1 w hw
  refine ⟨fun f hf => (by rw [plain_about hp] at hf; cases hf), ?_⟩
  rw [semAt_plain hp]
  unfold Oper.quietAt at h3
  have hne := fun f args w' => plain_enter (P := P) hp a.eval w (f := f) (args := args) (w' := w')
  generalize (execOp a.eval o).run P w = r at *
  cases r with
  | ok x w' =>
    cases x <;> simp only [Oper.quietUpon] at h3
    case value u =>
      obtain ⟨e1, e2⟩ := h3
      rw [Oper.uponIn_value, e1, e2]
      exact h _ _ hw h2
    case skip =>
      obtain ⟨e1, e2⟩ := h3
      rw [Oper.uponIn_skip, e1, ← e2]
      exact h _ _ hw h2
    case enter f args => exact absurd rfl (hne f args w')
  | halt x w' => simp only [Oper.quietUpon] at h3

theorem wpOpIn_of_qOp (hP : ∀ (i : Nat) (o : Oper), ops[i]? = some o → o.plainB = true) {i : Nat} {a : Act} {K : Act → Prop} {K' : Act → World → Prop} {Q' : Exit → Act → World → Prop} {w : World} (hC : C w) (h : ∀ a w', C w' → K a → K' a w') (hh : qOp P ops C i K a) : wpOpIn F n P ops Q' i K' a w := by
  unfold qOp at hh
  unfold wpOpIn
  split
  · rename_i ho; simp only [ho] at hh; exact h _ _ hC hh
  · rename_i o ho
    simp only [ho] at hh
    split
    · rename_i hw; simp only [hw, if_true] at hh; exact wpIn_of_quiet' (hP i o ho) hC h hh
    · rename_i hw
      simp only [hw] at hh
      exact ⟨fun f hf => (by rw [plain_about (hP i o ho)] at hf; cases hf), h _ _ hC hh⟩

theorem wpAnyIn_of_quiet (hP : ∀ (i : Nat) (o : Oper), ops[i]? = some o → o.plainB = true) {Q : Act → Prop} {Q' : Exit → Act → World → Prop} (hQ : ∀ a w, C w → Q a → Q' .normal a w) : ∀ (fuel : Nat) (listed : Array Bool) (a : Act) (w : World), C w →
    wpAnyQ P md ops C Q fuel listed a → wpAnyIn F n P md ops Q' fuel listed a w
  | 0, _, _, _, hw, h => ⟨h.1, hQ _ _ hw h.2⟩
  | fuel + 1, _, _, _, hw, h => ⟨fun h0 => hQ _ _ hw (h.1 h0), fun i hi => wpOpIn_of_qOp hP hw (fun a' w' hw' => wpAnyIn_of_quiet hP hQ fuel _ a' w' hw') (h.2 i hi)⟩

theorem wpIn_region_quiet_lit {id : Nat} {Q : Exit → Act → World → Prop} {a : Act} {w : World} {l : List Oper} (hm : P.follows .mixedOrders = true) (hB : Region.lexB .any l.toArray = true) (hP : l.all Oper.plainB = true)
    (h : wpQuiet P l.toArray (fun w' => ∃ k, w' = w.drewN k) (fun a' => ∀ w', (∃ k, w' = w.drewN k) → Q .normal a' w') l a) : (Code.region id l.toArray true).wpIn F n P Q a w := by
  have hP' : ∀ (i : Nat) (o : Oper), l.toArray[i]? = some o → o.plainB = true := fun i o ho => by
    have h1 : o ∈ l := by
      rw [List.getElem?_toArray] at ho
      exact List.mem_of_getElem? ho
    exact List.all_eq_true.1 hP o h1
  simp only [Region.lexB, Bool.and_eq_true] at hB
  refine wpIn_region_any hm (wpAnyIn_of_quiet hP' (Q := fun a' => ∀ w', (∃ k, w' = w.drewN k) → Q .normal a' w') (fun _ w' hw' h => h w' hw') _ _ _ _ (C := fun w' => ∃ k, w' = w.drewN k) ⟨1, rfl⟩ ?_)
  have := wpAnyQ_lex (C := fun w' => ∃ k, w' = w.drewN k) (md := .any) hB.1 l 0 (Array.replicate l.toArray.size false) a (by simp) (by simpa using hB.2) h
  simpa using this
end

end Go.PlainIn
