/- Ranges over a function that goes over a known list: an iterator's contract by places, which an iterator may bear that itself ranges over another one; and the loop over it. -/
import Derived.RangeFuncNested
import Derived.RangeFuncLeaves
namespace Go.Proofs.YtdbhlepbaepngaaDoor
open Go.RowKit
set_option linter.unusedVariables false

theorem keepsFrom_up {B B' : Nat} {W W' : World} (h : KeepsFrom B W W') (hB : B ≤ B') : KeepsFrom B' W W' :=
  ⟨h.size, fun k o hk => h.same k o (Nat.le_trans hB hk)⟩
theorem keepsFrom_put {B l : Nat} {W : World} {o : Obj} (hl : l < B) : KeepsFrom B W (W.putObj l o) :=
  ⟨by simp, fun k o' hk h0 _ => (World.putObj_heap_other (by omega)).trans h0⟩

/-- A block of cells abides what loops do. -/
theorem own_blk {β : Type} (b : Nat) {cs : Array Value} {t : TypeId} {fr : Nat × Nat} (D : Nat) : OwnFrom D (fun (_ : β) W => W.heap[b]? = some (.cells cs t fr)) := fun _ X Y row hs hg hr => by
  refine (hg.block b (Array.getElem?_eq_some_iff.1 hs).1 (fun e' => ?_)).trans hs
  obtain ⟨_, o, ho, hc⟩ := hr b e'.symm
  rw [hs] at ho; cases ho; cases hc
theorem own_pure {β : Type} (B : Nat) (p : β → Prop) : OwnFrom B (fun s (_ : World) => p s) := fun _ _ _ _ hs _ _ => hs

/-- A function that holds a range leaves: the mark is taken in. -/
theorem ret_mark {n : Nat} {P : Program} {fn : Func} {R : Ending → World → Prop} {T : Array Value} {D : Nat} {W : World} (hK : W.heap[D]? = some (.deferred (some [])))
    (h : ∀ W', W' = W.putObj D (.deferred none) → (∀ k, k ≠ D → W'.heap[k]? = W.heap[k]?) → LeavesIn Fence.wide n P fn T R [] .returning W') :
    bodyPostM Fence.wide n P fn R .ret { tmps := T, defers := [{ target := .collected D, args := #[] }] } W :=
  ⟨by simp, .inl ⟨_, _, rfl, run_takeDeferred hK, h _ rfl fun k hk => World.putObj_heap_other hk⟩⟩

/-- The iterator goes over just L: to whatever loop's yield it is handed, from whatever later world; what a round that goes on must keep: all that is no cells and lies at or beyond the world's end at the call (records of loops that the iterator runs itself), and Kp. -/
def SeqL {α : Type} (F : Fence) (n : Nat) (P : Program) (g : Nat) (lb : Array Value) (encs : α → Array Value) (L : List α) (Kp : World → World → Prop) (w : World) : Prop :=
  ∀ (lp : Nat) (J Jx : Nat → World → Prop) (W : World), Below w.heap.size w W → OwnFrom W.heap.size J → OwnFrom W.heap.size Jx →
    (∀ (i : Nat) (h : i < L.length) (W1 : World), J i W1 → YieldAt F (n - 1) P lp (encs L[i]) W1 fun e W' =>
      (e = .returned (.bool true) ∧ KeepsFrom W.heap.size W1 W' ∧ Kp W1 W' ∧ J (i + 1) W') ∨ (e = .returned (.bool false) ∧ KeepsFrom W.heap.size W1 W' ∧ Jx (i + 1) W')) →
    J 0 W →
    CallsIn F n P g (#[.func (.yield lp) #[] #[]] ++ lb) W fun e W' => (∃ v, e = .returned v) ∧ (J L.length W' ∨ ∃ i, 0 < i ∧ i ≤ L.length ∧ Jx i W')

/-- How a round over place i may be left. -/
def roundL (B : Nat) (Kp : World → World → Prop) (I : Nat → World → Prop) (Ix : Code → Nat → World → Prop) (i : Nat) (W : World) : Exit → Act → World → Prop
  | .normal, _, W' => KeepsFrom B W W' ∧ Kp W W' ∧ I (i + 1) W'
  | .ret, _, W' => KeepsFrom B W W' ∧ Ix .ret (i + 1) W'
  | .exit id, _, W' => KeepsFrom B W W' ∧ Ix (.exit id) (i + 1) W'
  | .goto t, _, W' => KeepsFrom B W W' ∧ Ix (.goto t) (i + 1) W'
  | .panic _, _, _ => False
  | .outgrown, _, _ => False

theorem wpIn_rangeL {F : Fence} {n : Nat} {P : Program} {α : Type} {g : Operand} {ps : Array Tmp} {assign body : Code} {Q : Exit → Act → World → Prop} {a : Act} {w : World}
    (hro : F.round = none) (h1 : 1 ≤ n) {gf : Nat} {lb : Array Value} (hg : a.eval g = .func (.func gf) #[] lb) (hFg : F.fn gf) (eg : ∀ args w, (callFunc gf args).run P w = .ok (.enter gf args) w)
    {encs : α → Array Value} {L : List α} {Kp : World → World → Prop} {w0 : World} (hseq : SeqL F (n - 1) P gf lb encs L Kp w0)
    (hKt : ∀ {A B C : World}, Kp A B → Kp B C → Kp A C) (hKb : ∀ (W : World) (o : Obj), (∃ r, W.heap[w.heap.size + 1]? = some (.loop r)) → Kp W (W.putObj (w.heap.size + 1) o))
    (hb0 : Below w0.heap.size w0 w) (hps : ∀ x, (encs x).size = ps.size)
    (I : Nat → World → Prop) (Ix : Code → Nat → World → Prop) (hI : OwnFrom w.heap.size I) (hIx : ∀ c, OwnFrom w.heap.size (Ix c)) (h0 : I 0 w)
    (Ax : Nat → Act → World → Prop) (hAx : ∀ i a', OwnFrom w.heap.size (fun (_ : Unit) W => Ax i a' W))
    (hassign : ∀ (i : Nat) (h : i < L.length) (W : World) (K : Act → World → Prop), I i W → (∀ a' W', KeepsFrom w.heap.size W W' → Kp W W' → I i W' → Ax i a' W' → K a' W') →
      assign.wpIn (F.inRound (w.heap.size + 1)) (n - 1 - 1) P (Exit.then K (fun _ _ _ => False)) { tmps := (ps.zip (encs L[i])).foldl (fun t (p, v) => t.setIfInBounds p v) a.tmps, defers := [] } W)
    (hbody : ∀ (i : Nat) (h : i < L.length) (a' : Act) (W : World), (∃ r, W.heap[w.heap.size + 1]? = some (.loop r)) → I i W → Ax i a' W →
      body.wpIn (F.inRound (w.heap.size + 1)) (n - 1 - 1) P (roundL w.heap.size Kp I Ix i W) a' W)
    (hdone : ∀ (W : World), I L.length W → W.heap[w.heap.size]? = some (.deferred (some [])) → Q .normal { a with defers := { target := .collected w.heap.size, args := #[] } :: a.defers } W)
    (hstop : ∀ (i : Nat) (c : Code) (W : World), 0 < i → i ≤ L.length → Ix c i W → W.heap[w.heap.size]? = some (.deferred (some [])) →
      c.wpIn F n P Q { a with defers := { target := .collected w.heap.size, args := #[] } :: a.defers } W) :
    (Code.rangeFunc g ps assign body).wpIn F n P Q a w := by
  refine wpIn_rangeFunc fun fn hfn => ?_
  rw [hro]
  obtain ⟨rec, hrec⟩ : ∃ rec : LoopState → Option Code → Loop, rec = fun st pe => { state := st, pending := pe, fn, tmps := a.tmps, params := ps, assign, body, defers := w.heap.size } := ⟨_, rfl⟩
  obtain ⟨V, hV⟩ : ∃ V, V = (w.alloc (.deferred (some []))).alloc (.loop (rec .ready none)) := ⟨_, rfl⟩
  have zV : V.heap.size = w.heap.size + 2 := by rw [hV]; simp
  have rV : V.heap[w.heap.size + 1]? = some (.loop (rec .ready none)) := by
    have h := World.alloc_heap_new (w.alloc (.deferred (some []))) (.loop (rec .ready none))
    rw [World.size_alloc] at h
    rw [hV]; exact h
  have dV : V.heap[w.heap.size]? = some (.deferred (some [])) := by
    rw [hV]; exact (Below.heap_alloc _ _ _ (by simp)).trans (World.alloc_heap_new w _)
  have iV : I 0 V := by rw [hV]; exact hI.alloc _ (hI.alloc _ h0)
  have bV : Below w0.heap.size w0 V := by
    rw [hV]; exact hb0.trans ((((Below.refl _ w).alloc (Nat.le_refl _) _).alloc (by simp) _).mono hb0.size)
  refine ⟨w.heap.size + 1, [{ target := .collected w.heap.size, args := #[] }], V, { target := .fn (.func gf) lb, args := #[.func (.yield (w.heap.size + 1)) #[] #[]] }, V, gf,
    #[.func (.yield (w.heap.size + 1)) #[] #[]] ++ lb, V, ?_, ?_, ?_, ?_, fun _ => h1, ?_⟩
  · rw [hV, hrec]; exact run_enterLoop_outer _ _ _ _ _
  · simp only [resolve, hg]
    simp [go_sem]
  · intro f' hf'; simp [Target.leads] at hf'; subst hf'; exact hFg
  · simp [invoke, go_sem, eg]
  -- what a step of the iterator leaves of the two blocks
  have stay : ∀ {A B : World} {row : Option Nat} {k : Nat} {o : Obj}, A.grownBy B row → (∀ r, row = some r → V.heap.size ≤ r ∧ ∃ o : Obj, A.heap[r]? = some o ∧ o.isCells = false) → k < w.heap.size + 2 → A.heap[k]? = some o → B.heap[k]? = some o :=
    fun hg' hr hk ho => (hg'.block _ (Array.getElem?_eq_some_iff.1 ho).1 (fun e => by have := (hr _ e.symm).1; omega)).trans ho
  have low : ∀ {A : World} {row : Option Nat}, (∀ r, row = some r → V.heap.size ≤ r ∧ ∃ o : Obj, A.heap[r]? = some o ∧ o.isCells = false) → ∀ r, row = some r → w.heap.size ≤ r ∧ ∃ o : Obj, A.heap[r]? = some o ∧ o.isCells = false :=
    fun hr r e => ⟨by have := (hr r e).1; omega, (hr r e).2⟩
  refine (hseq (w.heap.size + 1)
    (fun i W => I i W ∧ W.heap[w.heap.size + 1]? = some (.loop (rec .ready none)) ∧ W.heap[w.heap.size]? = some (.deferred (some [])))
    (fun i W => ∃ c, Ix c i W ∧ W.heap[w.heap.size + 1]? = some (.loop (rec .done (some c))) ∧ W.heap[w.heap.size]? = some (.deferred (some [])))
    V bV
    (fun s A B row h hg' hr => ⟨hI s A B row h.1 hg' (low hr), stay hg' hr (by omega) h.2.1, stay hg' hr (by omega) h.2.2⟩)
    (fun s A B row h hg' hr => by
      obtain ⟨c, hc, h2, h3⟩ := h
      exact ⟨c, hIx c s A B row hc hg' (low hr), stay hg' hr (by omega) h2, stay hg' hr (by omega) h3⟩)
    ?_ ⟨iV, rV, dV⟩).mono ?_
  · rintro i hi W ⟨hi1, hr1, hd1⟩
    have hy := run_yield (P := P) (args := encs L[i]) hr1 (by rw [hrec]; exact hps _)
    rw [hrec] at hy
    refine ⟨fn, _, assign, body, hy, roundIn_of_wpIn hfn (hassign i hi W _ hi1 ?_)⟩
    intro a' Wa ka pa ia xa
    have ra := ka.same _ _ (by omega) hr1 rfl
    have da := ka.same _ _ (Nat.le_refl _) hd1 rfl
    refine ⟨_, run_beginRound ra (by rw [hrec]), ?_⟩
    obtain ⟨Wb, hWb⟩ : ∃ Wb, Wb = Wa.putObj (w.heap.size + 1) (.loop { rec .ready none with state := .busy }) := ⟨_, rfl⟩
    rw [← hWb]
    have rb : Wb.heap[w.heap.size + 1]? = some (.loop { rec .ready none with state := .busy }) := by rw [hWb]; exact World.putObj_heap_same (Array.getElem?_eq_some_iff.1 ra).1
    have db : Wb.heap[w.heap.size]? = some (.deferred (some [])) := by rw [hWb]; exact (World.putObj_heap_other (by omega)).trans da
    have kb : KeepsFrom V.heap.size W Wb := (keepsFrom_up ka (by omega)).trans (by rw [hWb]; exact keepsFrom_put (by omega))
    have pb : Kp W Wb := hKt pa (by rw [hWb]; exact hKb _ _ ⟨_, ra⟩)
    have ib : I i Wb := by rw [hWb]; exact hI.putObj _ ia (by omega) ra rfl
    have xb : Ax i a' Wb := by rw [hWb]; exact (hAx i a').putObj (s := ()) _ xa (by omega) ra rfl
    clear hWb
    refine wpIn_mono (hbody i hi a' Wb ⟨_, rb⟩ ib xb) ?_
    have fin : ∀ (jump : Option Code) (Wc : World), KeepsFrom w.heap.size Wb Wc → ∃ Wd, Wd = Wc.putObj (w.heap.size + 1) (.loop (rec (if jump.isNone then .ready else .done) jump)) ∧
        (Instr.endRound (w.heap.size + 1) jump).run P Wc = .ok (.bool jump.isNone) Wd ∧ Wc.heap[w.heap.size + 1]? = some (.loop { rec .ready none with state := .busy }) ∧
        Wd.heap[w.heap.size + 1]? = some (.loop (rec (if jump.isNone then .ready else .done) jump)) ∧ Wd.heap[w.heap.size]? = some (.deferred (some [])) ∧ KeepsFrom V.heap.size W Wd := fun jump Wc kc => by
      have rc := kc.same _ _ (by omega) rb rfl
      have dc := kc.same _ _ (Nat.le_refl _) db rfl
      have h := run_endRound (P := P) jump rc
      refine ⟨_, rfl, ?_, rc, World.putObj_heap_same (Array.getElem?_eq_some_iff.1 rc).1, (World.putObj_heap_other (by omega)).trans dc, (kb.trans (keepsFrom_up kc (by omega))).trans (keepsFrom_put (by omega))⟩
      rw [hrec] at h ⊢
      exact h
    rintro e a3 Wc hp
    cases e with
    | normal =>
      obtain ⟨kc, pc, ic⟩ := hp
      obtain ⟨Wd, hWd, hr, rc, rd, dd, kd⟩ := fin none Wc kc
      exact ⟨_, Wd, hr, .inl ⟨rfl, kd, hKt pb (hKt pc (by rw [hWd]; exact hKb _ _ ⟨_, rc⟩)), by rw [hWd]; exact hI.putObj _ ic (by omega) rc rfl, rd, dd⟩⟩
    | ret =>
      obtain ⟨kc, ic⟩ := hp
      obtain ⟨Wd, hWd, hr, rc, rd, dd, kd⟩ := fin (some .ret) Wc kc
      exact ⟨_, Wd, hr, .inr ⟨rfl, kd, .ret, by rw [hWd]; exact (hIx _).putObj _ ic (by omega) rc rfl, rd, dd⟩⟩
    | exit id =>
      obtain ⟨kc, ic⟩ := hp
      obtain ⟨Wd, hWd, hr, rc, rd, dd, kd⟩ := fin (some (.exit id)) Wc kc
      exact ⟨_, Wd, hr, .inr ⟨rfl, kd, .exit id, by rw [hWd]; exact (hIx _).putObj _ ic (by omega) rc rfl, rd, dd⟩⟩
    | goto t =>
      obtain ⟨kc, ic⟩ := hp
      obtain ⟨Wd, hWd, hr, rc, rd, dd, kd⟩ := fin (some (.goto t)) Wc kc
      exact ⟨_, Wd, hr, .inr ⟨rfl, kd, .goto t, by rw [hWd]; exact (hIx _).putObj _ ic (by omega) rc rfl, rd, dd⟩⟩
    | panic ch => exact hp.elim
    | outgrown => exact hp.elim
  · rintro e W2 ⟨⟨v, rfl⟩, ⟨hi, hl, hk⟩ | ⟨i, hi0, hi1, c, hc, hl, hk⟩⟩
    · exact ⟨none, _, by have := run_endLoop (P := P) hl (by rw [hrec]; simp); rw [hrec] at this; exact this, hdone _ (hI.putObj _ hi (by omega) hl rfl) ((World.putObj_heap_other (by omega)).trans hk)⟩
    · exact ⟨some c, _, by have := run_endLoop (P := P) hl (by rw [hrec]; simp); rw [hrec] at this; exact this, hstop i c _ hi0 hi1 ((hIx c).putObj _ hc (by omega) hl rfl) ((World.putObj_heap_other (by omega)).trans hk)⟩

end Go.Proofs.YtdbhlepbaepngaaDoor
