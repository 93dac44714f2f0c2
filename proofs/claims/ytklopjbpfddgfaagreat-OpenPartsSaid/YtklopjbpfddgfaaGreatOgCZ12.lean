import Derived.RangeFuncNested
import Derived.RangeFuncLeaves
import Derived.Test.YtklopjbpfddgfaaGreatSpPZ12
import Derived.Test.YtklopjbpfddgfaaGreatSpDZ12
import Derived.Test.YtklopjbpfddgfaaGreatSoBZ12
import Derived.Test.YtklopjbpfddgfaaGreatSpOZ12
import Derived.Test.YtklopjbpfddgfaaGreatWholeBZ12
import Derived.Test.YtklopjbpfddgfaaGreatWholeIZ12
import Derived.Deep.DeepCutAuto
import Derived.Lib.SliceRun
import Derived.Shelf.Abstract
import Derived.WalkKit
import Derived.OwnWalkIn
import Derived.TacticsInMore
import Derived.LoopNIn
import Derived.LoopIn
import Derived.Sort.WalkA
import Derived.Test.YtklopjbpfddgfaaGreatWholeCZ12
import Derived.Test.YtklopjbpfddgfaaGreatRaLZ12
import Derived.Outline
import Derived.Deep.LoopGhost
import Derived.Test.YtklopjbpfddgfaaGreatSteadyZ12

/- Ranges over a function that goes over a known list: an iterator's contract by places, which an iterator may bear that itself ranges over another one; and the loop over it. -/
namespace Go.Proofs.YtklopjbpfddgfaaGreat
open Go.RowKit
set_option linter.unusedVariables false

theorem keepsFrom_up {B B' : Nat} {W W' : World} (h : KeepsFrom B W W') (hB : B ≤ B') : KeepsFrom B' W W' :=
  ⟨h.size, fun k o hk => h.same k o (Nat.le_trans hB hk)⟩
theorem keepsFrom_put {B l : Nat} {W : World} {o : Obj} (hl : l < B) : KeepsFrom B W (W.putObj l o) :=
  ⟨by simp, fun k o' hk h0 _ => (World.putObj_heap_other (by omega)).trans h0⟩

/-- A block of cells abides what loops do. -/
theorem own_blk {β : Type} (b : Nat) {cs : Array Value} {t : TypeId} {fr : Nat × Nat} (D : Nat) : OwnFrom D (fun (_ : β) W => W.heap[b]? = some (.cells cs t fr)) := fun _ X Y row hs hg hr => by
  refine (hg.block b (Array.getElem?_eq_some_iff.1 hs).1 (fun e' => ?_)).trans hs
  obtain ⟨_, o, ho, hc⟩ := hr b e'.symm
  rw [hs] at ho; cases ho; cases hc
theorem own_pure {β : Type} (B : Nat) (p : β → Prop) : OwnFrom B (fun s (_ : World) => p s) := fun _ _ _ _ hs _ _ => hs

/-- A function that holds a range leaves: the mark is taken in. -/
theorem ret_mark {n : Nat} {P : Program} {fn : Func} {R : Ending → World → Prop} {T : Array Value} {D : Nat} {W : World} (hK : W.heap[D]? = some (.deferred (some [])))
    (h : ∀ W', W' = W.putObj D (.deferred none) → (∀ k, k ≠ D → W'.heap[k]? = W.heap[k]?) → LeavesIn Fence.wide n P fn T R [] .returning W') :
    bodyPostM Fence.wide n P fn R .ret { tmps := T, defers := [{ target := .collected D, args := #[] }] } W :=
  ⟨by simp, .inl ⟨_, _, rfl, run_takeDeferred hK, h _ rfl fun k hk => World.putObj_heap_other hk⟩⟩

/-- The iterator goes over just L: to whatever loop's yield it is handed, from whatever later world; what a round that goes on must keep: all that is no cells and lies at or beyond the world's end at the call (records of loops that the iterator runs itself), and Kp. -/
def SeqL {α : Type} (F : Fence) (n : Nat) (P : Program) (g : Nat) (lb : Array Value) (encs : α → Array Value) (L : List α) (Kp : World → World → Prop) (w : World) : Prop :=
  ∀ (lp : Nat) (J Jx : Nat → World → Prop) (W : World), Below w.heap.size w W → OwnFrom W.heap.size J → OwnFrom W.heap.size Jx →
    (∀ (i : Nat) (h : i < L.length) (W1 : World), J i W1 → YieldAt F (n - 1) P lp (encs L[i]) W1 fun e W' =>
      (e = .returned (.bool true) ∧ KeepsFrom W.heap.size W1 W' ∧ Kp W1 W' ∧ J (i + 1) W') ∨ (e = .returned (.bool false) ∧ KeepsFrom W.heap.size W1 W' ∧ Jx (i + 1) W')) →
    J 0 W →
    CallsIn F n P g (#[.func (.yield lp) #[] #[]] ++ lb) W fun e W' => (∃ v, e = .returned v) ∧ (J L.length W' ∨ ∃ i, 0 < i ∧ i ≤ L.length ∧ Jx i W')

/-- How a round over place i may be left. -/
def roundL (B : Nat) (Kp : World → World → Prop) (I : Nat → World → Prop) (Ix : Code → Nat → World → Prop) (i : Nat) (W : World) : Exit → Act → World → Prop
  | .normal, _, W' => KeepsFrom B W W' ∧ Kp W W' ∧ I (i + 1) W'
  | .ret, _, W' => KeepsFrom B W W' ∧ Ix .ret (i + 1) W'
  | .exit id, _, W' => KeepsFrom B W W' ∧ Ix (.exit id) (i + 1) W'
  | .goto t, _, W' => KeepsFrom B W W' ∧ Ix (.goto t) (i + 1) W'
  | .panic _, _, _ => False
  | .outgrown, _, _ => False

theorem wpIn_rangeL {F : Fence} {n : Nat} {P : Program} {α : Type} {g : Operand} {ps : Array Tmp} {assign body : Code} {Q : Exit → Act → World → Prop} {a : Act} {w : World}
    (hro : F.round = none) (h1 : 1 ≤ n) {gf : Nat} {lb : Array Value} (hg : a.eval g = .func (.func gf) #[] lb) (hFg : F.fn gf) (eg : ∀ args w, (callFunc gf args).run P w = .ok (.enter gf args) w)
    {encs : α → Array Value} {L : List α} {Kp : World → World → Prop} {w0 : World} (hseq : SeqL F (n - 1) P gf lb encs L Kp w0)
    (hKt : ∀ {A B C : World}, Kp A B → Kp B C → Kp A C) (hKb : ∀ (W : World) (o : Obj), (∃ r, W.heap[w.heap.size + 1]? = some (.loop r)) → Kp W (W.putObj (w.heap.size + 1) o))
    (hb0 : Below w0.heap.size w0 w) (hps : ∀ x, (encs x).size = ps.size)
    (I : Nat → World → Prop) (Ix : Code → Nat → World → Prop) (hI : OwnFrom w.heap.size I) (hIx : ∀ c, OwnFrom w.heap.size (Ix c)) (h0 : I 0 w)
    (Ax : Nat → Act → World → Prop) (hAx : ∀ i a', OwnFrom w.heap.size (fun (_ : Unit) W => Ax i a' W))
    (hassign : ∀ (i : Nat) (h : i < L.length) (W : World) (K : Act → World → Prop), I i W → (∀ a' W', KeepsFrom w.heap.size W W' → Kp W W' → I i W' → Ax i a' W' → K a' W') →
      assign.wpIn (F.inRound (w.heap.size + 1)) (n - 1 - 1) P (Exit.then K (fun _ _ _ => False)) { tmps := (ps.zip (encs L[i])).foldl (fun t (p, v) => t.setIfInBounds p v) a.tmps, defers := [] } W)
    (hbody : ∀ (i : Nat) (h : i < L.length) (a' : Act) (W : World), (∃ r, W.heap[w.heap.size + 1]? = some (.loop r)) → I i W → Ax i a' W →
      body.wpIn (F.inRound (w.heap.size + 1)) (n - 1 - 1) P (roundL w.heap.size Kp I Ix i W) a' W)
    (hdone : ∀ (W : World), I L.length W → W.heap[w.heap.size]? = some (.deferred (some [])) → Q .normal { a with defers := { target := .collected w.heap.size, args := #[] } :: a.defers } W)
    (hstop : ∀ (i : Nat) (c : Code) (W : World), 0 < i → i ≤ L.length → Ix c i W → W.heap[w.heap.size]? = some (.deferred (some [])) →
      c.wpIn F n P Q { a with defers := { target := .collected w.heap.size, args := #[] } :: a.defers } W) :
    (Code.rangeFunc g ps assign body).wpIn F n P Q a w := by
  refine wpIn_rangeFunc fun fn hfn => ?_
  rw [hro]
  obtain ⟨rec, hrec⟩ : ∃ rec : LoopState → Option Code → Loop, rec = fun st pe => { state := st, pending := pe, fn, tmps := a.tmps, params := ps, assign, body, defers := w.heap.size } := ⟨_, rfl⟩
  obtain ⟨V, hV⟩ : ∃ V, V = (w.alloc (.deferred (some []))).alloc (.loop (rec .ready none)) := ⟨_, rfl⟩
  have zV : V.heap.size = w.heap.size + 2 := by rw [hV]; simp
  have rV : V.heap[w.heap.size + 1]? = some (.loop (rec .ready none)) := by
    have h := World.alloc_heap_new (w.alloc (.deferred (some []))) (.loop (rec .ready none))
    rw [World.size_alloc] at h
    rw [hV]; exact h
  have dV : V.heap[w.heap.size]? = some (.deferred (some [])) := by
    rw [hV]; exact (Below.heap_alloc _ _ _ (by simp)).trans (World.alloc_heap_new w _)
  have iV : I 0 V := by rw [hV]; exact hI.alloc _ (hI.alloc _ h0)
  have bV : Below w0.heap.size w0 V := by
    rw [hV]; exact hb0.trans ((((Below.refl _ w).alloc (Nat.le_refl _) _).alloc (by simp) _).mono hb0.size)
  refine ⟨w.heap.size + 1, [{ target := .collected w.heap.size, args := #[] }], V, { target := .fn (.func gf) lb, args := #[.func (.yield (w.heap.size + 1)) #[] #[]] }, V, gf,
    #[.func (.yield (w.heap.size + 1)) #[] #[]] ++ lb, V, ?_, ?_, ?_, ?_, fun _ => h1, ?_⟩
  · rw [hV, hrec]; exact run_enterLoop_outer _ _ _ _ _
  · simp only [resolve, hg]
    simp [go_sem]
  · intro f' hf'; simp [Target.leads] at hf'; subst hf'; exact hFg
  · simp [invoke, go_sem, eg]
  -- what a step of the iterator leaves of the two blocks
  have stay : ∀ {A B : World} {row : Option Nat} {k : Nat} {o : Obj}, A.grownBy B row → (∀ r, row = some r → V.heap.size ≤ r ∧ ∃ o : Obj, A.heap[r]? = some o ∧ o.isCells = false) → k < w.heap.size + 2 → A.heap[k]? = some o → B.heap[k]? = some o :=
    fun hg' hr hk ho => (hg'.block _ (Array.getElem?_eq_some_iff.1 ho).1 (fun e => by have := (hr _ e.symm).1; omega)).trans ho
  have low : ∀ {A : World} {row : Option Nat}, (∀ r, row = some r → V.heap.size ≤ r ∧ ∃ o : Obj, A.heap[r]? = some o ∧ o.isCells = false) → ∀ r, row = some r → w.heap.size ≤ r ∧ ∃ o : Obj, A.heap[r]? = some o ∧ o.isCells = false :=
    fun hr r e => ⟨by have := (hr r e).1; omega, (hr r e).2⟩
  refine (hseq (w.heap.size + 1)
    (fun i W => I i W ∧ W.heap[w.heap.size + 1]? = some (.loop (rec .ready none)) ∧ W.heap[w.heap.size]? = some (.deferred (some [])))
    (fun i W => ∃ c, Ix c i W ∧ W.heap[w.heap.size + 1]? = some (.loop (rec .done (some c))) ∧ W.heap[w.heap.size]? = some (.deferred (some [])))
    V bV
    (fun s A B row h hg' hr => ⟨hI s A B row h.1 hg' (low hr), stay hg' hr (by omega) h.2.1, stay hg' hr (by omega) h.2.2⟩)
    (fun s A B row h hg' hr => by
      obtain ⟨c, hc, h2, h3⟩ := h
      exact ⟨c, hIx c s A B row hc hg' (low hr), stay hg' hr (by omega) h2, stay hg' hr (by omega) h3⟩)
    ?_ ⟨iV, rV, dV⟩).mono ?_
  · rintro i hi W ⟨hi1, hr1, hd1⟩
    have hy := run_yield (P := P) (args := encs L[i]) hr1 (by rw [hrec]; exact hps _)
    rw [hrec] at hy
    refine ⟨fn, _, assign, body, hy, roundIn_of_wpIn hfn (hassign i hi W _ hi1 ?_)⟩
    intro a' Wa ka pa ia xa
    have ra := ka.same _ _ (by omega) hr1 rfl
    have da := ka.same _ _ (Nat.le_refl _) hd1 rfl
    refine ⟨_, run_beginRound ra (by rw [hrec]), ?_⟩
    obtain ⟨Wb, hWb⟩ : ∃ Wb, Wb = Wa.putObj (w.heap.size + 1) (.loop { rec .ready none with state := .busy }) := ⟨_, rfl⟩
    rw [← hWb]
    have rb : Wb.heap[w.heap.size + 1]? = some (.loop { rec .ready none with state := .busy }) := by rw [hWb]; exact World.putObj_heap_same (Array.getElem?_eq_some_iff.1 ra).1
    have db : Wb.heap[w.heap.size]? = some (.deferred (some [])) := by rw [hWb]; exact (World.putObj_heap_other (by omega)).trans da
    have kb : KeepsFrom V.heap.size W Wb := (keepsFrom_up ka (by omega)).trans (by rw [hWb]; exact keepsFrom_put (by omega))
    have pb : Kp W Wb := hKt pa (by rw [hWb]; exact hKb _ _ ⟨_, ra⟩)
    have ib : I i Wb := by rw [hWb]; exact hI.putObj _ ia (by omega) ra rfl
    have xb : Ax i a' Wb := by rw [hWb]; exact (hAx i a').putObj (s := ()) _ xa (by omega) ra rfl
    clear hWb
    refine wpIn_mono (hbody i hi a' Wb ⟨_, rb⟩ ib xb) ?_
    have fin : ∀ (jump : Option Code) (Wc : World), KeepsFrom w.heap.size Wb Wc → ∃ Wd, Wd = Wc.putObj (w.heap.size + 1) (.loop (rec (if jump.isNone then .ready else .done) jump)) ∧
        (Instr.endRound (w.heap.size + 1) jump).run P Wc = .ok (.bool jump.isNone) Wd ∧ Wc.heap[w.heap.size + 1]? = some (.loop { rec .ready none with state := .busy }) ∧
        Wd.heap[w.heap.size + 1]? = some (.loop (rec (if jump.isNone then .ready else .done) jump)) ∧ Wd.heap[w.heap.size]? = some (.deferred (some [])) ∧ KeepsFrom V.heap.size W Wd := fun jump Wc kc => by
      have rc := kc.same _ _ (by omega) rb rfl
      have dc := kc.same _ _ (Nat.le_refl _) db rfl
      have h := run_endRound (P := P) jump rc
      refine ⟨_, rfl, ?_, rc, World.putObj_heap_same (Array.getElem?_eq_some_iff.1 rc).1, (World.putObj_heap_other (by omega)).trans dc, (kb.trans (keepsFrom_up kc (by omega))).trans (keepsFrom_put (by omega))⟩
      rw [hrec] at h ⊢
      exact h
    rintro e a3 Wc hp
    cases e with
    | normal =>
      obtain ⟨kc, pc, ic⟩ := hp
      obtain ⟨Wd, hWd, hr, rc, rd, dd, kd⟩ := fin none Wc kc
      exact ⟨_, Wd, hr, .inl ⟨rfl, kd, hKt pb (hKt pc (by rw [hWd]; exact hKb _ _ ⟨_, rc⟩)), by rw [hWd]; exact hI.putObj _ ic (by omega) rc rfl, rd, dd⟩⟩
    | ret =>
      obtain ⟨kc, ic⟩ := hp
      obtain ⟨Wd, hWd, hr, rc, rd, dd, kd⟩ := fin (some .ret) Wc kc
      exact ⟨_, Wd, hr, .inr ⟨rfl, kd, .ret, by rw [hWd]; exact (hIx _).putObj _ ic (by omega) rc rfl, rd, dd⟩⟩
    | exit id =>
      obtain ⟨kc, ic⟩ := hp
      obtain ⟨Wd, hWd, hr, rc, rd, dd, kd⟩ := fin (some (.exit id)) Wc kc
      exact ⟨_, Wd, hr, .inr ⟨rfl, kd, .exit id, by rw [hWd]; exact (hIx _).putObj _ ic (by omega) rc rfl, rd, dd⟩⟩
    | goto t =>
      obtain ⟨kc, ic⟩ := hp
      obtain ⟨Wd, hWd, hr, rc, rd, dd, kd⟩ := fin (some (.goto t)) Wc kc
      exact ⟨_, Wd, hr, .inr ⟨rfl, kd, .goto t, by rw [hWd]; exact (hIx _).putObj _ ic (by omega) rc rfl, rd, dd⟩⟩
    | panic ch => exact hp.elim
    | outgrown => exact hp.elim
  · rintro e W2 ⟨⟨v, rfl⟩, ⟨hi, hl, hk⟩ | ⟨i, hi0, hi1, c, hc, hl, hk⟩⟩
    · exact ⟨none, _, by have := run_endLoop (P := P) hl (by rw [hrec]; simp); rw [hrec] at this; exact this, hdone _ (hI.putObj _ hi (by omega) hl rfl) ((World.putObj_heap_other (by omega)).trans hk)⟩
    · exact ⟨some c, _, by have := run_endLoop (P := P) hl (by rw [hrec]; simp); rw [hrec] at this; exact this, hstop i c _ hi0 hi1 ((hIx c).putObj _ hc (by omega) hl rfl) ((World.putObj_heap_other (by omega)).trans hk)⟩

end Go.Proofs.YtklopjbpfddgfaaGreat

/- Package filter: has it room, check, a row cloned. -/
namespace Go.Proofs.YtklopjbpfddgfaaGreat
open Go.RowKit
set_option linter.unusedVariables false

set_option maxHeartbeats 1000000 in
theorem fi_hasRoom (C : CfgR) (s : Sn) (top : Int) (w : World) :
    Calls Tryz.prog 39 #[.agg #[.int .i64 C.cl, .int .i64 C.cb, .int .i64 C.ht, .int .i64 C.ri, .int .i64 C.ru, .int .i64 C.wd, .int .i64 C.dp], .agg #[.int .i64 s.lo, .int .i64 s.hi, .bool s.wk], .int .i64 top] w fun e w' => e = .returned (.bool (decide (C.ht ≤ wrap64 (top - s.hi)))) ∧ New w w' := by
  go_enter Tryz.func39, Tryz.ntmps39
  go_wp2_with fail
  refine bodyPost_ret (v := .bool (decide (C.ht ≤ wrap64 (top - s.hi)))) (by simp [results, Tryz.results39, go_sem, *]) rfl ?_
  exact ⟨rfl, by (repeat (first | (with_reducible exact New.refl _) | (with_reducible assumption) | ((with_reducible refine New.setB ?_ ?_ _); focus (first | omega | (simp; omega) | (simp; done))) | (with_reducible refine New.alloc ?_ _) | (with_reducible refine New.drew ?_) | (with_reducible refine New.drewN ?_ _) | (with_reducible refine New.hat ?_ _) | ((with_reducible apply New.snart); (with_reducible assumption))))⟩

/-- What is wrong with a config and spans. -/
def fiE (C : CfgR) (l : List Sn) : Int := if C.err = 0 then spE l else C.err
theorem fiE_ok {C : CfgR} {l : List Sn} (h : fiE C l = 0) : C.err = 0 ∧ spE l = 0 := by
  unfold fiE at h
  split at h
  · rename_i h1; exact ⟨h1, h⟩
  · rename_i h1; exact absurd h h1
theorem fi_err_two (C : CfgR) : C.err = 0 ∨ C.err = 20 := by unfold CfgR.err checkE; split <;> simp
theorem fiE_three (C : CfgR) (l : List Sn) : fiE C l = 0 ∨ fiE C l = 2 ∨ fiE C l = 20 := by
  unfold fiE
  rcases fi_err_two C with h | h <;> rcases chkE_two l with k | k <;> rw [h] <;> simp [k]

set_option maxHeartbeats 1000000 in
theorem fi_check (C : CfgR) (at0 : Option Addr) (l : List Sn) (c : Nat) (hl : l.length ≤ maxLen) (w : World) (H : RowIn Sn.enc 3 w at0 l) :
    Calls Tryz.prog 23 #[.agg #[.int .i64 C.cl, .int .i64 C.cb, .int .i64 C.ht, .int .i64 C.ri, .int .i64 C.ru, .int .i64 C.wd, .int .i64 C.dp], .slice at0 l.length c] w fun e w' => e = .returned (.int .i64 (fiE C l)) ∧ New w w' := by
  have KS := Lib.hid (fun W n => sp_check at0 l c hl W (H.keep (n : New w W)))
  have KC := Lib.hid (fun W => check_any C.cl C.cb C.ht C.ri C.ru C.wd C.dp W)
  obtain ⟨n, hn⟩ : ∃ n, n = l.length := ⟨_, rfl⟩
  rw [← hn] at KS ⊢
  have h2 := fi_err_two C
  obtain ⟨r, hr⟩ : ∃ r, r = C.err := ⟨_, rfl⟩
  have HR : Hid (fiE C l = if r = 0 then spE l else r) := Lib.hid (by rw [hr]; rfl)
  rw [show checkE C.cl C.cb C.ht C.ri C.ru C.wd C.dp = r from hr.symm] at KC
  rw [← hr] at h2
  clear hr hn H hl
  go_enter Tryz.func23, Tryz.ntmps23
  go_wp2_with fail
  refine (KC.out _).mono ?_
  rintro e w1 ⟨rfl, n1, -⟩
  have hn1 : New w w1 := New.trans (by (repeat (first | (with_reducible exact New.refl _) | (with_reducible assumption) | ((with_reducible refine New.setB ?_ ?_ _); focus (first | omega | (simp; omega) | (simp; done))) | (with_reducible refine New.alloc ?_ _) | (with_reducible refine New.drew ?_) | (with_reducible refine New.drewN ?_ _) | (with_reducible refine New.hat ?_ _) | ((with_reducible apply New.snart); (with_reducible assumption))))) n1
  clear n1
  rcases h2 with rfl | rfl
  · go_wp2_with fail
    refine (KS.out _ hn1).mono ?_
    rintro e w2 ⟨rfl, n2⟩
    go_wp2_with fail
    go_ret
    exact ⟨by rw [HR.out]; rfl, hn1.trans n2⟩
  · go_wp2_with fail
    go_ret
    exact ⟨by rw [HR.out]; rfl, hn1⟩

set_option maxHeartbeats 1000000 in
theorem fi_rooms (at0 : Option Addr) (len c : Nat) (n : Nat) (w : World) :
    CallsIn Fence.wide n Tryz.prog 41 #[.slice at0 len c] w fun e w' => e = .returned (.func (.func 54) #[] #[.pointer (some ⟨w.heap.size, 0, none⟩)]) ∧ w' = w.alloc (.cells #[.slice at0 len c] 24) := by
  refine callsIn_wide.2 ?_
  go_enter Tryz.func41, Tryz.ntmps41
  go_wp2_with fail
  go_ret
  exact ⟨rfl, rfl⟩

set_option maxHeartbeats 1000000 in
theorem fi_clone (at0 : Option Addr) (l : List Sn) (c : Nat) (hl : l.length ≤ 1000) (w : World) (h : Sl Sn.enc 3 w (.slice at0 l.length c) l) :
    Calls Tryz.prog 37 #[.slice at0 l.length c] w fun e w' => ∃ a d, e = .returned (.slice a l.length d) ∧ Sl Sn.enc 3 w' (.slice a l.length d) l ∧ New w w' ∧ ∀ ad, a = some ad → w.heap.size ≤ ad.block ∧ ∃ cs fr, w'.heap[ad.block]? = some (.cells cs 45 fr) := by
  obtain ⟨i0, hi, hz0, hz1, hz2⟩ := info_parts sn_info
  cases at0 with
  | none =>
    obtain ⟨-, h1, h2, h3, -⟩ := h.row'
    have hc0 := h3 rfl
    have hm0 : l = [] := List.eq_nil_of_length_eq_zero (by omega)
    subst hm0
    subst hc0
    have e1 : ∀ W, (binOp .eql 24 (.slice none 0 0) (.slice none 0 0)).run Tryz.prog W = .ok (.bool true) W := fun W => (Lib.run_eql_slice_nil W _ _ _ _ _ _ _ Tryz.underlying24).trans rfl
    go_enter Tryz.func37, Tryz.ntmps37
    go_wp2_with fail
    go_ret
    exact ⟨none, 0, rfl, Sl.nil, by (repeat (first | (with_reducible exact New.refl _) | (with_reducible assumption) | ((with_reducible refine New.setB ?_ ?_ _); focus (first | omega | (simp; omega) | (simp; done))) | (with_reducible refine New.alloc ?_ _) | (with_reducible refine New.drew ?_) | (with_reducible refine New.drewN ?_ _) | (with_reducible refine New.hat ?_ _) | ((with_reducible apply New.snart); (with_reducible assumption)))), fun ad h => by cases h⟩
  | some ad =>
    go_enter Tryz.func37, Tryz.ntmps37
    have e2 : ∀ W n d, (binOp .eql 24 (.slice (some ad) n d) (.slice none 0 0)).run Tryz.prog W = .ok (.bool false) W := fun W n d => (Lib.run_eql_slice_nil W _ _ _ _ _ _ _ Tryz.underlying24).trans rfl
    go_wp2_with (at_builtin; refine wpList_append_sl rfl _ _ 24 rfl Sn.enc_len Sn.enc_one w.heap.size 45 i0 _ 24 Tryz.underlying24 hi hz0 hz1 hz2 rfl (by decide) _ ([] : List Sn) rfl ⟨rfl, .inr ⟨w.heap.size, 0, #[], rfl, Nat.le_refl _, heap_new _ _, Nat.le_refl _, Nat.zero_le _, rfl, rfl⟩⟩ _ l rfl (h.keep (by (repeat (first | (with_reducible exact New.refl _) | (with_reducible assumption) | ((with_reducible refine New.setB ?_ ?_ _); focus (first | omega | (simp; omega) | (simp; done))) | (with_reducible refine New.alloc ?_ _) | (with_reducible refine New.drew ?_) | (with_reducible refine New.drewN ?_ _) | (with_reducible refine New.hat ?_ _) | ((with_reducible apply New.snart); (with_reducible assumption)))))) (by unfold maxLen; simp; omega) (by simp; omega) (by simp) ?_; intro v' w1 hown hnew _; obtain ⟨a, d, N, hN, rfl⟩ := own_shape2 hown)
    go_ret
    rw [List.nil_append] at hN hown
    subst hN
    refine ⟨a, d, rfl, own_sl Sn.enc_len hown, hnew _ (by (repeat (first | (with_reducible exact New.refl _) | (with_reducible assumption) | ((with_reducible refine New.setB ?_ ?_ _); focus (first | omega | (simp; omega) | (simp; done))) | (with_reducible refine New.alloc ?_ _) | (with_reducible refine New.drew ?_) | (with_reducible refine New.drewN ?_ _) | (with_reducible refine New.hat ?_ _) | ((with_reducible apply New.snart); (with_reducible assumption))))) (Nat.le_refl _), fun ad h => ⟨own_block hown _ (by rw [h]; rfl), ?_⟩⟩
    rcases hown.2 with ⟨q, -⟩ | ⟨g, cap', cur, q, -, hg, -⟩
    · injection q with q; rw [h] at q; cases q
    · injection q with q; rw [h] at q; cases q; exact ⟨_, _, hg⟩

end Go.Proofs.YtklopjbpfddgfaaGreat

/- Package filter: what goes over the rooms, as a contract by places. -/
namespace Go.Proofs.YtklopjbpfddgfaaGreat
open Go.RowKit Go.Shelf Go.Sort
set_option linter.unusedVariables false
attribute [local go_sem] Oper.semAt_some

theorem New.stays {w w' : World} (h : New w w') {b : Nat} {o : Obj} (hb : w.heap[b]? = some o) : w'.heap[b]? = some o := (h.block b (Array.getElem?_eq_some_iff.1 hb).1).trans hb

/-- Where the room above the k-th span ends. -/
def roofF (l : List Sn) (k : Nat) : Int := match l[k + 1]? with
  | some s => s.lo
  | none => 1048576
theorem roofF_mid {l : List Sn} {k : Nat} (h : k + 1 < l.length) : roofF l k = l[k + 1].lo := by unfold roofF; rw [List.getElem?_eq_getElem h]
theorem roofF_last {l : List Sn} {k : Nat} (h : l.length ≤ k + 1) : roofF l k = 1048576 := by unfold roofF; rw [List.getElem?_eq_none h]
def roomE (l : List Sn) (k : Nat) : Array Value := #[.int .i64 k, .int .i64 (roofF l k)]
/-- The block that a row stands in; where there is none, B. -/
def rowB (l : List Sn) (at0 : Option Addr) (B : Nat) : Nat := match l, at0 with
  | _ :: _, some a => a.block
  | _, _ => B
theorem rowB_pos {l : List Sn} {a : Addr} {B : Nat} (h : 0 < l.length) : rowB l (some a) B = a.block := by
  cases l with
  | nil => simp at h
  | cons x xs => rfl
/-- These two blocks lie as they lay. -/
def Keep2 (B R : Nat) (W W' : World) : Prop := W'.heap[B]? = W.heap[B]? ∧ W'.heap[R]? = W.heap[R]?
theorem Keep2.trans {B R : Nat} {X Y Z : World} (h : Keep2 B R X Y) (k : Keep2 B R Y Z) : Keep2 B R X Z := ⟨k.1.trans h.1, k.2.trans h.2⟩
theorem Keep2.refl {B R : Nat} (W : World) : Keep2 B R W W := ⟨rfl, rfl⟩
theorem Keep2.below {B R : Nat} {w W W' : World} (hb : B < w.heap.size) (hr : R < w.heap.size) (h : Below w.heap.size W W') (hz : w.heap.size ≤ W.heap.size) : Keep2 B R W W' := ⟨h.block B hb, h.block R hr⟩

/-- A slice of spans in a block of its own. -/
structure RowBox (w : World) (B : Nat) (at0 : Option Addr) (cap : Nat) (l : List Sn) : Prop where
  box : w.heap[B]? = some (.cells #[.slice at0 l.length cap] 24 (0, 0))
  row : RowIn Sn.enc 3 w at0 l
theorem RowBox.lt {w : World} {B : Nat} {at0 : Option Addr} {cap : Nat} {l : List Sn} (h : RowBox w B at0 cap l) : B < w.heap.size := (Array.getElem?_eq_some_iff.1 h.box).1
theorem RowBox.keep {w W : World} {B : Nat} {at0 : Option Addr} {cap : Nat} {l : List Sn} (h : RowBox w B at0 cap l) (k : Keep2 B (rowB l at0 B) w W) : RowBox W B at0 cap l :=
  ⟨k.1.trans h.box, fun h0 => by
    obtain ⟨b, off, rfl, hr⟩ := h.row h0
    have k2 := k.2
    rw [rowB_pos h0] at k2
    exact ⟨b, off, rfl, fun j hj i hi => (World.cell?_of_block (a := ⟨b, off + j * 3 + i, none⟩) k2).trans (hr j hj i hi)⟩⟩
theorem RowBox.row_lt {w : World} {B : Nat} {at0 : Option Addr} {cap : Nat} {l : List Sn} (h : RowBox w B at0 cap l) : rowB l at0 B < w.heap.size := by
  cases l with
  | nil => exact h.lt
  | cons x xs =>
    obtain ⟨b, off, rfl, hr⟩ := h.row (by simp)
    exact World.block_lt_of_cell? _ _ (hr 0 (by simp) 0 (by rw [Sn.enc_len]; omega))
theorem RowBox.new {w W : World} {B : Nat} {at0 : Option Addr} {cap : Nat} {l : List Sn} (h : RowBox w B at0 cap l) (k : New w W) : RowBox W B at0 cap l :=
  ⟨(k.block B h.lt).trans h.box, h.row.keep k⟩
theorem RowBox.cell {w : World} {B : Nat} {at0 : Option Addr} {cap : Nat} {l : List Sn} (h : RowBox w B at0 cap l) : w.cell? ⟨B, 0, none⟩ = some (.slice at0 l.length cap) := cell_of_heap h.box rfl

set_option maxHeartbeats 4000000 in
set_option maxRecDepth 100000 in
theorem fi_rooms1 (at0 : Option Addr) (l : List Sn) (cap B : Nat) (hl : l.length ≤ 1000) (n : Nat) (hn : 1 ≤ n) (w : World) (H : RowBox w B at0 cap l) :
    SeqL Fence.wide n Tryz.prog 54 #[.pointer (some ⟨B, 0, none⟩)] (roomE l) (List.range l.length) (Keep2 B (rowB l at0 B)) w := by
  intro lp J Jx W hW hJ hJx hY h0
  have H0 := Lib.hid (H.new hW)
  have HY := Lib.hid hY
  have HJ0 : Hid (J 0 W) := h0
  clear hY h0 H hW hJ hJx
  simp only [List.append_toArray, List.cons_append, List.nil_append]
  refine callsIn_of_wp Tryz.func54 rfl trivial ?_ rfl
  simp only [Tryz.ntmps54, List.size_toArray, List.length_cons, List.length_nil, Nat.reduceAdd, Nat.reduceSub, Array.replicate_succ, Array.replicate_zero, List.push_toArray, List.append_toArray, List.nil_append, List.cons_append]
  have c0 := H0.out.cell
  gi_wp2_with fail
  gi_loopw [7] (fun vz wr => ∃ k : Nat, vz = .int .i64 k ∧ k ≤ l.length ∧ Hid (J k wr) ∧ Hid (RowBox wr B at0 cap l))
    (fun vz _ => l.length - (intOf vz).toNat)
  case atStart => exact ⟨0, by simp, Nat.zero_le _, HJ0, H0⟩
  case round =>
    clear c0 H0 HJ0
    obtain ⟨k, rfl, hk, hJ1, HB⟩ := hrel
    have c0 := HB.out.cell
    by_cases hlt : k < l.length
    · have hyall := fun q => HY.out k (by simpa using hlt) wr q
      have ek : (List.range l.length)[k]'(by simpa using hlt) = k := by simp
      rw [ek] at hyall
      unfold roomE at hyall
      obtain ⟨top, htop⟩ : ∃ top, top = roofF l k := ⟨_, rfl⟩
      rw [← htop] at hyall
      obtain ⟨fn, tmps, assign, body, hy, hR⟩ := hyall hJ1.out
      clear hyall ek
      by_cases h1 : k + 1 < l.length
      · obtain ⟨b0, off, rfl, hA⟩ := HB.out.row (by omega)
        obtain ⟨d0, -, -⟩ := Sn.cells hA (k + 1) h1
        rw [roofF_mid h1] at htop
        rw [← htop] at d0
        clear hA htop
        gi_wp2_with fail
        refine hR.mono ?_
        clear hy hR
        rintro e W5 (⟨rfl, -, kp, hJ5⟩ | ⟨rfl, -, hJx5⟩)
        · have HB5 := Lib.hid (HB.out.keep kp)
          have hJ6 : Hid (J (k + 1) W5) := hJ5
          clear hJ5 kp
          gi_wp2_with fail
          go_roundw
          case rel => exact ⟨k + 1, by congr 1, by omega, hJ6, HB5⟩
          case measure => simp [intOf]; omega
        · gi_wp2_with fail
          refine bodyPost_ret (results_none rfl _ _ _) rfl ?_
          exact ⟨⟨_, rfl⟩, .inr ⟨k + 1, by omega, by rw [List.length_range]; omega, hJx5⟩⟩
      · rw [roofF_last (by omega)] at htop
        subst htop
        have hd : decide (((k : Nat) : Int) + 1 < (l.length : Int)) = false := decide_eq_false (by omega)
        gi_wp2_with fail
        refine hR.mono ?_
        clear hy hR
        rintro e W5 (⟨rfl, -, kp, hJ5⟩ | ⟨rfl, -, hJx5⟩)
        · have HB5 := Lib.hid (HB.out.keep kp)
          have hJ6 : Hid (J (k + 1) W5) := hJ5
          clear hJ5 kp
          gi_wp2_with fail
          go_roundw
          case rel => exact ⟨k + 1, by congr 1, by omega, hJ6, HB5⟩
          case measure => simp [intOf]; omega
        · gi_wp2_with fail
          refine bodyPost_ret (results_none rfl _ _ _) rfl ?_
          exact ⟨⟨_, rfl⟩, .inr ⟨k + 1, by omega, by rw [List.length_range]; omega, hJx5⟩⟩
    · obtain rfl : k = l.length := by omega
      gi_wp2_with fail
      go_end0
      exact ⟨⟨_, rfl⟩, .inl (by rw [List.length_range]; exact hJ1.out)⟩

end Go.Proofs.YtklopjbpfddgfaaGreat

/- Package filter: Room. -/
namespace Go.Proofs.YtklopjbpfddgfaaGreat
open Go.RowKit Go.Shelf Go.Sort
set_option linter.unusedVariables false
attribute [local go_sem] Oper.semAt_some

/-- Is there such a room? -/
def rOk (l : List Sn) (k : Int) : Bool := decide (spE l = 0) && (decide (0 ≤ k) && decide (k < l.length))
def rTop (l : List Sn) (k : Int) : Int := if rOk l k = true then roofF l k.toNat else 0
theorem rOk_iff (l : List Sn) (k : Int) : rOk l k = true ↔ spE l = 0 ∧ 0 ≤ k ∧ k < l.length := by unfold rOk; simp
theorem rTop_at {l : List Sn} (h : spE l = 0) {j : Nat} (hj : j < l.length) : rOk l j = true ∧ rTop l j = roofF l j := by
  have h1 : rOk l j = true := (rOk_iff l j).2 ⟨h, by omega, by omega⟩
  exact ⟨h1, by unfold rTop; rw [if_pos h1]; simp⟩
theorem rTop_no {l : List Sn} {k : Int} (h : ¬ (spE l = 0 ∧ 0 ≤ k ∧ k < l.length)) : rOk l k = false ∧ rTop l k = 0 := by
  have h1 : rOk l k = false := by
    cases hb : rOk l k
    · rfl
    · exact absurd ((rOk_iff l k).1 hb) h
  exact ⟨h1, by unfold rTop; rw [h1]; rfl⟩

end Go.Proofs.YtklopjbpfddgfaaGreat

/- Package filter: is a span open? has it room? -/
namespace Go.Proofs.YtklopjbpfddgfaaGreat
open Go.RowKit
set_option linter.unusedVariables false

set_option maxHeartbeats 1000000 in
set_option maxRecDepth 100000 in
theorem fi_isOpen (C : CfgR) (at0 : Option Addr) (l : List Sn) (cap Bo Bc k : Nat) (hk : k < l.length) (hl : l.length ≤ 1000) (top : Int) (w : World) (R : RowBox w Bo at0 cap l) (hc : CellsAt w Bc 0 C.enc) :
    Calls Tryz.prog 38 #[.int .i64 k, .int .i64 top, .pointer (some ⟨Bo, 0, none⟩), .pointer (some ⟨Bc, 0, none⟩)] w fun e w' => e = .returned (.bool (l[k].wk && decide (C.ht ≤ wrap64 (top - l[k].hi)))) ∧ New w w' := by
  have KH := Lib.hid (fun s W => fi_hasRoom C s top W)
  obtain ⟨b0, off, rfl, hA⟩ := R.row (by omega)
  obtain ⟨d0, d1, d2⟩ := Sn.cells hA k hk
  have o0 := R.cell
  obtain ⟨c0, c1, c2, c3, c4, c5, c6⟩ := CfgR.at hc
  obtain ⟨s, hs⟩ : ∃ s, s = l[k] := ⟨_, rfl⟩
  rw [← hs] at d0 d1 d2 ⊢
  clear hs hA hc R
  generalize hn : l.length = n at *
  cases hw : s.wk
  · rw [hw] at d2
    go_enter Tryz.func38, Tryz.ntmps38
    go_wp2_with fail
    (refine wp_region_hat (by kernel_rfl) (by kernel_rfl) ?_; intro hatc hatf; (repeat (go_big_quiet_step ((fail)))); refine wpQuiet_nil ?_; rintro _ ⟨X, rfl⟩)
    go_wp2_with fail
    go_ret
    exact ⟨rfl, X.h⟩
  · rw [hw] at d2
    have KC := Lib.hid (fun W => by have := KH.out s W; rw [hw] at this; exact this : ∀ W, Calls Tryz.prog 39 #[.agg #[.int .i64 C.cl, .int .i64 C.cb, .int .i64 C.ht, .int .i64 C.ri, .int .i64 C.ru, .int .i64 C.wd, .int .i64 C.dp], .agg #[.int .i64 s.lo, .int .i64 s.hi, .bool true], .int .i64 top] W fun e w' => e = .returned (.bool (decide (C.ht ≤ wrap64 (top - s.hi)))) ∧ New W w')
    generalize decide (C.ht ≤ wrap64 (top - s.hi)) = b at *
    clear KH
    go_enter Tryz.func38, Tryz.ntmps38
    go_wp2_with fail
    (refine wp_region_hat (by kernel_rfl) (by kernel_rfl) ?_; intro hatc hatf; (repeat (go_big_quiet_step ((go_at_call 39; exact Calls.hat (KC.out _))))); refine wpQuiet_nil ?_; rintro _ ⟨X, rfl⟩)
    cases b
    all_goals
      go_wp2_with fail
      go_ret
      exact ⟨rfl, X.h⟩

/-- Has the k-th span room? -/
def fitB (C : CfgR) (l : List Sn) (k : Int) : Bool := rOk l k && (decide (C.err = 0) && decide (C.ht ≤ wrap64 (rTop l k - (l[k.toNat]?.map (·.hi)).getD 0)))

end Go.Proofs.YtklopjbpfddgfaaGreat

/- Package filter: what goes over the spans that are open, as a contract by places: an iterator that itself ranges over the rooms. -/
namespace Go.Proofs.YtklopjbpfddgfaaGreat
open Go.RowKit Go.Shelf Go.Sort
set_option linter.unusedVariables false
attribute [local go_sem] Oper.semAt_some

/-- Is the k-th span open? -/
def opnB (C : CfgR) (l : List Sn) (k : Nat) : Bool := match l[k]? with
  | some s => s.wk && decide (C.ht ≤ wrap64 (roofF l k - s.hi))
  | none => false
theorem opnB_at (C : CfgR) {l : List Sn} {k : Nat} (h : k < l.length) : opnB C l k = (l[k].wk && decide (C.ht ≤ wrap64 (roofF l k - l[k].hi))) := by unfold opnB; rw [List.getElem?_eq_getElem h]
/-- The places of the spans that are open. -/
def opL (C : CfgR) (l : List Sn) : List Nat := (List.range l.length).filter (opnB C l)
/-- How many of the first i spans are open. -/
def opN (C : CfgR) (l : List Sn) (i : Nat) : Nat := ((List.range i).filter (opnB C l)).length
theorem opN_zero (C : CfgR) (l : List Sn) : opN C l 0 = 0 := rfl
theorem opN_succ (C : CfgR) (l : List Sn) (i : Nat) : opN C l (i + 1) = if opnB C l i = true then opN C l i + 1 else opN C l i := by
  unfold opN
  rw [List.range_succ, List.filter_append, List.length_append]
  cases h : opnB C l i <;> simp [h]
theorem opN_all (C : CfgR) (l : List Sn) : opN C l l.length = (opL C l).length := rfl
theorem opN_mono (C : CfgR) (l : List Sn) {i j : Nat} (h : i ≤ j) : opN C l i ≤ opN C l j := by
  induction h with
  | refl => exact Nat.le_refl _
  | step h ih => rw [opN_succ]; split <;> omega
theorem opL_split (C : CfgR) (l : List Sn) {i : Nat} (h : i < l.length) (ho : opnB C l i = true) : ∃ r, opL C l = (List.range i).filter (opnB C l) ++ i :: r := by
  unfold opL
  have e : List.range l.length = List.range i ++ i :: ((List.range (l.length - i - 1)).map (i + 1 + ·)) := by
    have h1 : l.length = (i + 1) + (l.length - i - 1) := by omega
    conv => lhs; rw [h1, List.range_add, List.range_succ, List.append_assoc]
    rfl
  rw [e, List.filter_append, List.filter_cons, if_pos ho]
  exact ⟨_, rfl⟩
theorem opL_at (C : CfgR) (l : List Sn) {i : Nat} (h : i < l.length) (ho : opnB C l i = true) : ∃ h' : opN C l i < (opL C l).length, (opL C l)[opN C l i] = i := by
  obtain ⟨r, e⟩ := opL_split C l h ho
  have h1 : (opL C l)[opN C l i]? = some i := by
    rw [e]
    unfold opN
    rw [List.getElem?_append_right (Nat.le_refl _), Nat.sub_self]
    rfl
  obtain ⟨h2, h3⟩ := List.getElem?_eq_some_iff.1 h1
  exact ⟨h2, h3⟩

/-- These blocks lie as they lay. -/
def KeepS (S : List Nat) (W W' : World) : Prop := ∀ b ∈ S, W'.heap[b]? = W.heap[b]?
theorem KeepS.refl {S : List Nat} (W : World) : KeepS S W W := fun _ _ => rfl
theorem KeepS.trans {S : List Nat} {X Y Z : World} (h : KeepS S X Y) (k : KeepS S Y Z) : KeepS S X Z := fun b hb => (k b hb).trans (h b hb)
theorem KeepS.new {S : List Nat} {w W : World} (hS : ∀ b ∈ S, b < w.heap.size) (n : New w W) : KeepS S w W := fun b hb => n.block b (hS b hb)
theorem own_keepS {β : Type} {S : List Nat} {w : World} {D : Nat} (hS : ∀ b ∈ S, ∃ o : Obj, w.heap[b]? = some o ∧ o.isCells = true) : OwnFrom D (fun (_ : β) W => KeepS S w W) := fun _ X Y row hs hg hr b hb => by
  obtain ⟨o, ho, hc⟩ := hS b hb
  have hX : X.heap[b]? = some o := (hs b hb).trans ho
  refine (hg.block b (Array.getElem?_eq_some_iff.1 hX).1 (fun e' => ?_)).trans (hs b hb)
  obtain ⟨_, o', ho', hc'⟩ := hr b e'.symm
  rw [hX] at ho'; cases ho'; rw [hc] at hc'; cases hc'
theorem cells_of_cell {W : World} {a : Addr} {v : Value} (h : W.cell? a = some v) : ∃ o : Obj, W.heap[a.block]? = some o ∧ o.isCells = true := by
  unfold World.cell? at h
  cases ho : W.heap[a.block]? with
  | none => simp [ho] at h
  | some o => exact ⟨o, rfl, by cases o <;> simp_all [Obj.isCells]⟩
/-- All blocks of cells of these types lie as they lay. -/
def KeepT (W W' : World) : Prop := ∀ (b : Nat) (cs : Array Value) (t : TypeId) (fr : Nat × Nat), (t = 24 ∨ t = 75) → W.heap[b]? = some (Obj.cells cs t fr) → W'.heap[b]? = W.heap[b]?
theorem KeepT.refl (W : World) : KeepT W W := fun _ _ _ _ _ _ => rfl
theorem KeepT.trans {X Y Z : World} (h : KeepT X Y) (k : KeepT Y Z) : KeepT X Z := fun b cs t fr ht hb => (k b cs t fr ht ((h b cs t fr ht hb).trans hb)).trans (h b cs t fr ht hb)
theorem KeepT.put {W : World} {d : Nat} (o : Obj) (h : ∃ r, W.heap[d]? = some (.loop r)) : KeepT W (W.putObj d o) := fun b cs t fr ht hb => World.putObj_heap_other (fun e => by subst e; obtain ⟨r, hr⟩ := h; rw [hb] at hr; cases hr)
def KeepO (S : List Nat) (W W' : World) : Prop := KeepS S W W' ∧ KeepT W W'

theorem RowBox.cells {w : World} {B : Nat} {at0 : Option Addr} {cap : Nat} {l : List Sn} (h : RowBox w B at0 cap l) : ∀ b ∈ [B, rowB l at0 B], ∃ o : Obj, w.heap[b]? = some o ∧ o.isCells = true := by
  intro b hb
  have hB : ∃ o : Obj, w.heap[B]? = some o ∧ o.isCells = true := ⟨_, h.box, rfl⟩
  rcases List.mem_cons.1 hb with rfl | hb
  · exact hB
  · rw [List.mem_singleton] at hb
    subst hb
    cases l with
    | nil => exact hB
    | cons x xs =>
      obtain ⟨b, off, rfl, hr⟩ := h.row (by simp)
      exact cells_of_cell (hr 0 (by simp) 0 (by rw [Sn.enc_len]; omega))

/-- What the iterator holds. -/
structure FEachAt (w : World) (C : CfgR) (Bo Bi Bc : Nat) (at0 : Option Addr) (cap : Nat) (l : List Sn) : Prop where
  own : RowBox w Bo at0 cap l
  fn : w.heap[Bi]? = some (.cells #[.func (.func 38) #[] #[.pointer (some ⟨Bo, 0, none⟩), .pointer (some ⟨Bc, 0, none⟩)]] 75 (0, 0))
  cfg : w.heap[Bc]? = some (.cells #[.int .i64 C.cl, .int .i64 C.cb, .int .i64 C.ht, .int .i64 C.ri, .int .i64 C.ru, .int .i64 C.wd, .int .i64 C.dp] 23 (0, 0))
def eachS (Bo Bi Bc : Nat) (at0 : Option Addr) (l : List Sn) : List Nat := [Bo, rowB l at0 Bo, Bi, Bc]
theorem FEachAt.keep {w W : World} {C : CfgR} {Bo Bi Bc : Nat} {at0 : Option Addr} {cap : Nat} {l : List Sn} (h : FEachAt w C Bo Bi Bc at0 cap l) (k : KeepS (eachS Bo Bi Bc at0 l) w W) : FEachAt W C Bo Bi Bc at0 cap l :=
  ⟨h.own.keep ⟨k _ (by simp [eachS]), k _ (by simp [eachS])⟩, (k _ (by simp [eachS])).trans h.fn, (k _ (by simp [eachS])).trans h.cfg⟩
theorem FEachAt.cells {w : World} {C : CfgR} {Bo Bi Bc : Nat} {at0 : Option Addr} {cap : Nat} {l : List Sn} (h : FEachAt w C Bo Bi Bc at0 cap l) : ∀ b ∈ eachS Bo Bi Bc at0 l, ∃ o : Obj, w.heap[b]? = some o ∧ o.isCells = true := by
  intro b hb
  simp only [eachS, List.mem_cons, List.not_mem_nil, or_false] at hb
  rcases hb with rfl | rfl | rfl | rfl
  · exact h.own.cells _ (by simp)
  · exact h.own.cells _ (by simp)
  · exact ⟨_, h.fn, rfl⟩
  · exact ⟨_, h.cfg, rfl⟩
theorem FEachAt.lt {w : World} {C : CfgR} {Bo Bi Bc : Nat} {at0 : Option Addr} {cap : Nat} {l : List Sn} (h : FEachAt w C Bo Bi Bc at0 cap l) : ∀ b ∈ eachS Bo Bi Bc at0 l, b < w.heap.size := fun b hb => by
  obtain ⟨o, ho, -⟩ := h.cells b hb
  exact (Array.getElem?_eq_some_iff.1 ho).1
theorem cfg_cells {w : World} {C : CfgR} {B : Nat} {t : TypeId} (h : w.heap[B]? = some (.cells #[.int .i64 C.cl, .int .i64 C.cb, .int .i64 C.ht, .int .i64 C.ri, .int .i64 C.ru, .int .i64 C.wd, .int .i64 C.dp] t (0, 0))) : CellsAt w B 0 C.enc := fun i hi => by
  rw [Nat.zero_add]
  exact cell_of_heap h (by
    have : i < 7 := hi
    rcases (show i = 0 ∨ i = 1 ∨ i = 2 ∨ i = 3 ∨ i = 4 ∨ i = 5 ∨ i = 6 by omega) with rfl | rfl | rfl | rfl | rfl | rfl | rfl <;> rfl)

theorem roundIn_wide {n m : Nat} {P : Program} {l : Nat} {f : FuncId} {tmps : Array Value} {assign body : Code} {w : World} {R : Ending → World → Prop} (h : RoundIn Fence.wide n P l f tmps assign body w R) : RoundIn Fence.wide m P l f tmps assign body w R :=
  ⟨h.1, fun c cs _ => h.2 c cs (room_wide _)⟩

theorem rowB_two (l : List Sn) (at0 : Option Addr) (B B' : Nat) : rowB l at0 B = B ∨ rowB l at0 B = rowB l at0 B' := by
  cases l with
  | nil => exact .inl rfl
  | cons x xs => cases at0 with
    | none => exact .inl rfl
    | some a => exact .inr rfl
theorem roundIn_in {n m l' : Nat} {P : Program} {l : Nat} {f : FuncId} {tmps : Array Value} {assign body : Code} {w : World} {R : Ending → World → Prop} (h : RoundIn Fence.wide n P l f tmps assign body w R) : RoundIn (Fence.wide.inRound l') m P l f tmps assign body w R :=
  ⟨h.1, fun c cs _ => h.2 c cs (room_wide _)⟩
theorem callsIn_in {m l' : Nat} {P : Program} {f : FuncId} {args : Array Value} {w : World} {R : Ending → World → Prop} (h : Calls P f args w R) : CallsIn (Fence.wide.inRound l') m P f args w R :=
  (callsIn_wide (n := m)).2 h
theorem grown_new {w w' : World} (h : New w w') : w.grownBy w' none := ⟨h.os, h.tape, h.output, h.size, fun k hk _ => h.block k hk⟩
theorem keepsFrom_new {B : Nat} {w w' : World} (h : New w w') : KeepsFrom B w w' := ⟨h.size, fun k o _ h0 _ => (h.block k (Array.getElem?_eq_some_iff.1 h0).1).trans h0⟩
theorem own_over {β : Type} {B : Nat} {J : β → World → Prop} (h : OwnFrom B J) {s : β} {w w' : World} (hs : J s w) (n : New w w') : J s w' := h s w w' none hs (grown_new n) (fun r e => by cases e)
theorem own_up {β γ : Type} {B B' : Nat} {J : β → World → Prop} (f : γ → β) (h : OwnFrom B J) (hB : B ≤ B') : OwnFrom B' (fun (s : γ) W => J (f s) W) := fun s X Y row hs hg hr => h (f s) X Y row hs hg (fun r e => ⟨Nat.le_trans hB (hr r e).1, (hr r e).2⟩)

set_option maxHeartbeats 4000000 in
set_option maxRecDepth 100000 in
theorem fi_each3 (C : CfgR) (at0 : Option Addr) (l : List Sn) (cap Bo Bi Bc : Nat) (hl : l.length ≤ 1000) (n : Nat) (hn : 4 ≤ n) (w : World) (H : FEachAt w C Bo Bi Bc at0 cap l) :
    SeqL Fence.wide n Tryz.prog 40 #[.pointer (some ⟨Bo, 0, none⟩), .pointer (some ⟨Bi, 0, none⟩)] (roomE l) (opL C l) (KeepO (eachS Bo Bi Bc at0 l)) w := by
  intro lp J Jx W hW hJ hJx hY h0
  have E0 : FEachAt W C Bo Bi Bc at0 cap l := H.keep (KeepS.new H.lt hW)
  clear H hW
  simp only [List.append_toArray, List.cons_append, List.nil_append]
  refine callsIn_of_wp_marks Tryz.func40 rfl trivial ?_ rfl
  simp only [Tryz.ntmps40, List.size_toArray, List.length_cons, List.length_nil, Nat.reduceAdd, Nat.reduceSub, Array.replicate_succ, Array.replicate_zero, List.push_toArray, List.append_toArray, List.nil_append, List.cons_append]
  refine wpIn_wide.2 ?_
  have HY := Lib.hid hY
  have HJ := Lib.hid hJ
  have HJx := Lib.hid hJx
  have H0 : Hid (J 0 W) := h0
  have HE0 := Lib.hid E0
  clear hY hJ hJx h0 E0
  go_upto_region 1 with fail
  refine Code.at (fun V1 hV => ?_)
  have n1 : New W V1 := by subst hV; (repeat (first | (with_reducible exact New.refl _) | (with_reducible assumption) | ((with_reducible refine New.setB ?_ ?_ _); focus (first | omega | (simp; omega) | (simp; done))) | (with_reducible refine New.alloc ?_ _) | (with_reducible refine New.drew ?_) | (with_reducible refine New.drewN ?_ _) | (with_reducible refine New.hat ?_ _) | ((with_reducible apply New.snart); (with_reducible assumption))))
  have z1 : V1.heap.size = W.heap.size + 1 := by subst hV; simp
  have y1 : V1.heap[W.heap.size]? = some (.cells #[.func (.yield lp) #[] #[]] 75 (0, 0)) := by subst hV; exact World.alloc_heap_new _ _
  have J1 : J 0 V1 := by subst hV; exact HJ.out.alloc _ H0.out
  clear hV
  have E1 := HE0.out.keep (KeepS.new HE0.out.lt n1)
  have c0 := E1.own.cell
  go_wp2_with fail
  refine (callsIn_wide.1 (fi_rooms at0 l.length cap 4 _)).mono ?_
  rintro e V2 ⟨rfl, hV⟩
  have n2 : New V1 V2 := by subst hV; (repeat (first | (with_reducible exact New.refl _) | (with_reducible assumption) | ((with_reducible refine New.setB ?_ ?_ _); focus (first | omega | (simp; omega) | (simp; done))) | (with_reducible refine New.alloc ?_ _) | (with_reducible refine New.drew ?_) | (with_reducible refine New.drewN ?_ _) | (with_reducible refine New.hat ?_ _) | ((with_reducible apply New.snart); (with_reducible assumption))))
  have z2 : V2.heap.size = W.heap.size + 1 + 1 := by subst hV; simp [z1]
  have x2 : V2.heap[W.heap.size + 1]? = some (.cells #[.slice at0 l.length cap] 24 (0, 0)) := by rw [← z1]; subst hV; exact World.alloc_heap_new _ _
  have y2 := New.stays n2 y1
  have J2 : J 0 V2 := by subst hV; exact HJ.out.alloc _ J1
  rw [z1]
  clear hV
  have E2 := E1.keep (KeepS.new E1.lt n2)
  have hn2 : New W V2 := n1.trans n2
  clear c0 E1 n1 n2 z1 y1 J1
  have RB : RowBox V2 (W.heap.size + 1) at0 cap l := ⟨x2, E2.own.row⟩
  go_wp2_with fail
  refine (wpIn_wide (n := n)).1 ?_
  have hlt := RB.lt
  have hrl := RB.row_lt
  have h2s := hn2.size
  have hS : ∀ b ∈ W.heap.size :: (W.heap.size + 1) :: eachS Bo Bi Bc at0 l, ∃ o : Obj, V2.heap[b]? = some o ∧ o.isCells = true := by
    intro b hb
    rcases List.mem_cons.1 hb with rfl | hb
    · exact ⟨_, y2, rfl⟩
    · rcases List.mem_cons.1 hb with rfl | hb
      · exact ⟨_, x2, rfl⟩
      · exact E2.cells b hb
  refine wpIn_rangeL rfl (by omega) (gf := 54) (lb := #[.pointer (some ⟨W.heap.size + 1, 0, none⟩)]) rfl trivial (enters_of Tryz.func54 (by kernel_rfl) rfl)
    (fi_rooms1 at0 l cap (W.heap.size + 1) hl (n - 1) (by omega) V2 RB) (fun h k => h.trans k) (fun V o _ => ⟨World.putObj_heap_other (by omega), World.putObj_heap_other (by omega)⟩) (Below.refl _ _) (fun _ => rfl)
    (fun i V => J (opN C l i) V ∧ KeepS (W.heap.size :: (W.heap.size + 1) :: eachS Bo Bi Bc at0 l) V2 V)
    (fun q i V => q = Code.ret ∧ ∃ j, (0 < j ∧ j ≤ (opL C l).length) ∧ Jx j V)
    (OwnFrom.and (own_up (opN C l) HJ.out h2s) (own_keepS hS))
    (fun q => OwnFrom.and (own_pure _ _) (fun s X Y row hs hg hr => by
      obtain ⟨j, hj, hs⟩ := hs
      exact ⟨j, hj, HJx.out j X Y row hs hg (fun r e => ⟨Nat.le_trans h2s (hr r e).1, (hr r e).2⟩)⟩))
    ⟨J2, KeepS.refl _⟩
    (fun i a' _ => a' = { tmps := #[.func (.yield lp) #[] #[], .pointer (some ⟨Bo, 0, none⟩), .pointer (some ⟨Bi, 0, none⟩), .pointer (some ⟨W.heap.size, 0, none⟩), .int .i64 (i : Nat), .int .i64 (roofF l i), .slice at0 l.length cap, .func (.func 54) #[] #[.pointer (some ⟨W.heap.size + 1, 0, none⟩)], .int .i64 (i : Nat), .int .i64 (roofF l i), undef, undef, undef, undef, undef, undef, undef, undef, undef, undef, undef], defers := [] })
    (fun i a' => fun _ _ _ _ hs _ _ => hs) ?assign ?body ?done ?stop
  case assign =>
    intro i hi V K hI hK
    simp only [roomE, List.getElem_range]
    simp only [List.zip_toArray, List.zip_cons_cons, List.zip_nil_right, List.foldl_toArray', List.foldl_cons, List.foldl_nil, List.setIfInBounds_toArray, List.set_cons_succ, List.set_cons_zero, List.size_toArray, List.length_cons, List.length_nil]
    gi_wp2
    exact hK _ _ (KeepsFrom.refl _ _) (Keep2.refl _) hI rfl
  case body =>
    rintro i hi a' V - ⟨hJ1, hK⟩ rfl
    have hil : i < l.length := by simpa using hi
    have hn1 : 1 ≤ n - 1 - 1 := by omega
    have hn2' : 1 ≤ n - 1 - 1 - 1 := by omega
    have E := E2.keep (fun b hb => hK b (List.mem_cons_of_mem _ (List.mem_cons_of_mem _ hb)))
    have yc := (show Boxed V _ _ _ from (hK W.heap.size (by simp)).trans y2).cell
    have bc := (show Boxed V _ _ _ from E.fn).cell
    have ko := fi_isOpen C at0 l cap Bo Bc i hil hl (roofF l i) V E.own (cfg_cells E.cfg)
    rw [← opnB_at C hil] at ko
    have hV : ∀ b ∈ W.heap.size :: (W.heap.size + 1) :: eachS Bo Bi Bc at0 l, b < V.heap.size := fun b hb => by
      obtain ⟨o, ho, -⟩ := hS b hb
      exact (Array.getElem?_eq_some_iff.1 ((hK b hb).trans ho)).1
    have hK2 : ∀ V', KeepS (W.heap.size :: (W.heap.size + 1) :: eachS Bo Bi Bc at0 l) V V' → Keep2 (W.heap.size + 1) (rowB l at0 (W.heap.size + 1)) V V' := fun V' h => by
      refine ⟨h _ (by simp), ?_⟩
      rcases rowB_two l at0 (W.heap.size + 1) Bo with e | e
      · rw [e]; exact h _ (by simp)
      · rw [e]; exact h _ (by simp [eachS])
    have HVV := Lib.hid hV
    have HK2 := Lib.hid hK2
    have HKK := Lib.hid hK
    have HJ1 : Hid (J (opN C l i) V) := hJ1
    have hsz := opN_succ C l i
    clear hJ1 hK hV hK2 H0 HE0
    cases ho : opnB C l i
    · rw [ho] at ko hsz
      have KO := Lib.hid ko
      have HSZ := Lib.hid hsz
      clear ko hsz ho
      gi_wp2_with (refine ⟨trivial, ?_⟩; gi_at_call 38; refine (callsIn_in KO.out).mono ?_; rintro e V3 ⟨rfl, n3⟩)
      refine ⟨fun _ h => (by cases h), ?_⟩
      gi_wp2_with fail
      have k3 := KeepS.new HVV.out n3
      refine ⟨keepsFrom_new n3, HK2.out _ k3, ?_, HKK.out.trans k3⟩
      rw [HSZ.out]
      exact own_over HJ.out HJ1.out n3
    · obtain ⟨hj, hje⟩ := opL_at C l hil ho
      rw [ho] at ko hsz
      have hyall := fun V3 q => HY.out (opN C l i) hj V3 q
      rw [hje] at hyall
      unfold roomE at hyall
      have KO := Lib.hid ko
      have HSZ := Lib.hid hsz
      have HYA := Lib.hid hyall
      have HJE := Lib.hid hj
      clear ko hsz ho hyall hje hj
      gi_wp2_with (refine ⟨trivial, ?_⟩; gi_at_call 38; refine (callsIn_in KO.out).mono ?_; rintro e V3 ⟨rfl, n3⟩; replace yc := n3.keep yc; (obtain ⟨fn, tmps, assign, body, hy, hR⟩ := HYA.out V3 (own_over HJ.out HJ1.out n3)))
      refine (roundIn_in hR).mono ?_
      clear hy hR
      rintro e V4 (⟨rfl, kf, ko, hJ4⟩ | ⟨rfl, kf, hJ4⟩)
      · have k3 := KeepS.new HVV.out n3
        have y3 := (k3 W.heap.size (by simp)).trans ((HKK.out W.heap.size (by simp)).trans y2)
        have r3 := (k3 (W.heap.size + 1) (by simp)).trans ((HKK.out (W.heap.size + 1) (by simp)).trans x2)
        have k4 : KeepS (W.heap.size :: (W.heap.size + 1) :: eachS Bo Bi Bc at0 l) V3 V4 := fun b hb => by
          rcases List.mem_cons.1 hb with rfl | hb
          · exact ko.2 _ _ _ _ (.inr rfl) y3
          · rcases List.mem_cons.1 hb with rfl | hb
            · exact ko.2 _ _ _ _ (.inl rfl) r3
            · exact ko.1 b hb
        have HJ4 := Lib.hid hJ4
        have HF := Lib.hid ((keepsFrom_new n3 : KeepsFrom V2.heap.size V V3).trans (keepsFrom_up kf h2s))
        have HK4 := Lib.hid (k3.trans k4)
        clear hJ4 kf ko k3 k4 y3 r3
        gi_wp2_with fail
        exact ⟨HF.out, HK2.out _ HK4.out, by rw [HSZ.out]; exact HJ4.out, HKK.out.trans HK4.out⟩
      · have HJ4 : Hid (∃ j, (0 < j ∧ j ≤ (opL C l).length) ∧ Jx j V4) := Lib.hid ⟨_, ⟨by omega, HJE.out⟩, hJ4⟩
        have HF := Lib.hid ((keepsFrom_new n3 : KeepsFrom V2.heap.size V V3).trans (keepsFrom_up kf h2s))
        clear hJ4 kf
        gi_wp2_with fail
        exact ⟨HF.out, rfl, HJ4.out⟩
  case done =>
    rintro V ⟨hJ1, hK⟩ hD
    rw [List.length_range] at hJ1
    have HJ1 : Hid (J (opL C l).length V) := hJ1
    clear hJ1
    go_wp2_with fail
    refine ret_mark hD fun U hU hk => ⟨_, results_none rfl _ _ _, ⟨_, rfl⟩, .inl ?_⟩
    rw [hU]
    exact HJ.out.putObj _ HJ1.out h2s hD rfl
  case stop =>
    rintro i q V hi0 hi1 ⟨rfl, j, hj, hJ1⟩ hD
    refine wpIn_wide.2 ?_
    have HJ1 := Lib.hid hJ1
    clear hJ1
    go_wp2_with fail
    refine ret_mark hD fun U hU hk => ⟨_, results_none rfl _ _ _, ⟨_, rfl⟩, .inr ⟨j, hj.1, hj.2, ?_⟩⟩
    rw [hU]
    exact HJx.out.putObj _ HJ1.out h2s hD rfl

end Go.Proofs.YtklopjbpfddgfaaGreat

/- Package filter: Each. -/
namespace Go.Proofs.YtklopjbpfddgfaaGreat
open Go.RowKit Go.Shelf Go.Sort
set_option linter.unusedVariables false
attribute [local go_sem] Oper.semAt_some

theorem run_store_func {P : Program} {a : Addr} {f : _root_.Go.Fn} {x y : Array Value} {m : Mode} {w : World} : (store a (.func f x y) m).run P w = stored P w a (.func f x y) m := run_store P w a _ m rfl
attribute [local go_sem] run_store_func

/-- What Each goes over. -/
def opX (C : CfgR) (l : List Sn) : List Nat := if fiE C l = 0 then opL C l else []

theorem fi_each1 (enc : Nat → Array Value) (Kp : World → World → Prop) (n : Nat) (w : World) : SeqL Fence.wide n Tryz.prog 36 #[] enc [] Kp w := by
  intro lp J Jx W hW hJ hJx hY h0
  simp only [List.append_toArray, List.cons_append, List.nil_append]
  refine callsIn_of_wp Tryz.func36 rfl trivial ?_ rfl
  simp only [Tryz.ntmps36, List.size_toArray, List.length_cons, List.length_nil, Nat.reduceAdd, Nat.reduceSub, Array.replicate_succ, Array.replicate_zero, List.push_toArray, List.append_toArray, List.nil_append, List.cons_append]
  have H0 : Hid (J 0 W) := h0
  clear h0
  gi_wp2_with fail
  go_end0
  exact ⟨⟨_, rfl⟩, .inl H0.out⟩

/-- What blocks an iterator lays: variables, a row of spans. -/
def LaidT (w : World) (b : Nat) : Prop := ∃ cs t fr, w.heap[b]? = some (.cells cs t fr) ∧ (t = 24 ∨ t = 75 ∨ t = 45 ∨ t = 23)
theorem LaidT.new {w w' : World} {b : Nat} (h : LaidT w b) (n : New w w') : LaidT w' b := by
  obtain ⟨cs, t, fr, h1, h2⟩ := h
  exact ⟨cs, t, fr, (n.block b (Array.getElem?_eq_some_iff.1 h1).1).trans h1, h2⟩
/-- What Each answers: a function that goes over the places of open spans. -/
def Eached (C : CfgR) (l : List Sn) (w : World) (e : Ending) (w' : World) : Prop :=
  New w w' ∧ ∃ (g : Nat) (lb : Array Value) (S : List Nat), e = .returned (.func (.func g) #[] lb) ∧ (∀ b ∈ S, w.heap.size ≤ b ∧ b < w'.heap.size ∧ LaidT w' b) ∧ (∀ args W, (callFunc g args).run Tryz.prog W = .ok (.enter g args) W) ∧ ∀ n, 4 ≤ n → SeqL Fence.wide n Tryz.prog g lb (roomE l) (opX C l) (KeepO S) w'

set_option maxHeartbeats 2000000 in
set_option maxRecDepth 100000 in
theorem fi_each (C : CfgR) (at0 : Option Addr) (l : List Sn) (c : Nat) (w : World) (h : Sl Sn.enc 3 w (.slice at0 l.length c) l) :
    Calls Tryz.prog 24 #[.agg #[.int .i64 C.cl, .int .i64 C.cb, .int .i64 C.ht, .int .i64 C.ri, .int .i64 C.ru, .int .i64 C.wd, .int .i64 C.dp], .slice at0 l.length c] w (Eached C l w) := by
  have hlm : l.length ≤ maxLen := by obtain ⟨_, h1, h2, _⟩ := h.row'; omega
  have KF := Lib.hid (fun W n => fi_check C at0 l c hlm W ((h.keep (n : New w W)).row'.2.2.2.2))
  have HS := Lib.hid h
  obtain ⟨r, hr⟩ : ∃ r, r = fiE C l := ⟨_, rfl⟩
  rw [← hr] at KF
  have HR := Lib.hid hr
  have h3 := fiE_three C l
  rw [← hr] at h3
  clear hr hlm h
  obtain ⟨Q, hQ⟩ : ∃ Q, Q = Eached C l w := ⟨_, rfl⟩
  rw [← hQ]
  have HQ := Lib.hid hQ
  clear hQ
  go_enter Tryz.func24, Tryz.ntmps24
  go_upto_region 1 with fail
  refine Code.at (fun W0 hW => ?_)
  have n0 : New w W0 := by subst hW; (repeat (first | (with_reducible exact New.refl _) | (with_reducible assumption) | ((with_reducible refine New.setB ?_ ?_ _); focus (first | omega | (simp; omega) | (simp; done))) | (with_reducible refine New.alloc ?_ _) | (with_reducible refine New.drew ?_) | (with_reducible refine New.drewN ?_ _) | (with_reducible refine New.hat ?_ _) | ((with_reducible apply New.snart); (with_reducible assumption))))
  have z0 : W0.heap.size = w.heap.size + 1 := by subst hW; simp
  have x0 : W0.heap[w.heap.size]? = some (.cells #[.int .i64 C.cl, .int .i64 C.cb, .int .i64 C.ht, .int .i64 C.ri, .int .i64 C.ru, .int .i64 C.wd, .int .i64 C.dp] 23 (0, 0)) := by subst hW; exact World.alloc_heap_new _ _
  clear hW
  obtain ⟨c0, c1, c2, c3, c4, c5, c6⟩ := CfgR.at (cfg_cells x0)
  go_wp2_with fail
  refine (KF.out _ n0).mono ?_
  rintro e W1 ⟨rfl, n1⟩
  have x1 := New.stays n1 x0
  have hn1 : New w W1 := n0.trans n1
  clear c0 c1 c2 c3 c4 c5 c6 x0 n1 z0 n0
  rcases h3 with rfl | h3
  · have KL := Lib.hid (fun hl => fi_clone at0 l c hl W1 (HS.out.keep hn1))
    have hl8 : l.length ≤ 8 := (chkE_zero (fiE_ok HR.out.symm).2).1
    go_wp2_with fail
    refine (KL.out (by omega)).mono ?_
    rintro e W2 ⟨a, d, rfl, hSl, n2, hab⟩
    have x2 := New.stays n2 x1
    have hn2 : New w W2 := hn1.trans n2
    have hwc : w.heap.size < W1.heap.size := (Array.getElem?_eq_some_iff.1 x1).1
    have HSl := Lib.hid hSl
    have HAB := Lib.hid hab
    have z2 := n2.size
    clear n2 x1 hSl hab
    go_wp2_with fail
    rw [HQ.out]
    show Eached C l w (.returned (.func (.func 40) #[] #[.pointer (some ⟨W2.heap.size, 0, none⟩), .pointer (some ⟨W2.heap.size + 1, 0, none⟩)])) _
    obtain ⟨U, hU⟩ : ∃ U, U = (W2.alloc (.cells #[.slice a l.length d] 24)).alloc (.cells #[.func (.func 38) #[] #[.pointer (some ⟨W2.heap.size, 0, none⟩), .pointer (some ⟨w.heap.size, 0, none⟩)]] 75) := ⟨_, rfl⟩
    rw [← hU]
    have nU : New W2 U := by subst hU; (repeat (first | (with_reducible exact New.refl _) | (with_reducible assumption) | ((with_reducible refine New.setB ?_ ?_ _); focus (first | omega | (simp; omega) | (simp; done))) | (with_reducible refine New.alloc ?_ _) | (with_reducible refine New.drew ?_) | (with_reducible refine New.drewN ?_ _) | (with_reducible refine New.hat ?_ _) | ((with_reducible apply New.snart); (with_reducible assumption))))
    have bx : U.heap[W2.heap.size]? = some (.cells #[.slice a l.length d] 24 (0, 0)) := by subst hU; exact (((New.refl _).alloc _)).stays (World.alloc_heap_new W2 _)
    have fx : U.heap[W2.heap.size + 1]? = some (.cells #[.func (.func 38) #[] #[.pointer (some ⟨W2.heap.size, 0, none⟩), .pointer (some ⟨w.heap.size, 0, none⟩)]] 75 (0, 0)) := by
      subst hU
      have h := World.alloc_heap_new (W2.alloc (.cells #[.slice a l.length d] 24)) (.cells #[.func (.func 38) #[] #[.pointer (some ⟨W2.heap.size, 0, none⟩), .pointer (some ⟨w.heap.size, 0, none⟩)]] 75)
      rw [World.size_alloc] at h
      exact h
    have E : FEachAt U C W2.heap.size (W2.heap.size + 1) w.heap.size a d l := ⟨⟨bx, (HSl.out.keep nU).row'.2.2.2.2⟩, fx, New.stays nU x2⟩
    refine ⟨hn2.trans nU, _, _, eachS W2.heap.size (W2.heap.size + 1) w.heap.size a l, rfl, fun b hb => ⟨?_, E.lt b hb, ?_⟩, enters_of Tryz.func40 (by kernel_rfl) rfl, fun n hn => by unfold opX; rw [if_pos HR.out.symm]; exact fi_each3 C a l d _ _ _ (by omega) n hn U E⟩
    all_goals simp only [eachS, List.mem_cons, List.not_mem_nil, or_false] at hb
    · rcases hb with rfl | rfl | rfl | rfl
      · omega
      · cases l with
        | nil => show w.heap.size ≤ W2.heap.size; omega
        | cons x xs => cases a with
          | none => show w.heap.size ≤ W2.heap.size; omega
          | some ad => have := (HAB.out ad rfl).1; show w.heap.size ≤ ad.block; omega
      · omega
      · omega
    · rcases hb with rfl | rfl | rfl | rfl
      · exact ⟨_, _, _, bx, .inl rfl⟩
      · cases l with
        | nil => exact ⟨_, _, _, bx, .inl rfl⟩
        | cons x xs => cases a with
          | none => exact ⟨_, _, _, bx, .inl rfl⟩
          | some ad =>
            obtain ⟨-, cs, fr, hcs⟩ := HAB.out ad rfl
            exact LaidT.new ⟨_, _, _, hcs, .inr (.inr (.inl rfl))⟩ nU
      · exact ⟨_, _, _, fx, .inr (.inl rfl)⟩
      · exact ⟨_, _, _, New.stays nU x2, .inr (.inr (.inr rfl))⟩
  · have hne : (r != 0) = true := by rcases h3 with rfl | rfl <;> rfl
    have hr0 : fiE C l ≠ 0 := by rw [← HR.out]; rcases h3 with rfl | rfl <;> decide
    clear h3
    go_wp2_with fail
    rw [HQ.out]
    exact ⟨hn1, _, #[], [], rfl, fun b hb => (by cases hb), enters_of Tryz.func36 (by kernel_rfl) rfl, fun n hn => by unfold opX; rw [if_neg hr0]; exact fi_each1 _ _ _ _⟩

end Go.Proofs.YtklopjbpfddgfaaGreat

/- Package open: what goes over a column's floors, as a contract by places: an iterator that itself ranges over the spans that are open. -/
namespace Go.Proofs.YtklopjbpfddgfaaGreat
open Go.RowKit Go.Shelf Go.Sort
set_option linter.unusedVariables false
attribute [local go_sem] Oper.semAt_some

/-- The floor on top of the k-th span. -/
def flOf (l : List Sn) (k : Nat) : Fl := ⟨(l[k]?.map (·.hi)).getD 0, roofF l k, 1⟩
theorem flOf_at {l : List Sn} {k : Nat} (h : k < l.length) : flOf l k = ⟨l[k].hi, roofF l k, 1⟩ := by unfold flOf; rw [List.getElem?_eq_getElem h]; rfl
/-- A column's floors. -/
def flX (C : CfgR) (l : List Sn) : List Fl := (opX C l).map (flOf l)
def flA (f : Fl) : Array Value := #[.agg #[.int .i64 f.y, .int .i64 f.top, .int .i64 f.area]]
theorem flX_len (C : CfgR) (l : List Sn) : (flX C l).length = (opX C l).length := List.length_map _
theorem flX_at {C : CfgR} {l : List Sn} {i : Nat} (h : i < (flX C l).length) : (flX C l)[i] = flOf l ((opX C l)[i]'(by rw [← flX_len]; exact h)) := by simp [flX]
theorem opX_in {C : CfgR} {l : List Sn} {i : Nat} (h : i < (opX C l).length) : fiE C l = 0 ∧ (opX C l)[i] < l.length := by
  have h0 : fiE C l = 0 := by
    by_cases h0 : fiE C l = 0
    · exact h0
    · unfold opX at h
      rw [if_neg h0] at h
      simp at h
  refine ⟨h0, ?_⟩
  have he : opX C l = opL C l := by unfold opX; rw [if_pos h0]
  have hm : (opX C l)[i] ∈ opL C l := by
    have := List.getElem_mem h
    generalize hx : (opX C l)[i] = x at *
    rw [he] at this
    exact this
  unfold opL at hm
  exact List.mem_range.1 (List.mem_filter.1 hm).1

/-- All blocks of cells of these types lie as they lay. -/
def KeepU (W W' : World) : Prop := ∀ (b : Nat) (cs : Array Value) (t : TypeId) (fr : Nat × Nat), (t = 24 ∨ t = 75 ∨ t = 45 ∨ t = 23 ∨ t = 65) → W.heap[b]? = some (Obj.cells cs t fr) → W'.heap[b]? = W.heap[b]?
theorem KeepU.refl (W : World) : KeepU W W := fun _ _ _ _ _ _ => rfl
theorem KeepU.trans {X Y Z : World} (h : KeepU X Y) (k : KeepU Y Z) : KeepU X Z := fun b cs t fr ht hb => (k b cs t fr ht ((h b cs t fr ht hb).trans hb)).trans (h b cs t fr ht hb)
theorem KeepU.put {W : World} {d : Nat} (o : Obj) (h : ∃ r, W.heap[d]? = some (.loop r)) : KeepU W (W.putObj d o) := fun b cs t fr ht hb => World.putObj_heap_other (fun e => by subst e; obtain ⟨r, hr⟩ := h; rw [hb] at hr; cases hr)
theorem KeepU.keepT {W W' : World} (h : KeepU W W') : KeepT W W' := fun b cs t fr ht hb => h b cs t fr (by rcases ht with rfl | rfl <;> simp) hb
theorem KeepU.laid {W W' : World} (h : KeepU W W') {b : Nat} (l : LaidT W b) : W'.heap[b]? = W.heap[b]? := by
  obtain ⟨cs, t, fr, h1, h2⟩ := l
  exact h b cs t fr (by rcases h2 with rfl | rfl | rfl | rfl <;> simp) h1
def KeepG (S : List Nat) (W W' : World) : Prop := KeepS S W W' ∧ KeepU W W'

/-- What the iterator holds. -/
structure FloAt (w : World) (C : CfgR) (Bc Bl : Nat) (at0 : Option Addr) (cap : Nat) (l : List Sn) : Prop where
  cfg : w.heap[Bc]? = some (.cells #[.int .i64 C.cl, .int .i64 C.cb, .int .i64 C.ht, .int .i64 C.ri, .int .i64 C.ru, .int .i64 C.wd, .int .i64 C.dp] 23 (0, 0))
  box : w.heap[Bl]? = some (.cells #[.slice at0 l.length cap] 24 (0, 0))
  row : Sl Sn.enc 3 w (.slice at0 l.length cap) l
def floS (Bc Bl : Nat) (at0 : Option Addr) (l : List Sn) : List Nat := [Bc, Bl, rowB l at0 Bl]
theorem FloAt.rb {w : World} {C : CfgR} {Bc Bl : Nat} {at0 : Option Addr} {cap : Nat} {l : List Sn} (h : FloAt w C Bc Bl at0 cap l) : RowBox w Bl at0 cap l := ⟨h.box, h.row.row'.2.2.2.2⟩
theorem FloAt.keep {w W : World} {C : CfgR} {Bc Bl : Nat} {at0 : Option Addr} {cap : Nat} {l : List Sn} (h : FloAt w C Bc Bl at0 cap l) (k : KeepS (floS Bc Bl at0 l) w W) : FloAt W C Bc Bl at0 cap l := by
  have r := h.rb.keep (W := W) ⟨k _ (by simp [floS]), k _ (by simp [floS])⟩
  obtain ⟨a, c, e, h1, h2, h3, h4⟩ := h.row
  injection e with e1 e2 e3
  subst e1 e3
  exact ⟨(k _ (by simp [floS])).trans h.cfg, r.box, _, _, rfl, h1, h2, h3, r.row⟩
theorem FloAt.cells {w : World} {C : CfgR} {Bc Bl : Nat} {at0 : Option Addr} {cap : Nat} {l : List Sn} (h : FloAt w C Bc Bl at0 cap l) : ∀ b ∈ floS Bc Bl at0 l, ∃ o : Obj, w.heap[b]? = some o ∧ o.isCells = true := by
  intro b hb
  simp only [floS, List.mem_cons, List.not_mem_nil, or_false] at hb
  rcases hb with rfl | rfl | rfl
  · exact ⟨_, h.cfg, rfl⟩
  · exact ⟨_, h.box, rfl⟩
  · exact h.rb.cells _ (by simp)
theorem FloAt.lt {w : World} {C : CfgR} {Bc Bl : Nat} {at0 : Option Addr} {cap : Nat} {l : List Sn} (h : FloAt w C Bc Bl at0 cap l) : ∀ b ∈ floS Bc Bl at0 l, b < w.heap.size := fun b hb => by
  obtain ⟨o, ho, -⟩ := h.cells b hb
  exact (Array.getElem?_eq_some_iff.1 ho).1

set_option maxHeartbeats 4000000 in
set_option maxRecDepth 100000 in
theorem og_floors1 (C : CfgR) (at0 : Option Addr) (l : List Sn) (cap Bc Bl : Nat) (n : Nat) (hn : 7 ≤ n) (w : World) (H : FloAt w C Bc Bl at0 cap l) :
    SeqL Fence.wide n Tryz.prog 26 #[.pointer (some ⟨Bc, 0, none⟩), .pointer (some ⟨Bl, 0, none⟩)] flA (flX C l) (KeepG (floS Bc Bl at0 l)) w := by
  intro lp J Jx W hW hJ hJx hY h0
  have E0 : FloAt W C Bc Bl at0 cap l := H.keep (KeepS.new H.lt hW)
  clear H hW
  simp only [List.append_toArray, List.cons_append, List.nil_append]
  refine callsIn_of_wp_marks Tryz.func26 rfl trivial ?_ rfl
  simp only [Tryz.ntmps26, List.size_toArray, List.length_cons, List.length_nil, Nat.reduceAdd, Nat.reduceSub, Array.replicate_succ, Array.replicate_zero, List.push_toArray, List.append_toArray, List.nil_append, List.cons_append]
  refine wpIn_wide.2 ?_
  have HY := Lib.hid hY
  have HJ := Lib.hid hJ
  have HJx := Lib.hid hJx
  have H0 : Hid (J 0 W) := h0
  have HE0 := Lib.hid E0
  clear hY hJ hJx h0 E0
  go_upto_region 1 with fail
  refine Code.at (fun V1 hV => ?_)
  have n1 : New W V1 := by subst hV; (repeat (first | (with_reducible exact New.refl _) | (with_reducible assumption) | ((with_reducible refine New.setB ?_ ?_ _); focus (first | omega | (simp; omega) | (simp; done))) | (with_reducible refine New.alloc ?_ _) | (with_reducible refine New.drew ?_) | (with_reducible refine New.drewN ?_ _) | (with_reducible refine New.hat ?_ _) | ((with_reducible apply New.snart); (with_reducible assumption))))
  have z1 : V1.heap.size = W.heap.size + 1 := by subst hV; simp
  have y1 : V1.heap[W.heap.size]? = some (.cells #[.func (.yield lp) #[] #[]] 65 (0, 0)) := by subst hV; exact World.alloc_heap_new _ _
  have J1 : J 0 V1 := by subst hV; exact HJ.out.alloc _ H0.out
  clear hV
  have E1 := HE0.out.keep (KeepS.new HE0.out.lt n1)
  obtain ⟨c0, c1, c2, c3, c4, c5, c6⟩ := CfgR.at (cfg_cells E1.cfg)
  have b0 := E1.rb.cell
  have KE := fi_each C at0 l cap V1 E1.row
  go_wp2_with fail
  refine KE.mono ?_
  rintro e V ⟨n2, g, lb, S, rfl, hSb, heg, hsq⟩
  have E2 := E1.keep (KeepS.new E1.lt n2)
  have y2 := New.stays n2 y1
  have J2 : J 0 V := own_over HJ.out J1 n2
  have hn2 : New W V := n1.trans n2
  have z2 := n2.size
  clear c0 c1 c2 c3 c4 c5 c6 b0 KE E1 n1 y1 J1 n2
  go_wp2_with fail
  refine (wpIn_wide (n := n)).1 ?_
  have h2s := hn2.size
  obtain ⟨S2, hS2⟩ : ∃ S2, S2 = W.heap.size :: (floS Bc Bl at0 l ++ S) := ⟨_, rfl⟩
  have hSo : ∀ b ∈ S2, ∃ o : Obj, V.heap[b]? = some o ∧ o.isCells = true := by
    intro b hb
    rw [hS2] at hb
    rcases List.mem_cons.1 hb with rfl | hb
    · exact ⟨_, y2, rfl⟩
    · rcases List.mem_append.1 hb with hb | hb
      · exact E2.cells b hb
      · obtain ⟨cs, t, fr, h1, -⟩ := (hSb b hb).2.2
        exact ⟨_, h1, rfl⟩
  have s0 : W.heap.size ∈ S2 := by rw [hS2]; simp
  have s1 : ∀ b ∈ floS Bc Bl at0 l, b ∈ S2 := fun b hb => by rw [hS2]; exact List.mem_cons_of_mem _ (List.mem_append_left _ hb)
  have s2 : ∀ b ∈ S, b ∈ S2 := fun b hb => by rw [hS2]; exact List.mem_cons_of_mem _ (List.mem_append_right _ hb)
  have s3 : ∀ b ∈ S2, b = W.heap.size ∨ b ∈ floS Bc Bl at0 l ∨ b ∈ S := fun b hb => by
    rw [hS2] at hb
    rcases List.mem_cons.1 hb with h | hb
    · exact .inl h
    · exact .inr (List.mem_append.1 hb)
  clear hS2
  refine wpIn_rangeL rfl (by omega) (gf := g) (lb := lb) rfl trivial heg (hsq (n - 1) (by omega)) (fun h k => ⟨h.1.trans k.1, h.2.trans k.2⟩)
    (fun U o hr => ⟨fun b hb => World.putObj_heap_other (by have := (hSb b hb).2; omega), KeepT.put o hr⟩) (Below.refl _ _) (fun _ => rfl)
    (fun i U => J i U ∧ KeepS S2 V U)
    (fun q i U => q = Code.ret ∧ ∃ j, (0 < j ∧ j ≤ (flX C l).length) ∧ Jx j U)
    (OwnFrom.and (own_up id HJ.out h2s) (own_keepS hSo))
    (fun q => OwnFrom.and (own_pure _ _) (fun s X Y row hs hg hr => by
      obtain ⟨j, hj, hs⟩ := hs
      exact ⟨j, hj, HJx.out j X Y row hs hg (fun r e => ⟨Nat.le_trans h2s (hr r e).1, (hr r e).2⟩)⟩))
    ⟨J2, KeepS.refl _⟩
    (fun i a' _ => ∃ k : Nat, (opX C l)[i]? = some k ∧ a' = { tmps := #[.func (.yield lp) #[] #[], .pointer (some ⟨Bc, 0, none⟩), .pointer (some ⟨Bl, 0, none⟩), .pointer (some ⟨W.heap.size, 0, none⟩), .int .i64 (k : Nat), .int .i64 (roofF l k), .agg #[.int .i64 C.cl, .int .i64 C.cb, .int .i64 C.ht, .int .i64 C.ri, .int .i64 C.ru, .int .i64 C.wd, .int .i64 C.dp], .slice at0 l.length cap, .func (.func g) #[] lb, .int .i64 (k : Nat), .int .i64 (roofF l k), undef, undef, undef, undef, undef, undef, undef, undef, undef, undef], defers := [] })
    (fun i a' => fun _ _ _ _ hs _ _ => hs) ?assign ?body ?done ?stop
  case assign =>
    intro i hi U K hI hK
    generalize hk : (opX C l)[i] = k
    simp only [roomE]
    simp only [List.zip_toArray, List.zip_cons_cons, List.zip_nil_right, List.foldl_toArray', List.foldl_cons, List.foldl_nil, List.setIfInBounds_toArray, List.set_cons_succ, List.set_cons_zero, List.size_toArray, List.length_cons, List.length_nil]
    gi_wp2
    exact hK _ _ (KeepsFrom.refl _ _) ⟨KeepS.refl _, KeepT.refl _⟩ hI ⟨k, by rw [List.getElem?_eq_getElem hi, hk], rfl⟩
  case body =>
    rintro i hi a' U - ⟨hJ1, hK⟩ ⟨k, hk, rfl⟩
    have hn1 : 1 ≤ n - 1 - 1 := by omega
    have hn2' : 1 ≤ n - 1 - 1 - 1 := by omega
    have hkl : k < l.length := by
      have h := (opX_in hi).2
      have : (opX C l)[i] = k := by rw [List.getElem?_eq_getElem hi] at hk; exact Option.some.inj hk
      rwa [this] at h
    have E := E2.keep (fun b hb => hK b (s1 b hb))
    have yc := (show Boxed U _ _ _ from (hK W.heap.size s0).trans y2).cell
    have bc := E.rb.cell
    obtain ⟨b0, off, ha, hA⟩ := E.rb.row (by omega)
    subst ha
    obtain ⟨d0, d1, d2⟩ := Sn.cells hA k hkl
    have hfi : i < (flX C l).length := by rw [flX_len]; exact hi
    have hfe : (flX C l)[i] = ⟨l[k].hi, roofF l k, 1⟩ := by
      have : (opX C l)[i] = k := by rw [List.getElem?_eq_getElem hi] at hk; exact Option.some.inj hk
      rw [flX_at, this, flOf_at hkl]
    have hyall := fun V3 q => HY.out i hfi V3 q
    rw [hfe] at hyall
    have HYA := Lib.hid hyall
    have HJ1 := Lib.hid hJ1
    have HKK := Lib.hid hK
    obtain ⟨hy2, hhy⟩ : ∃ q, q = l[k].hi := ⟨_, rfl⟩
    rw [← hhy] at d1 HYA
    obtain ⟨rf, hrf⟩ : ∃ q, q = roofF l k := ⟨_, rfl⟩
    rw [← hrf] at HYA ⊢
    have HFI := Lib.hid hfi
    clear hyall hJ1 hK H0 HE0 E hA d0 d2 hhy hrf hfe hk hfi
    generalize l.length = m at *
    have bcd : U.drew.cell? ⟨Bl, 0, none⟩ = some (.slice (some ⟨b0, off, none⟩) m cap) := bc
    have ycd : U.drew.cell? ⟨W.heap.size, 0, none⟩ = some (.func (.yield lp) #[] #[]) := yc
    have d1d : U.drew.cell? ⟨b0, off + k * 3 + 1, none⟩ = some (.int .i64 hy2) := d1
    clear bc yc d1
    gi_wp2_with fail
    refine wpIn_region_loose 8 (fun _ w1 w2 => w2 = w1) (fun _ w1 => w1 = U.drew) (fun i w' v => match i with
      | 0 => v = .func (.yield lp) #[] #[] ∧ w' = U.drew
      | 1 => v = .slice (some ⟨b0, off, none⟩) m cap
      | 2 => v = .int .i64 (k : Nat)
      | 3 => v = .pointer (some ⟨b0, off + k * 3, none⟩)
      | 4 => v = .pointer (some ⟨b0, off + k * 3 + 1, none⟩)
      | 5 => v = .int .i64 hy2
      | 6 => v = .int .i64 rf
      | 7 => v = .agg #[.int .i64 hy2, .int .i64 rf, .int .i64 1]
      | _ => True) (by kernel_rfl) (by kernel_rfl) (by kernel_rfl) ?_ ?_ ?_ ?_ ?_
    · rintro i j' w1 w2 v hij h rfl
      exact h
    · rfl
    · rintro listed j' w1 w2 hj' hs h rfl
      exact h
    · intro i o listed hi ho hls a' w' hKK hr hd
      subst hKK
      rcases (show i = 0 ∨ i = 1 ∨ i = 2 ∨ i = 3 ∨ i = 4 ∨ i = 5 ∨ i = 6 ∨ i = 7 by omega) with rfl | rfl | rfl | rfl | rfl | rfl | rfl | rfl <;> obtain rfl := Option.some.inj ho
      · have r3 : (a'.tmps[3]?).getD undef = .pointer (some ⟨W.heap.size, 0, none⟩) := (eval_get a' 3).symm.trans (hr 3 (by kernel_rfl))
        exact ⟨_, _, by go_simp, rfl, rfl, rfl⟩
      · have r2 : (a'.tmps[2]?).getD undef = .pointer (some ⟨Bl, 0, none⟩) := (eval_get a' 2).symm.trans (hr 2 (by kernel_rfl))
        exact ⟨_, _, by go_simp, rfl, rfl⟩
      · have r4 : (a'.tmps[4]?).getD undef = .int .i64 (k : Nat) := (eval_get a' 4).symm.trans (hr 4 (by kernel_rfl))
        exact ⟨_, _, by go_simp, rfl, rfl⟩
      · have r12 : (a'.tmps[12]?).getD undef = .slice (some ⟨b0, off, none⟩) m cap := (eval_get a' 12).symm.trans (hd 1 12 (by omega) (by kernel_rfl) (by kernel_rfl))
        have r13 : (a'.tmps[13]?).getD undef = .int .i64 (k : Nat) := (eval_get a' 13).symm.trans (hd 2 13 (by omega) (by kernel_rfl) (by kernel_rfl))
        exact ⟨_, _, by go_simp, rfl, rfl⟩
      · have r14 : (a'.tmps[14]?).getD undef = .pointer (some ⟨b0, off + k * 3, none⟩) := (eval_get a' 14).symm.trans (hd 3 14 (by omega) (by kernel_rfl) (by kernel_rfl))
        exact ⟨_, _, by go_simp, rfl, rfl⟩
      · have r15 : (a'.tmps[15]?).getD undef = .pointer (some ⟨b0, off + k * 3 + 1, none⟩) := (eval_get a' 15).symm.trans (hd 4 15 (by omega) (by kernel_rfl) (by kernel_rfl))
        exact ⟨_, _, by go_simp, rfl, rfl⟩
      · have r5 : (a'.tmps[5]?).getD undef = .int .i64 rf := (eval_get a' 5).symm.trans (hr 5 (by kernel_rfl))
        exact ⟨_, _, by go_simp, rfl, rfl⟩
      · have r16 : (a'.tmps[16]?).getD undef = .int .i64 hy2 := (eval_get a' 16).symm.trans (hd 5 16 (by omega) (by kernel_rfl) (by kernel_rfl))
        have r17 : (a'.tmps[17]?).getD undef = .int .i64 rf := (eval_get a' 17).symm.trans (hd 6 17 (by omega) (by kernel_rfl) (by kernel_rfl))
        exact ⟨_, _, by go_simp, rfl, rfl⟩
    · intro vs w' hv'
      obtain ⟨e0, rfl⟩ := hv' 0 (by omega)
      have e1 := hv' 1 (by omega)
      have e2 := hv' 2 (by omega)
      have e3 := hv' 3 (by omega)
      have e4 := hv' 4 (by omega)
      have e5 := hv' 5 (by omega)
      have e6 := hv' 6 (by omega)
      have e7 := hv' 7 (by omega)
      simp only [] at e0 e1 e2 e3 e4 e5 e6 e7
      clear hv'
      simp only [List.take_succ_cons, List.take_zero, List.drop_succ_cons, List.drop_zero, putL, Act.put, List.setIfInBounds_toArray, List.set_cons_zero, List.set_cons_succ, Nat.reduceAdd, Nat.zero_add]
      rw [e0, e1, e2, e3, e4, e5, e6, e7]
      clear e0 e1 e2 e3 e4 e5 e6 e7 bcd ycd d1d
      have nU : New U U.drew := (New.refl _).drew
      have hJ2 := own_over HJ.out HJ1.out nU
      have hlt : ∀ b ∈ S2, b < U.heap.size := fun b hb => by
        obtain ⟨o, ho, -⟩ := hSo b hb
        exact (Array.getElem?_eq_some_iff.1 ((HKK.out b hb).trans ho)).1
      have hK2 : KeepS S2 V U.drew := HKK.out.trans (KeepS.new hlt nU)
      have KO0 : Hid (KeepO S U U.drew) := Lib.hid ⟨KeepS.new (fun b hb => hlt b (s2 b hb)) nU, fun b cs t fr ht hb => nU.block b (Array.getElem?_eq_some_iff.1 hb).1⟩
      have HN := Lib.hid nU
      clear nU HKK HJ1 hlt
      generalize U.drew = U2 at *
      have HJ2 := Lib.hid hJ2
      have HK2 := Lib.hid hK2
      have hyz := HYA.out U2 HJ2.out
      unfold flA at hyz
      simp only at hyz
      obtain ⟨fn, tmps, assign, body, hy, hR⟩ := hyz
      clear hJ2 hK2 HYA
      gi_wp2_with fail
      refine (roundIn_in hR).mono ?_
      clear hy hR
      have u2 : ∀ U3, KeepsFrom W.heap.size U2 U3 → KeepsFrom V.heap.size U U3 := fun U3 kf => (keepsFrom_new HN.out).trans (keepsFrom_up kf h2s)
      rintro e U3 (⟨rfl, kf, ko, hJ4⟩ | ⟨rfl, kf, hJ4⟩)
      · have k4 : KeepS S2 U2 U3 := fun b hb => by
          rcases s3 b hb with rfl | h | h
          · exact ko.2 _ _ _ _ (.inr (.inr (.inr (.inr rfl)))) ((HK2.out _ hb).trans y2)
          · exact ko.1 b h
          · obtain ⟨cs, t, fr, h1, h2⟩ := (hSb b h).2.2
            exact ko.2.laid ⟨cs, t, fr, (HK2.out _ hb).trans h1, h2⟩
        have HO : Hid (KeepO S U U3) := Lib.hid ⟨KO0.out.1.trans (fun b hb => k4 b (s2 b hb)), KO0.out.2.trans ko.2.keepT⟩
        have HF := Lib.hid (u2 _ kf)
        have HJ4 := Lib.hid hJ4
        have HK4 := Lib.hid (HK2.out.trans k4)
        clear hJ4 kf ko k4 u2
        gi_wp2_with fail
        exact ⟨HF.out, HO.out, HJ4.out, HK4.out⟩
      · have HJ4 : Hid (∃ j, (0 < j ∧ j ≤ (flX C l).length) ∧ Jx j U3) := Lib.hid ⟨_, ⟨by omega, HFI.out⟩, hJ4⟩
        have HF := Lib.hid (u2 _ kf)
        clear hJ4 kf u2
        gi_wp2_with fail
        exact ⟨HF.out, rfl, HJ4.out⟩
  case done =>
    rintro U ⟨hJ1, hK⟩ hD
    rw [← flX_len] at hJ1
    have HJ1 : Hid (J (flX C l).length U) := hJ1
    clear hJ1
    go_wp2_with fail
    refine ret_mark hD fun U2 hU hk => ⟨_, results_none rfl _ _ _, ⟨_, rfl⟩, .inl ?_⟩
    rw [hU]
    exact HJ.out.putObj _ HJ1.out h2s hD rfl
  case stop =>
    rintro i q U hi0 hi1 ⟨rfl, j, hj, hJ1⟩ hD
    refine wpIn_wide.2 ?_
    have HJ1 := Lib.hid hJ1
    clear hJ1
    go_wp2_with fail
    refine ret_mark hD fun U2 hU hk => ⟨_, results_none rfl _ _ _, ⟨_, rfl⟩, .inr ⟨j, hj.1, hj.2, ?_⟩⟩
    rw [hU]
    exact HJx.out.putObj _ HJ1.out h2s hD rfl

end Go.Proofs.YtklopjbpfddgfaaGreat

/- Rows of whole numbers, and how two are compared. -/
namespace Go.Proofs.YtklopjbpfddgfaaGreat
open Go.RowKit
set_option linter.unusedVariables false
set_option maxRecDepth 100000

abbrev iE (t : Int) : List Value := [.int .i64 t]
theorem iE_len (t : Int) : (iE t).length = 1 := rfl
theorem int_info : (Tryz.prog.info? 3).map (fun i => (i.zero, i.size, i.bytes)) = some (some (.int .i64 0), 1, 8) := by kernel_rfl
theorem cells_int (w : World) (t : Int) (ty : TypeId) : ∀ j u, (iE t)[j]? = some u → (w.alloc (.cells #[.int .i64 t] ty)).cell? ((⟨w.heap.size, 0, none⟩ : Addr).add j) = some u := by
  intro j u hj
  match j, hj with
  | 0, hj => simp at hj; subst hj; simp [Addr.add]
  | j + 1, hj => simp at hj

theorem sl_at {w : World} {v : Value} {l : List Int} (h : Sl iE 1 w v l) : ∃ at0 c, v = .slice at0 l.length c ∧ l.length ≤ c ∧ c ≤ maxLen ∧ ∀ j (hj : j < l.length), ∃ b off, at0 = some ⟨b, off, none⟩ ∧ w.cell? ⟨b, off + j, none⟩ = some (.int .i64 l[j]) := by
  obtain ⟨at0, c, e, h1, h2, -, h3⟩ := h
  refine ⟨at0, c, e, h1, h2, fun j hj => ?_⟩
  obtain ⟨b, off, e1, h4⟩ := h3 (by omega)
  refine ⟨b, off, e1, ?_⟩
  have := h4 j hj 0 (by simp)
  simpa using this

end Go.Proofs.YtklopjbpfddgfaaGreat

/- Package filter: Open. -/
namespace Go.Proofs.YtklopjbpfddgfaaGreat
open Go.RowKit Go.Shelf Go.Sort
set_option linter.unusedVariables false
attribute [local go_sem] Oper.semAt_some

theorem ownsRow_down {w : World} {base b0 size : Nat} {e : TypeId} {v : Value} {n : Nat} {xs : List Value} (h : w.ownsRow base e size v n xs) (hb : b0 ≤ base) : w.ownsRow b0 e size v n xs := by
  obtain ⟨h1, h2⟩ := h
  refine ⟨h1, h2.imp id ?_⟩
  rintro ⟨g, cap, cur, rfl, hg, r⟩
  exact ⟨g, cap, cur, rfl, Nat.le_trans hb hg, r⟩

/-- What an append of whole numbers to a row of one's own, in a box, leaves as it lay. -/
theorem app_keepO {W w1 : World} {P base k : Nat} {v v' : Value} {xs : List Value} {tmp : Obj} (hv : Boxed W P 46 v) (hrow : W.ownsRow base 3 1 v k xs) (hgrow : (W.alloc tmp).grownBy w1 v.ownBlock) {S : List Nat} (hS : ∀ b ∈ S, b < base ∧ b ≠ P ∧ b < W.heap.size) : KeepO S W (w1.setCell ⟨P, 0, none⟩ v') := by
  refine ⟨fun b hb => ?_, fun b cs t fr ht hb => ?_⟩
  · obtain ⟨h1, h2, h3⟩ := hS b hb
    rw [Below.heap_setCell _ _ _ _ h2]
    refine (hgrow.block b (by simp; omega) (fun e' => ?_)).trans (Below.heap_alloc W tmp b h3)
    have := own_block hrow b e'.symm
    omega
  · have hlt : b < W.heap.size := (Array.getElem?_eq_some_iff.1 hb).1
    have hP : b ≠ P := fun e => by
      subst e
      have h1 := (show W.heap[b]? = _ from hv).symm.trans hb
      injection h1 with h1
      injection h1 with _ h1
      rcases ht with rfl | rfl <;> cases h1
    rw [Below.heap_setCell _ _ _ _ hP]
    refine (hgrow.block b (by simp; omega) (fun e' => ?_)).trans (Below.heap_alloc W tmp b hlt)
    rcases hrow.2 with ⟨rfl, _⟩ | ⟨g, cap, cur, rfl, _, hgb, _⟩
    · simp [Value.ownBlock] at e'
    · obtain rfl : b = g := by simpa [Value.ownBlock] using e'
      rw [hb] at hgb
      injection hgb with hgb
      injection hgb with _ hgb
      rcases ht with rfl | rfl <;> cases hgb

def opI (C : CfgR) (l : List Sn) : List Int := (opX C l).map (fun k : Nat => (k : Int))

set_option maxHeartbeats 4000000 in
set_option maxRecDepth 100000 in
theorem fi_open (C : CfgR) (at0 : Option Addr) (l : List Sn) (c : Nat) (w : World) (h : Sl Sn.enc 3 w (.slice at0 l.length c) l) :
    Calls Tryz.prog 14 #[.agg #[.int .i64 C.cl, .int .i64 C.cb, .int .i64 C.ht, .int .i64 C.ri, .int .i64 C.ru, .int .i64 C.wd, .int .i64 C.dp], .slice at0 l.length c] w fun e w' => ∃ v, e = .returned (.tuple #[v, .int .i64 (fiE C l)]) ∧ Sl iE 1 w' v (opI C l) ∧ New w w' := by
  obtain ⟨i0, hi, hz0, hz1, hz2⟩ := info_parts int_info
  have hlm : l.length ≤ maxLen := by obtain ⟨_, h1, h2, _⟩ := h.row'; omega
  have KF := Lib.hid (fun W n => fi_check C at0 l c hlm W ((h.keep (n : New w W)).row'.2.2.2.2))
  have KE := Lib.hid (fun W n => fi_each C at0 l c W (h.keep (n : New w W)))
  obtain ⟨r, hr⟩ : ∃ r, r = fiE C l := ⟨_, rfl⟩
  rw [← hr] at KF ⊢
  have HR := Lib.hid hr
  have h3 := fiE_three C l
  rw [← hr] at h3
  clear hr hlm h
  refine (callsIn_wide (n := 8)).1 ?_
  refine callsIn_of_wp_marks Tryz.func14 rfl trivial ?_ rfl
  simp only [Tryz.ntmps14, List.size_toArray, List.length_cons, List.length_nil, Nat.reduceAdd, Nat.reduceSub, Array.replicate_succ, Array.replicate_zero, List.push_toArray, List.append_toArray, List.nil_append, List.cons_append]
  refine wpIn_wide.2 ?_
  go_upto_region 1 with fail
  refine Code.at (fun W0 hW => ?_)
  have n0 : New w W0 := by subst hW; (repeat (first | (with_reducible exact New.refl _) | (with_reducible assumption) | ((with_reducible refine New.setB ?_ ?_ _); focus (first | omega | (simp; omega) | (simp; done))) | (with_reducible refine New.alloc ?_ _) | (with_reducible refine New.drew ?_) | (with_reducible refine New.drewN ?_ _) | (with_reducible refine New.hat ?_ _) | ((with_reducible apply New.snart); (with_reducible assumption))))
  have x0 : W0.heap[w.heap.size]? = some (.cells #[.int .i64 C.cl, .int .i64 C.cb, .int .i64 C.ht, .int .i64 C.ri, .int .i64 C.ru, .int .i64 C.wd, .int .i64 C.dp] 23 (0, 0)) := by subst hW; exact World.alloc_heap_new _ _
  clear hW
  obtain ⟨c0, c1, c2, c3, c4, c5, c6⟩ := CfgR.at (cfg_cells x0)
  go_wp2_with fail
  refine (KF.out _ n0).mono ?_
  rintro e W1 ⟨rfl, n1⟩
  have x1 := New.stays n1 x0
  have hn1 : New w W1 := n0.trans n1
  clear c0 c1 c2 c3 c4 c5 c6 x0 n1 n0
  rcases h3 with rfl | h3
  · go_upto_region 5 with fail
    refine Code.at (fun W2 hW => ?_)
    have n2 : New W1 W2 := by subst hW; (repeat (first | (with_reducible exact New.refl _) | (with_reducible assumption) | ((with_reducible refine New.setB ?_ ?_ _); focus (first | omega | (simp; omega) | (simp; done))) | (with_reducible refine New.alloc ?_ _) | (with_reducible refine New.drew ?_) | (with_reducible refine New.drewN ?_ _) | (with_reducible refine New.hat ?_ _) | ((with_reducible apply New.snart); (with_reducible assumption))))
    have bx : Boxed W2 W1.heap.size 46 (.slice none 0 0) := by subst hW; exact World.alloc_heap_new _ _
    have z2 : W2.heap.size = W1.heap.size + 1 := by subst hW; simp
    clear hW
    have x2 := New.stays n2 x1
    obtain ⟨c0, c1, c2, c3, c4, c5, c6⟩ := CfgR.at (cfg_cells x2)
    have hn2 : New w W2 := hn1.trans n2
    have hw1 := hn1.size
    go_wp2_with fail
    refine (KE.out _ hn2).mono ?_
    rintro e V ⟨n3, g, lb, S, rfl, hSb, heg, hsq⟩
    have hn3 : New w V := hn2.trans n3
    have bv : Boxed V W1.heap.size 46 (.slice none 0 0) := New.stays n3 bx
    have hz3 := n3.size
    clear c0 c1 c2 c3 c4 c5 c6 x2 bx n3 hn2 n2 x1
    generalize W1.heap.size = P at *
    go_wp2_with fail
    refine (wpIn_wide (n := 8)).1 ?_
    have hPV := bv.lt
    have hlen : (opX C l).length ≤ 8 := by
      unfold opX
      rw [if_pos HR.out.symm]
      unfold opL
      have h1 := List.length_filter_le (opnB C l) (List.range l.length)
      rw [List.length_range] at h1
      have := (chkE_zero (fiE_ok HR.out.symm).2).1
      omega
    refine wpIn_rangeL rfl (by omega) (gf := g) (lb := lb) rfl trivial heg (hsq 7 (by omega)) (fun h k => ⟨h.1.trans k.1, h.2.trans k.2⟩)
      (fun U o hr => ⟨fun b hb => World.putObj_heap_other (by have := (hSb b hb).2; omega), KeepT.put o hr⟩) (Below.refl _ _) (fun _ => rfl)
      (fun i U => (∃ v, Boxed U P 46 v ∧ U.ownsRow V.heap.size 3 1 v i (((opX C l).take i).flatMap fun k : Nat => iE k) ∧ True) ∧ Below w.heap.size w U ∧ V.heap.size ≤ U.heap.size)
      (fun _ _ _ => False)
      (OwnFrom.and (Own.from (holdsRow_own V.heap.size P 46 3 1 (fun i : Nat => i) (fun i : Nat => ((opX C l).take i).flatMap fun k : Nat => iE k) (fun _ _ => True)) _) (OwnFrom.and (ownFrom_below (Nat.le_refl _) hn3.size) (fun _ _ _ _ hs hg _ => Nat.le_trans hs hg.size)))
      (fun _ _ _ _ _ hs _ _ => hs)
      ⟨⟨_, bv, World.ownsRow_nil _ _ _ _, trivial⟩, hn3, Nat.le_refl _⟩
      (fun i a' _ => ∃ k : Nat, (opX C l)[i]? = some k ∧ a' = { tmps := #[.agg #[.int .i64 C.cl, .int .i64 C.cb, .int .i64 C.ht, .int .i64 C.ri, .int .i64 C.ru, .int .i64 C.wd, .int .i64 C.dp], .slice at0 l.length c, .pointer (some ⟨w.heap.size, 0, none⟩), undef, .slice none 0 0, .int .i64 0, .int .i64 0, .pointer (some ⟨P, 0, none⟩), .int .i64 (k : Nat), .agg #[.int .i64 C.cl, .int .i64 C.cb, .int .i64 C.ht, .int .i64 C.ri, .int .i64 C.ru, .int .i64 C.wd, .int .i64 C.dp], .slice at0 l.length c, .int .i64 0, .int .i64 0, .bool false, undef, .agg #[.int .i64 C.cl, .int .i64 C.cb, .int .i64 C.ht, .int .i64 C.ri, .int .i64 C.ru, .int .i64 C.wd, .int .i64 C.dp], .slice at0 l.length c, .func (.func g) #[] lb, .int .i64 (k : Nat), .int .i64 (roofF l k), undef, undef, undef, undef, undef], defers := [] })
      (fun i a' => fun _ _ _ _ hs _ _ => hs) ?assign ?body ?done ?stop
    case assign =>
      intro i hi' U K hI hK
      generalize hk : (opX C l)[i] = k
      simp only [roomE]
      simp only [List.zip_toArray, List.zip_cons_cons, List.zip_nil_right, List.foldl_toArray', List.foldl_cons, List.foldl_nil, List.setIfInBounds_toArray, List.set_cons_succ, List.set_cons_zero, List.size_toArray, List.length_cons, List.length_nil]
      gi_wp2
      exact hK _ _ (KeepsFrom.refl _ _) ⟨KeepS.refl _, KeepT.refl _⟩ hI ⟨k, by rw [List.getElem?_eq_getElem hi', hk], rfl⟩
    case body =>
      rintro i hi' a' U - ⟨⟨v, hv, hrow, -⟩, hB, hVU⟩ ⟨k, hk, rfl⟩
      have hcell := hv.cell
      have hrow0 := ownsRow_down (b0 := w.heap.size) hrow hn3.size
      have hBs := hB.size
      have hS3 : ∀ b ∈ S, b < V.heap.size ∧ b ≠ P ∧ b < U.heap.size := fun b hb => by have := hSb b hb; omega
      gi_wp2_with (gi_at_builtin; refine wpListIn_append_own _ rfl _ _ 46 rfl V.heap.size 3 i0 (.int .i64 0) 1 8 Tryz.underlying46 hi hz0 hz1 hz2 rfl (by decide) _ _ _ rfl (hrow.alloc _) ⟨U.heap.size, 0, none⟩ 1 1 (iE k) rfl rfl (cells_int _ _ _) (by intro u hu; simp at hu; subst hu; rfl) (by unfold maxLen; omega) (by omega) (by simp; omega) ?_; intro v' w1 hown' hgrow _; obtain ⟨g', cap', rfl⟩ := ownsRow_succ hown'; obtain ⟨hv1, hv2, hr2, hk2, hb2⟩ := hv.appended (by decide) hrow0 hBs hw1 (ownsRow_down (b0 := w.heap.size) hown' hn3.size) hgrow; have hc1 := hv1.cell; have hf1 := hv1.frozen)
      refine ⟨hk2.from _, app_keepO hv hrow hgrow hS3, ⟨_, hv2, ?_, trivial⟩, hB.trans hb2, Nat.le_trans hVU hb2.size⟩
      rw [List.take_add_one, hk]
      simp only [Option.toList_some, List.flatMap_append, List.flatMap_cons, List.flatMap_nil, List.append_nil]
      exact hown'.kept (grownBy_setCell' w1 P _) (.inr (hv1.not_row (by decide) hown').symm)
    case done =>
      rintro U ⟨⟨v, hv, hrow, -⟩, hB, hVU⟩ hD
      have hcell := hv.cell
      go_wp2_with fail
      refine ret_mark hD fun U2 hU2 hk => ⟨_, results_tmp2 rfl _ _ _, v, rfl, ?_, ?_⟩
      · have h1 := ownsRow_putObj hrow (.deferred none) hD rfl
        rw [← hU2, List.take_length] at h1
        refine own_sl (base := V.heap.size) (e := 3) iE_len ?_
        unfold opI
        rw [List.length_map, List.flatMap_map]
        exact h1
      · rw [hU2]
        exact Go.RowKit.Below.trans hB (belowK_b (w := w) (Nat.le_refl _) _ _ _ _ hn3.size hD rfl rfl)
    case stop =>
      rintro i q U _ _ h _
      exact h.elim
  · have hne : (r != 0) = true := by rcases h3 with rfl | rfl <;> rfl
    have hr0 : fiE C l ≠ 0 := by rw [← HR.out]; rcases h3 with rfl | rfl <;> decide
    have HO : Hid (opI C l = []) := Lib.hid (by unfold opI opX; rw [if_neg hr0]; rfl)
    clear h3 hr0
    go_wp2_with fail
    exact ⟨_, results_tmp2 rfl _ _ _, _, rfl, by rw [HO.out]; exact Sl.nil, hn1⟩

end Go.Proofs.YtklopjbpfddgfaaGreat

/- The library's Grow of nothing and Concat, of slices of a kind. -/
namespace Go.Proofs.YtklopjbpfddgfaaGreat
open Go.RowKit
set_option linter.unusedVariables false

theorem fl_info : (Tryz.prog.info? 42).map (fun i => (i.zero, i.size, i.bytes)) = some (some (.agg #[.int .i64 Fl.zero.y, .int .i64 Fl.zero.top, .int .i64 Fl.zero.area]), 3, 24) := by kernel_rfl

def fl_Grown (n : Nat) (w : World) (e : Ending) (w' : World) : Prop := ∃ v, e = .returned v ∧ w'.ownsRow w.heap.size 42 3 v 0 [] ∧ New w w'

theorem fl_some {flr : Option Addr} (h : ¬ flr = none) : ∃ a, flr = some a := by
  cases flr with
  | none => exact absurd rfl h
  | some a => exact ⟨a, rfl⟩

end Go.Proofs.YtklopjbpfddgfaaGreat

/- Package open: floors, and the library's Collect of what it goes over. -/
namespace Go.Proofs.YtklopjbpfddgfaaGreat
open Go.RowKit Go.Shelf Go.Sort
set_option linter.unusedVariables false
attribute [local go_sem] Oper.semAt_some

set_option maxHeartbeats 1000000 in
theorem og_floors (C : CfgR) (at0 : Option Addr) (l : List Sn) (cap : Nat) (w : World) (h : Sl Sn.enc 3 w (.slice at0 l.length cap) l) :
    Calls Tryz.prog 16 #[.agg #[.int .i64 C.cl, .int .i64 C.cb, .int .i64 C.ht, .int .i64 C.ri, .int .i64 C.ru, .int .i64 C.wd, .int .i64 C.dp], .slice at0 l.length cap] w fun e w' => e = .returned (.func (.func 26) #[] #[.pointer (some ⟨w.heap.size, 0, none⟩), .pointer (some ⟨w.heap.size + 1, 0, none⟩)]) ∧ New w w' ∧ FloAt w' C w.heap.size (w.heap.size + 1) at0 cap l := by
  go_enter Tryz.func16, Tryz.ntmps16
  go_wp2_with fail
  go_ret
  have n : New w ((w.alloc (.cells #[.int .i64 C.cl, .int .i64 C.cb, .int .i64 C.ht, .int .i64 C.ri, .int .i64 C.ru, .int .i64 C.wd, .int .i64 C.dp] 23)).alloc (.cells #[.slice at0 l.length cap] 24)) := by (repeat (first | (with_reducible exact New.refl _) | (with_reducible assumption) | ((with_reducible refine New.setB ?_ ?_ _); focus (first | omega | (simp; omega) | (simp; done))) | (with_reducible refine New.alloc ?_ _) | (with_reducible refine New.drew ?_) | (with_reducible refine New.drewN ?_ _) | (with_reducible refine New.hat ?_ _) | ((with_reducible apply New.snart); (with_reducible assumption))))
  refine ⟨rfl, n, ?_, ?_, h.keep n⟩
  · exact New.stays ((New.refl _).alloc _) (World.alloc_heap_new w _)
  · have h2 := World.alloc_heap_new (w.alloc (.cells #[.int .i64 C.cl, .int .i64 C.cb, .int .i64 C.ht, .int .i64 C.ri, .int .i64 C.ru, .int .i64 C.wd, .int .i64 C.dp] 23)) (.cells #[.slice at0 l.length cap] 24)
    rw [World.size_alloc] at h2
    exact h2

/-- What an append of a floor to a row of one's own, in a box, leaves as it lay. -/
theorem app_keepG {W w1 : World} {P base k : Nat} {v v' : Value} {xs : List Value} {tmp : Obj} (hv : Boxed W P 28 v) (hrow : W.ownsRow base 42 3 v k xs) (hgrow : (W.alloc tmp).grownBy w1 v.ownBlock) {S : List Nat} (hS : ∀ b ∈ S, b < base ∧ b ≠ P ∧ b < W.heap.size) : KeepG S W (w1.setCell ⟨P, 0, none⟩ v') := by
  refine ⟨fun b hb => ?_, fun b cs t fr ht hb => ?_⟩
  · obtain ⟨h1, h2, h3⟩ := hS b hb
    rw [Below.heap_setCell _ _ _ _ h2]
    refine (hgrow.block b (by simp; omega) (fun e' => ?_)).trans (Below.heap_alloc W tmp b h3)
    have := own_block hrow b e'.symm
    omega
  · have hlt : b < W.heap.size := (Array.getElem?_eq_some_iff.1 hb).1
    have hP : b ≠ P := fun e => by
      subst e
      have h1 := (show W.heap[b]? = _ from hv).symm.trans hb
      injection h1 with h1
      injection h1 with _ h1
      rcases ht with rfl | rfl | rfl | rfl | rfl <;> cases h1
    rw [Below.heap_setCell _ _ _ _ hP]
    refine (hgrow.block b (by simp; omega) (fun e' => ?_)).trans (Below.heap_alloc W tmp b hlt)
    rcases hrow.2 with ⟨rfl, _⟩ | ⟨g, cap, cur, rfl, _, hgb, _⟩
    · simp [Value.ownBlock] at e'
    · obtain rfl : b = g := by simpa [Value.ownBlock] using e'
      rw [hb] at hgb
      injection hgb with hgb
      injection hgb with _ hgb
      rcases ht with rfl | rfl | rfl | rfl | rfl <;> cases hgb

theorem fl_cells3 {w : World} {b : Nat} {f : Fl} {fr : Nat × Nat} (h : w.heap[b]? = some (.cells #[.int .i64 f.y, .int .i64 f.top, .int .i64 f.area] 42 fr)) : w.cell? ⟨b, 0, none⟩ = some (.int .i64 f.y) ∧ w.cell? ⟨b, 1, none⟩ = some (.int .i64 f.top) ∧ w.cell? ⟨b, 2, none⟩ = some (.int .i64 f.area) :=
  ⟨cell_of_heap h rfl, cell_of_heap h rfl, cell_of_heap h rfl⟩
theorem fl_new (w : World) (f : Fl) (t : TypeId) (q : Nat) (u : Value) (h : f.enc[q]? = some u) : (w.alloc (.cells #[.int .i64 f.y, .int .i64 f.top, .int .i64 f.area] t)).cell? ((⟨w.heap.size, 0, none⟩ : Addr).add q) = some u := by
  have hz := World.alloc_heap_new w (.cells #[.int .i64 f.y, .int .i64 f.top, .int .i64 f.area] t)
  have hq : q < 3 := (List.getElem?_eq_some_iff.1 h).1
  rcases (show q = 0 ∨ q = 1 ∨ q = 2 by omega) with rfl | rfl | rfl <;> (simp [Fl.enc] at h; subst h; exact cell_of_heap hz rfl)

set_option maxHeartbeats 4000000 in
set_option maxRecDepth 100000 in
theorem fl_appendSeq (g : Nat) (lb : Array Value) (L : List Fl) (S : List Nat) (hL : L.length ≤ 8) (w : World) (heg : ∀ args W, (callFunc g args).run Tryz.prog W = .ok (.enter g args) W) (hsq : ∀ n, 7 ≤ n → SeqL Fence.wide n Tryz.prog g lb flA L (KeepG S) w) (hS : ∀ b ∈ S, b < w.heap.size) :
    Calls Tryz.prog 25 #[.slice none 0 0, .func (.func g) #[] lb] w fun e w' => ∃ v, e = .returned v ∧ w'.ownsRow w.heap.size 42 3 v L.length (L.flatMap Fl.enc) ∧ New w w' := by
  obtain ⟨i0, hi, hz0, hz1, hz2⟩ := info_parts fl_info
  have HSQ := Lib.hid hsq
  clear hsq
  refine (callsIn_wide (n := 9)).1 ?_
  refine callsIn_of_wp_marks Tryz.func25 rfl trivial ?_ rfl
  simp only [Tryz.ntmps25, List.size_toArray, List.length_cons, List.length_nil, Nat.reduceAdd, Nat.reduceSub, Array.replicate_succ, Array.replicate_zero, List.push_toArray, List.append_toArray, List.nil_append, List.cons_append]
  refine wpIn_wide.2 ?_
  go_upto_region 1 with fail
  refine Code.at (fun V hV => ?_)
  have nV : New w V := by subst hV; (repeat (first | (with_reducible exact New.refl _) | (with_reducible assumption) | ((with_reducible refine New.setB ?_ ?_ _); focus (first | omega | (simp; omega) | (simp; done))) | (with_reducible refine New.alloc ?_ _) | (with_reducible refine New.drew ?_) | (with_reducible refine New.drewN ?_ _) | (with_reducible refine New.hat ?_ _) | ((with_reducible apply New.snart); (with_reducible assumption))))
  have bv : Boxed V w.heap.size 28 (.slice none 0 0) := by subst hV; exact World.alloc_heap_new _ _
  have zV : V.heap.size = w.heap.size + 1 := by subst hV; simp
  clear hV
  go_wp2_with fail
  refine (wpIn_wide (n := 9)).1 ?_
  refine wpIn_rangeL rfl (by omega) (gf := g) (lb := lb) rfl trivial heg (HSQ.out 8 (by omega)) (fun h k => ⟨h.1.trans k.1, h.2.trans k.2⟩)
    (fun U o hr => ⟨fun b hb => World.putObj_heap_other (by have := hS b hb; omega), KeepU.put o hr⟩) nV (fun _ => rfl)
    (fun i U => (∃ v, Boxed U w.heap.size 28 v ∧ U.ownsRow w.heap.size 42 3 v i ((L.take i).flatMap Fl.enc) ∧ True) ∧ Below w.heap.size w U ∧ V.heap.size ≤ U.heap.size)
    (fun _ _ _ => False)
    (OwnFrom.and (Own.from (holdsRow_own w.heap.size w.heap.size 28 42 3 (fun i : Nat => i) (fun i : Nat => (L.take i).flatMap Fl.enc) (fun _ _ => True)) _) (OwnFrom.and (ownFrom_below (Nat.le_refl _) nV.size) (fun _ _ _ _ hs hg _ => Nat.le_trans hs hg.size)))
    (fun _ _ _ _ _ hs _ _ => hs)
    ⟨⟨_, bv, World.ownsRow_nil _ _ _ _, trivial⟩, nV, Nat.le_refl _⟩
    (fun i a' U => ∃ (f : Fl) (Q : Nat), L[i]? = some f ∧ V.heap.size ≤ Q ∧ U.heap[Q]? = some (.cells #[.int .i64 f.y, .int .i64 f.top, .int .i64 f.area] 42 (0, 0)) ∧ a' = { tmps := #[.slice none 0 0, .func (.func g) #[] lb, .pointer (some ⟨w.heap.size, 0, none⟩), undef, .slice none 0 0, .pointer (some ⟨Q, 0, none⟩), .func (.func g) #[] lb, .agg #[.int .i64 f.y, .int .i64 f.top, .int .i64 f.area], undef, undef, undef, undef, undef], defers := [] })
    (fun i a' => ?axown) ?assign ?body ?done ?stop
  case axown =>
    rintro _ X Y row ⟨f, Q, h1, h2, h3, rfl⟩ hg hr
    exact ⟨f, Q, h1, h2, own_blk (β := Unit) Q V.heap.size () X Y row h3 hg hr, rfl⟩
  case assign =>
    intro i hi' U K hI hK
    generalize hk : L[i] = f
    simp only [flA]
    simp only [List.zip_toArray, List.zip_cons_cons, List.zip_nil_right, List.foldl_toArray', List.foldl_cons, List.foldl_nil, List.setIfInBounds_toArray, List.set_cons_succ, List.set_cons_zero, List.size_toArray, List.length_cons, List.length_nil]
    gi_wp2
    obtain ⟨⟨v, hv, hrow, -⟩, hB, hVU⟩ := hI
    have nU : New U (U.alloc (.cells #[.int .i64 f.y, .int .i64 f.top, .int .i64 f.area] 42)) := by (repeat (first | (with_reducible exact New.refl _) | (with_reducible assumption) | ((with_reducible refine New.setB ?_ ?_ _); focus (first | omega | (simp; omega) | (simp; done))) | (with_reducible refine New.alloc ?_ _) | (with_reducible refine New.drew ?_) | (with_reducible refine New.drewN ?_ _) | (with_reducible refine New.hat ?_ _) | ((with_reducible apply New.snart); (with_reducible assumption))))
    have hBs := hB.size
    exact hK _ _ (keepsFrom_new nU) ⟨KeepS.new (fun b hb => Nat.lt_of_lt_of_le (hS b hb) hBs) nU, fun b cs t fr ht hb => nU.block b (Array.getElem?_eq_some_iff.1 hb).1⟩
      ⟨⟨v, hv.alloc _, hrow.alloc _, trivial⟩, New.trans (show New w U from hB) nU, Nat.le_trans hVU nU.size⟩ ⟨f, U.heap.size, by rw [List.getElem?_eq_getElem hi', hk], hVU, World.alloc_heap_new _ _, rfl⟩
  case body =>
    rintro i hi' a' U - ⟨⟨v, hv, hrow, -⟩, hB, hVU⟩ ⟨f, Q, hf, hQ, hq, rfl⟩
    have hcell := hv.cell
    obtain ⟨q0, q1, q2⟩ := fl_cells3 hq
    have hBs := hB.size
    have hS3 : ∀ b ∈ S, b < w.heap.size ∧ b ≠ w.heap.size ∧ b < U.heap.size := fun b hb => by have := hS b hb; omega
    gi_wp2_with (gi_at_builtin; refine wpListIn_append_own _ rfl _ _ 28 rfl w.heap.size 42 i0 _ 3 24 Tryz.underlying28 hi hz0 hz1 hz2 rfl (by decide) _ _ _ rfl (hrow.alloc _) ⟨U.heap.size, 0, none⟩ 1 1 f.enc rfl rfl (fl_new _ _ _) (Fl.enc_one _) (by unfold maxLen; omega) (by omega) (by simp; omega) ?_; intro v' w1 hown' hgrow _; obtain ⟨g', cap', rfl⟩ := ownsRow_succ hown'; obtain ⟨hv1, hv2, hr2, hk2, hb2⟩ := hv.appended (by decide) hrow hBs (Nat.le_refl _) hown' hgrow; have hc1 := hv1.cell; have hf1 := hv1.frozen)
    refine ⟨hk2.from _, app_keepG hv hrow hgrow hS3, ⟨_, hv2, ?_, trivial⟩, hB.trans hb2, Nat.le_trans hVU hb2.size⟩
    rw [List.take_add_one, hf]
    simp only [Option.toList_some, List.flatMap_append, List.flatMap_cons, List.flatMap_nil, List.append_nil]
    exact hr2
  case done =>
    rintro U ⟨⟨v, hv, hrow, -⟩, hB, hVU⟩ hD
    have hcell := hv.cell
    go_wp2_with fail
    refine ret_mark hD fun U2 hU2 hk => ⟨_, by simp [results, Tryz.results25, go_sem], v, rfl, ?_, ?_⟩
    · have h1 := ownsRow_putObj hrow (.deferred none) hD rfl
      rw [← hU2, List.take_length] at h1
      exact h1
    · rw [hU2]
      exact Go.RowKit.Below.trans hB (belowK_b (w := w) (Nat.le_refl _) _ _ _ _ nV.size hD rfl rfl)
  case stop =>
    rintro i q U _ _ h _
    exact h.elim

set_option maxHeartbeats 1000000 in
theorem fl_collect (g : Nat) (lb : Array Value) (L : List Fl) (S : List Nat) (hL : L.length ≤ 8) (w : World) (heg : ∀ args W, (callFunc g args).run Tryz.prog W = .ok (.enter g args) W) (hsq : ∀ n, 7 ≤ n → SeqL Fence.wide n Tryz.prog g lb flA L (KeepG S) w) (hS : ∀ b ∈ S, b < w.heap.size) :
    Calls Tryz.prog 15 #[.func (.func g) #[] lb] w fun e w' => ∃ v, e = .returned v ∧ w'.ownsRow w.heap.size 42 3 v L.length (L.flatMap Fl.enc) ∧ New w w' := by
  have K := fl_appendSeq g lb L S hL w heg hsq hS
  clear hsq heg hS hL
  generalize L.length = n at *
  generalize L.flatMap Fl.enc = xs at *
  go_enter Tryz.func15, Tryz.ntmps15
  go_wp2_with fail
  refine K.mono ?_
  rintro e w' ⟨v, rfl, ho, hn⟩
  go_wp2_with fail
  refine bodyPost_ret (v := v) (by simp [results, Tryz.results15, go_sem, *]) rfl ?_
  exact ⟨v, rfl, ho, hn⟩

theorem opX_len8 (C : CfgR) (l : List Sn) : (opX C l).length ≤ 8 := by
  unfold opX
  split
  · rename_i h
    unfold opL
    have h1 := List.length_filter_le (opnB C l) (List.range l.length)
    rw [List.length_range] at h1
    have := (chkE_zero (fiE_ok h).2).1
    omega
  · simp
theorem flX_len8 (C : CfgR) (l : List Sn) : (flX C l).length ≤ 8 := by rw [flX_len]; exact opX_len8 C l
theorem flX_bad {C : CfgR} {l : List Sn} (h : fiE C l ≠ 0) : flX C l = [] := by unfold flX opX; rw [if_neg h]; rfl

/-- The floors that are gone over, collected. -/
theorem og_gather (C : CfgR) (at0 : Option Addr) (l : List Sn) (cap Bc Bl : Nat) (w : World) (H : FloAt w C Bc Bl at0 cap l) :
    Calls Tryz.prog 15 #[.func (.func 26) #[] #[.pointer (some ⟨Bc, 0, none⟩), .pointer (some ⟨Bl, 0, none⟩)]] w fun e w' => ∃ v, e = .returned v ∧ w'.ownsRow w.heap.size 42 3 v (flX C l).length ((flX C l).flatMap Fl.enc) ∧ New w w' :=
  fl_collect _ _ _ (floS Bc Bl at0 l) (flX_len8 C l) w (enters_of Tryz.func26 (by kernel_rfl) rfl) (fun n hn => og_floors1 C at0 l cap Bc Bl n hn w H) H.lt

set_option maxHeartbeats 2000000 in
set_option maxRecDepth 100000 in
theorem og_Floors (C : CfgR) (at0 : Option Addr) (l : List Sn) (cap : Nat) (w : World) (h : Sl Sn.enc 3 w (.slice at0 l.length cap) l) :
    Calls Tryz.prog 7 #[.agg #[.int .i64 C.cl, .int .i64 C.cb, .int .i64 C.ht, .int .i64 C.ri, .int .i64 C.ru, .int .i64 C.wd, .int .i64 C.dp], .slice at0 l.length cap] w fun e w' => ∃ v, e = .returned (.tuple #[v, .int .i64 (fiE C l)]) ∧ w'.ownsRow w.heap.size 42 3 v (flX C l).length ((flX C l).flatMap Fl.enc) ∧ New w w' := by
  have KO := Lib.hid (fun W n => fi_open C at0 l cap W (h.keep (n : New w W)))
  have KF := Lib.hid (fun W n => og_floors C at0 l cap W (h.keep (n : New w W)))
  have KG := Lib.hid (fun Bc Bl W H => og_gather C at0 l cap Bc Bl W H)
  obtain ⟨r, hr⟩ : ∃ r, r = fiE C l := ⟨_, rfl⟩
  rw [← hr] at KO ⊢
  have HR := Lib.hid hr
  have h3 := fiE_three C l
  rw [← hr] at h3
  clear hr h
  go_enter Tryz.func7, Tryz.ntmps7
  go_wp2_with fail
  refine Calls.at (fun W0 hW => ?_)
  have n0 : New w W0 := by subst hW; (repeat (first | (with_reducible exact New.refl _) | (with_reducible assumption) | ((with_reducible refine New.setB ?_ ?_ _); focus (first | omega | (simp; omega) | (simp; done))) | (with_reducible refine New.alloc ?_ _) | (with_reducible refine New.drew ?_) | (with_reducible refine New.drewN ?_ _) | (with_reducible refine New.hat ?_ _) | ((with_reducible apply New.snart); (with_reducible assumption))))
  have hc : CellsAt W0 w.heap.size 0 C.enc := by subst hW; exact cells_new _ _ _
  clear hW
  refine (KO.out _ n0).mono ?_
  rintro e W1 ⟨v1, rfl, -, n1⟩
  have hc1 := hc.keep n1
  have hn1 := n0.trans n1
  clear n1 hc n0
  obtain ⟨c0, c1, c2, c3, c4, c5, c6⟩ := CfgR.at hc1
  clear hc1
  rcases h3 with rfl | h3
  · go_wp2_with fail
    refine (KF.out _ hn1).mono ?_
    rintro e W2 ⟨rfl, n2, HF⟩
    have hn2 := hn1.trans n2
    clear n2
    go_wp2_with fail
    refine (KG.out _ _ _ HF).mono ?_
    rintro e W3 ⟨v, rfl, ho, n3⟩
    have ho2 := Lib.hid (ownsRow_down ho hn2.size)
    have hn3 := Lib.hid (hn2.trans n3)
    clear ho n3
    go_wp2_with fail
    refine bodyPost_ret (v := .tuple #[v, .int .i64 0]) (by simp [results, Tryz.results7, go_sem, *]) rfl ?_
    exact ⟨v, rfl, ho2.out, hn3.out⟩
  · have hne : (r != 0) = true := by rcases h3 with rfl | rfl <;> rfl
    have hr0 : fiE C l ≠ 0 := by rw [← HR.out]; rcases h3 with rfl | rfl <;> decide
    have HX := Lib.hid (flX_bad hr0)
    clear h3 hr0
    go_wp2_with fail
    refine bodyPost_ret (v := .tuple #[.slice none 0 0, .int .i64 r]) (by simp [results, Tryz.results7, go_sem, *]) rfl ?_
    refine ⟨_, rfl, ?_, hn1⟩
    rw [HX.out]
    exact World.ownsRow_nil _ _ _ _

end Go.Proofs.YtklopjbpfddgfaaGreat
