import Derived.RangeFuncNested
import Derived.RangeFuncLeaves
import Derived.Test.YtdbhlepbaepngaaGreatDoorOgNZ15
import Derived.Test.YtdbhlepbaepngaaGreatDoorSoAZ15
import Derived.Test.YtdbhlepbaepngaaGreatDoorHat
import Derived.Shelf.Abstract
import Derived.WalkKit
import Derived.OwnWalkIn
import Derived.TacticsInMore
import Derived.LoopNIn
import Derived.LoopIn
import Derived.Sort.WalkA
import Derived.Deep.DeepCutAuto

/- Ranges over a function that goes over a known list: an iterator's contract by places, which an iterator may bear that itself ranges over another one; and the loop over it. -/
namespace Go.Proofs.YtdbhlepbaepngaaGreatDoor
open Go.RowKit
set_option linter.unusedVariables false

theorem keepsFrom_up {B B' : Nat} {W W' : World} (h : KeepsFrom B W W') (hB : B ≤ B') : KeepsFrom B' W W' :=
  ⟨h.size, fun k o hk => h.same k o (Nat.le_trans hB hk)⟩
theorem keepsFrom_put {B l : Nat} {W : World} {o : Obj} (hl : l < B) : KeepsFrom B W (W.putObj l o) :=
  ⟨by simp, fun k o' hk h0 _ => (World.putObj_heap_other (by omega)).trans h0⟩

/-- A block of cells abides what loops do. -/
theorem own_blk {β : Type} (b : Nat) {cs : Array Value} {t : TypeId} {fr : Nat × Nat} (D : Nat) : OwnFrom D (fun (_ : β) W => W.heap[b]? = some (.cells cs t fr)) := fun _ X Y row hs hg hr => by
  refine (hg.block b (Array.getElem?_eq_some_iff.1 hs).1 (fun e' => ?_)).trans hs
  obtain ⟨_, o, ho, hc⟩ := hr b e'.symm
  rw [hs] at ho; cases ho; cases hc
theorem own_pure {β : Type} (B : Nat) (p : β → Prop) : OwnFrom B (fun s (_ : World) => p s) := fun _ _ _ _ hs _ _ => hs

/-- A function that holds a range leaves: the mark is taken in. -/
theorem ret_mark {n : Nat} {P : Program} {fn : Func} {R : Ending → World → Prop} {T : Array Value} {D : Nat} {W : World} (hK : W.heap[D]? = some (.deferred (some [])))
    (h : ∀ W', W' = W.putObj D (.deferred none) → (∀ k, k ≠ D → W'.heap[k]? = W.heap[k]?) → LeavesIn Fence.wide n P fn T R [] .returning W') :
    bodyPostM Fence.wide n P fn R .ret { tmps := T, defers := [{ target := .collected D, args := #[] }] } W :=
  ⟨by simp, .inl ⟨_, _, rfl, run_takeDeferred hK, h _ rfl fun k hk => World.putObj_heap_other hk⟩⟩

/-- The iterator goes over just L: to whatever loop's yield it is handed, from whatever later world; what a round that goes on must keep: all that is no cells and lies at or beyond the world's end at the call (records of loops that the iterator runs itself), and Kp. -/
def SeqL {α : Type} (F : Fence) (n : Nat) (P : Program) (g : Nat) (lb : Array Value) (encs : α → Array Value) (L : List α) (Kp : World → World → Prop) (w : World) : Prop :=
  ∀ (lp : Nat) (J Jx : Nat → World → Prop) (W : World), Below w.heap.size w W → OwnFrom W.heap.size J → OwnFrom W.heap.size Jx →
    (∀ (i : Nat) (h : i < L.length) (W1 : World), J i W1 → YieldAt F (n - 1) P lp (encs L[i]) W1 fun e W' =>
      (e = .returned (.bool true) ∧ KeepsFrom W.heap.size W1 W' ∧ Kp W1 W' ∧ J (i + 1) W') ∨ (e = .returned (.bool false) ∧ KeepsFrom W.heap.size W1 W' ∧ Jx (i + 1) W')) →
    J 0 W →
    CallsIn F n P g (#[.func (.yield lp) #[] #[]] ++ lb) W fun e W' => (∃ v, e = .returned v) ∧ (J L.length W' ∨ ∃ i, 0 < i ∧ i ≤ L.length ∧ Jx i W')

/-- How a round over place i may be left. -/
def roundL (B : Nat) (Kp : World → World → Prop) (I : Nat → World → Prop) (Ix : Code → Nat → World → Prop) (i : Nat) (W : World) : Exit → Act → World → Prop
  | .normal, _, W' => KeepsFrom B W W' ∧ Kp W W' ∧ I (i + 1) W'
  | .ret, _, W' => KeepsFrom B W W' ∧ Ix .ret (i + 1) W'
  | .exit id, _, W' => KeepsFrom B W W' ∧ Ix (.exit id) (i + 1) W'
  | .goto t, _, W' => KeepsFrom B W W' ∧ Ix (.goto t) (i + 1) W'
  | .panic _, _, _ => False
  | .outgrown, _, _ => False

theorem wpIn_rangeL {F : Fence} {n : Nat} {P : Program} {α : Type} {g : Operand} {ps : Array Tmp} {assign body : Code} {Q : Exit → Act → World → Prop} {a : Act} {w : World}
    (hro : F.round = none) (h1 : 1 ≤ n) {gf : Nat} {lb : Array Value} (hg : a.eval g = .func (.func gf) #[] lb) (hFg : F.fn gf) (eg : ∀ args w, (callFunc gf args).run P w = .ok (.enter gf args) w)
    {encs : α → Array Value} {L : List α} {Kp : World → World → Prop} {w0 : World} (hseq : SeqL F (n - 1) P gf lb encs L Kp w0)
    (hKt : ∀ {A B C : World}, Kp A B → Kp B C → Kp A C) (hKb : ∀ (W : World) (o : Obj), (∃ r, W.heap[w.heap.size + 1]? = some (.loop r)) → Kp W (W.putObj (w.heap.size + 1) o))
    (hb0 : Below w0.heap.size w0 w) (hps : ∀ x, (encs x).size = ps.size)
    (I : Nat → World → Prop) (Ix : Code → Nat → World → Prop) (hI : OwnFrom w.heap.size I) (hIx : ∀ c, OwnFrom w.heap.size (Ix c)) (h0 : I 0 w)
    (Ax : Nat → Act → World → Prop) (hAx : ∀ i a', OwnFrom w.heap.size (fun (_ : Unit) W => Ax i a' W))
    (hassign : ∀ (i : Nat) (h : i < L.length) (W : World) (K : Act → World → Prop), I i W → (∀ a' W', KeepsFrom w.heap.size W W' → Kp W W' → I i W' → Ax i a' W' → K a' W') →
      assign.wpIn (F.inRound (w.heap.size + 1)) (n - 1 - 1) P (Exit.then K (fun _ _ _ => False)) { tmps := (ps.zip (encs L[i])).foldl (fun t (p, v) => t.setIfInBounds p v) a.tmps, defers := [] } W)
    (hbody : ∀ (i : Nat) (h : i < L.length) (a' : Act) (W : World), (∃ r, W.heap[w.heap.size + 1]? = some (.loop r)) → I i W → Ax i a' W →
      body.wpIn (F.inRound (w.heap.size + 1)) (n - 1 - 1) P (roundL w.heap.size Kp I Ix i W) a' W)
    (hdone : ∀ (W : World), I L.length W → W.heap[w.heap.size]? = some (.deferred (some [])) → Q .normal { a with defers := { target := .collected w.heap.size, args := #[] } :: a.defers } W)
    (hstop : ∀ (i : Nat) (c : Code) (W : World), 0 < i → i ≤ L.length → Ix c i W → W.heap[w.heap.size]? = some (.deferred (some [])) →
      c.wpIn F n P Q { a with defers := { target := .collected w.heap.size, args := #[] } :: a.defers } W) :
    (Code.rangeFunc g ps assign body).wpIn F n P Q a w := by
  refine wpIn_rangeFunc fun fn hfn => ?_
  rw [hro]
  obtain ⟨rec, hrec⟩ : ∃ rec : LoopState → Option Code → Loop, rec = fun st pe => { state := st, pending := pe, fn, tmps := a.tmps, params := ps, assign, body, defers := w.heap.size } := ⟨_, rfl⟩
  obtain ⟨V, hV⟩ : ∃ V, V = (w.alloc (.deferred (some []))).alloc (.loop (rec .ready none)) := ⟨_, rfl⟩
  have zV : V.heap.size = w.heap.size + 2 := by rw [hV]; simp
  have rV : V.heap[w.heap.size + 1]? = some (.loop (rec .ready none)) := by
    have h := World.alloc_heap_new (w.alloc (.deferred (some []))) (.loop (rec .ready none))
    rw [World.size_alloc] at h
    rw [hV]; exact h
  have dV : V.heap[w.heap.size]? = some (.deferred (some [])) := by
    rw [hV]; exact (Below.heap_alloc _ _ _ (by simp)).trans (World.alloc_heap_new w _)
  have iV : I 0 V := by rw [hV]; exact hI.alloc _ (hI.alloc _ h0)
  have bV : Below w0.heap.size w0 V := by
    rw [hV]; exact hb0.trans ((((Below.refl _ w).alloc (Nat.le_refl _) _).alloc (by simp) _).mono hb0.size)
  refine ⟨w.heap.size + 1, [{ target := .collected w.heap.size, args := #[] }], V, { target := .fn (.func gf) lb, args := #[.func (.yield (w.heap.size + 1)) #[] #[]] }, V, gf,
    #[.func (.yield (w.heap.size + 1)) #[] #[]] ++ lb, V, ?_, ?_, ?_, ?_, fun _ => h1, ?_⟩
  · rw [hV, hrec]; exact run_enterLoop_outer _ _ _ _ _
  · simp only [resolve, hg]
    simp [go_sem]
  · intro f' hf'; simp [Target.leads] at hf'; subst hf'; exact hFg
  · simp [invoke, go_sem, eg]
  -- what a step of the iterator leaves of the two blocks
  have stay : ∀ {A B : World} {row : Option Nat} {k : Nat} {o : Obj}, A.grownBy B row → (∀ r, row = some r → V.heap.size ≤ r ∧ ∃ o : Obj, A.heap[r]? = some o ∧ o.isCells = false) → k < w.heap.size + 2 → A.heap[k]? = some o → B.heap[k]? = some o :=
    fun hg' hr hk ho => (hg'.block _ (Array.getElem?_eq_some_iff.1 ho).1 (fun e => by have := (hr _ e.symm).1; omega)).trans ho
  have low : ∀ {A : World} {row : Option Nat}, (∀ r, row = some r → V.heap.size ≤ r ∧ ∃ o : Obj, A.heap[r]? = some o ∧ o.isCells = false) → ∀ r, row = some r → w.heap.size ≤ r ∧ ∃ o : Obj, A.heap[r]? = some o ∧ o.isCells = false :=
    fun hr r e => ⟨by have := (hr r e).1; omega, (hr r e).2⟩
  refine (hseq (w.heap.size + 1)
    (fun i W => I i W ∧ W.heap[w.heap.size + 1]? = some (.loop (rec .ready none)) ∧ W.heap[w.heap.size]? = some (.deferred (some [])))
    (fun i W => ∃ c, Ix c i W ∧ W.heap[w.heap.size + 1]? = some (.loop (rec .done (some c))) ∧ W.heap[w.heap.size]? = some (.deferred (some [])))
    V bV
    (fun s A B row h hg' hr => ⟨hI s A B row h.1 hg' (low hr), stay hg' hr (by omega) h.2.1, stay hg' hr (by omega) h.2.2⟩)
    (fun s A B row h hg' hr => by
      obtain ⟨c, hc, h2, h3⟩ := h
      exact ⟨c, hIx c s A B row hc hg' (low hr), stay hg' hr (by omega) h2, stay hg' hr (by omega) h3⟩)
    ?_ ⟨iV, rV, dV⟩).mono ?_
  · rintro i hi W ⟨hi1, hr1, hd1⟩
    have hy := run_yield (P := P) (args := encs L[i]) hr1 (by rw [hrec]; exact hps _)
    rw [hrec] at hy
    refine ⟨fn, _, assign, body, hy, roundIn_of_wpIn hfn (hassign i hi W _ hi1 ?_)⟩
    intro a' Wa ka pa ia xa
    have ra := ka.same _ _ (by omega) hr1 rfl
    have da := ka.same _ _ (Nat.le_refl _) hd1 rfl
    refine ⟨_, run_beginRound ra (by rw [hrec]), ?_⟩
    obtain ⟨Wb, hWb⟩ : ∃ Wb, Wb = Wa.putObj (w.heap.size + 1) (.loop { rec .ready none with state := .busy }) := ⟨_, rfl⟩
    rw [← hWb]
    have rb : Wb.heap[w.heap.size + 1]? = some (.loop { rec .ready none with state := .busy }) := by rw [hWb]; exact World.putObj_heap_same (Array.getElem?_eq_some_iff.1 ra).1
    have db : Wb.heap[w.heap.size]? = some (.deferred (some [])) := by rw [hWb]; exact (World.putObj_heap_other (by omega)).trans da
    have kb : KeepsFrom V.heap.size W Wb := (keepsFrom_up ka (by omega)).trans (by rw [hWb]; exact keepsFrom_put (by omega))
    have pb : Kp W Wb := hKt pa (by rw [hWb]; exact hKb _ _ ⟨_, ra⟩)
    have ib : I i Wb := by rw [hWb]; exact hI.putObj _ ia (by omega) ra rfl
    have xb : Ax i a' Wb := by rw [hWb]; exact (hAx i a').putObj (s := ()) _ xa (by omega) ra rfl
    clear hWb
    refine wpIn_mono (hbody i hi a' Wb ⟨_, rb⟩ ib xb) ?_
    have fin : ∀ (jump : Option Code) (Wc : World), KeepsFrom w.heap.size Wb Wc → ∃ Wd, Wd = Wc.putObj (w.heap.size + 1) (.loop (rec (if jump.isNone then .ready else .done) jump)) ∧
        (Instr.endRound (w.heap.size + 1) jump).run P Wc = .ok (.bool jump.isNone) Wd ∧ Wc.heap[w.heap.size + 1]? = some (.loop { rec .ready none with state := .busy }) ∧
        Wd.heap[w.heap.size + 1]? = some (.loop (rec (if jump.isNone then .ready else .done) jump)) ∧ Wd.heap[w.heap.size]? = some (.deferred (some [])) ∧ KeepsFrom V.heap.size W Wd := fun jump Wc kc => by
      have rc := kc.same _ _ (by omega) rb rfl
      have dc := kc.same _ _ (Nat.le_refl _) db rfl
      have h := run_endRound (P := P) jump rc
      refine ⟨_, rfl, ?_, rc, World.putObj_heap_same (Array.getElem?_eq_some_iff.1 rc).1, (World.putObj_heap_other (by omega)).trans dc, (kb.trans (keepsFrom_up kc (by omega))).trans (keepsFrom_put (by omega))⟩
      rw [hrec] at h ⊢
      exact h
    rintro e a3 Wc hp
    cases e with
    | normal =>
      obtain ⟨kc, pc, ic⟩ := hp
      obtain ⟨Wd, hWd, hr, rc, rd, dd, kd⟩ := fin none Wc kc
      exact ⟨_, Wd, hr, .inl ⟨rfl, kd, hKt pb (hKt pc (by rw [hWd]; exact hKb _ _ ⟨_, rc⟩)), by rw [hWd]; exact hI.putObj _ ic (by omega) rc rfl, rd, dd⟩⟩
    | ret =>
      obtain ⟨kc, ic⟩ := hp
      obtain ⟨Wd, hWd, hr, rc, rd, dd, kd⟩ := fin (some .ret) Wc kc
      exact ⟨_, Wd, hr, .inr ⟨rfl, kd, .ret, by rw [hWd]; exact (hIx _).putObj _ ic (by omega) rc rfl, rd, dd⟩⟩
    | exit id =>
      obtain ⟨kc, ic⟩ := hp
      obtain ⟨Wd, hWd, hr, rc, rd, dd, kd⟩ := fin (some (.exit id)) Wc kc
      exact ⟨_, Wd, hr, .inr ⟨rfl, kd, .exit id, by rw [hWd]; exact (hIx _).putObj _ ic (by omega) rc rfl, rd, dd⟩⟩
    | goto t =>
      obtain ⟨kc, ic⟩ := hp
      obtain ⟨Wd, hWd, hr, rc, rd, dd, kd⟩ := fin (some (.goto t)) Wc kc
      exact ⟨_, Wd, hr, .inr ⟨rfl, kd, .goto t, by rw [hWd]; exact (hIx _).putObj _ ic (by omega) rc rfl, rd, dd⟩⟩
    | panic ch => exact hp.elim
    | outgrown => exact hp.elim
  · rintro e W2 ⟨⟨v, rfl⟩, ⟨hi, hl, hk⟩ | ⟨i, hi0, hi1, c, hc, hl, hk⟩⟩
    · exact ⟨none, _, by have := run_endLoop (P := P) hl (by rw [hrec]; simp); rw [hrec] at this; exact this, hdone _ (hI.putObj _ hi (by omega) hl rfl) ((World.putObj_heap_other (by omega)).trans hk)⟩
    · exact ⟨some c, _, by have := run_endLoop (P := P) hl (by rw [hrec]; simp); rw [hrec] at this; exact this, hstop i c _ hi0 hi1 ((hIx c).putObj _ hc (by omega) hl rfl) ((World.putObj_heap_other (by omega)).trans hk)⟩

end Go.Proofs.YtdbhlepbaepngaaGreatDoor

/- Package open: stands. -/
namespace Go.Proofs.YtdbhlepbaepngaaGreatDoor
open Go.RowKit
set_option linter.unusedVariables false

set_option maxHeartbeats 4000000 in
set_option maxRecDepth 100000 in
theorem og_stands (G : Gd) (hE : gE G = 0) (w : World) (h : G.ok w) : Calls Tryz.prog 30 #[.agg #[.int .i64 G.x, .int .i64 G.z, .int .i64 G.w, .int .i64 G.d, .slice G.ga G.L.length G.gc]] w fun e w' => ∃ v base, e = .returned v ∧ w.heap.size ≤ base ∧ w'.ownsRow base 72 6 v (allG G).length ((allG G).flatMap St.enc) ∧ New w w' := by
  obtain ⟨i0, hi, hz0, hz1, hz2⟩ := info_parts st_info
  have hb := placeB_iff.1 (gd_is hE).1
  have HE := Lib.hid hE
  have HLN := Lib.hid (gd_is hE).2.1
  have hlen : G.L.length ≤ 4096 := by
    have := mul_64 hb.2.2.1.1 hb.2.2.1.2 hb.2.2.2.1 hb.2.2.2.2
    have := (gd_is hE).2.1
    omega
  have KA := Lib.hid (fun x z W n => og_at0 G hE x z w W (n : New w W) h)
  obtain ⟨n, hn⟩ : ∃ n, n = G.L.length := ⟨_, rfl⟩
  rw [← hn] at KA hlen ⊢
  have HN := Lib.hid hn
  clear hn h hE
  obtain ⟨wN, hwN⟩ : ∃ q, q = G.w.toNat := ⟨_, rfl⟩
  obtain ⟨dN, hdN⟩ : ∃ q, q = G.d.toNat := ⟨_, rfl⟩
  have HW := Lib.hid hwN
  have HD := Lib.hid hdN
  have hwi : G.w = wN := by omega
  have hdi : G.d = dN := by omega
  rw [hwi, hdi] at KA ⊢
  have hxw : IntKind.i64.wrap (G.x + wN) = G.x + wN := IntWalk.i64_in _ (by omega)
  have hzd : IntKind.i64.wrap (G.z + dN) = G.z + dN := IntWalk.i64_in _ (by omega)
  have HB := Lib.hid hb
  have hw64 : wN ≤ 64 := by omega
  have hd64 : dN ≤ 64 := by omega
  have hx64 : -64 ≤ G.x ∧ G.x ≤ 64 := by omega
  have hz64 : -64 ≤ G.z ∧ G.z ≤ 64 := by omega
  have hwd : n = dN * wN := by
    have h1 := HLN.out
    rw [hwi, hdi, ← HN.out] at h1
    have h2 : (n : Int) = ((wN * dN : Nat) : Int) := by rw [h1]; push_cast; rfl
    rw [Nat.mul_comm]
    exact Int.ofNat.inj h2
  have HWD := Lib.hid hwd
  have HWI := Lib.hid (And.intro hwi hdi)
  clear hwN hdN hwi hdi hb hwd
  go_enter Tryz.func30, Tryz.ntmps30
  go_wp2_with fail
  generalize hW : World.alloc _ _ = W0
  have n0 : New w W0 := by subst hW; (repeat (first | (with_reducible exact New.refl _) | (with_reducible assumption) | ((with_reducible refine New.setB ?_ ?_ _); focus (first | omega | (simp; omega) | (simp; done))) | (with_reducible refine New.alloc ?_ _) | (with_reducible refine New.drew ?_) | (with_reducible refine New.drewN ?_ _) | (with_reducible refine New.hat ?_ _) | ((with_reducible apply New.snart); (with_reducible assumption))))
  have g0 : W0.cell? ⟨w.heap.size, 0, none⟩ = some (.int .i64 G.x) := by subst hW; go_simp
  have g1 : W0.cell? ⟨w.heap.size, 1, none⟩ = some (.int .i64 G.z) := by subst hW; go_simp
  have g2 : W0.cell? ⟨w.heap.size, 2, none⟩ = some (.int .i64 wN) := by subst hW; go_simp
  have g3 : W0.cell? ⟨w.heap.size, 3, none⟩ = some (.int .i64 dN) := by subst hW; go_simp
  have g4 : W0.cell? ⟨w.heap.size, 4, none⟩ = some (.slice G.ga n G.gc) := by subst hW; go_simp
  clear hW
  obtain ⟨base, hbase⟩ : ∃ q, q = W0.heap.size := ⟨_, rfl⟩
  have HBS := Lib.hid hbase
  have hbw : w.heap.size ≤ base := by rw [hbase]; exact n0.size
  have N0 := Lib.hid n0
  have HG := Lib.hid (fun W (q : New W0 W) => And.intro (q.keep g0) (And.intro (q.keep g1) (And.intro (q.keep g2) (And.intro (q.keep g3) (q.keep g4)))))
  clear hbase n0
  go_loopg [4, 3] dN (fun gk s4 s3 wr => ∃ (zz : Nat) (ra : Option Addr) (rn rc : Nat), s4 = .int .i64 (G.z + zz) ∧ s3 = .slice ra rn rc ∧ zz ≤ dN ∧ dN - zz ≤ gk ∧ Hid (wr.ownsRow base 72 6 (.slice ra rn rc) (stTo G (zz * wN)).length ((stTo G (zz * wN)).flatMap St.enc)) ∧ Hid (New W0 wr))
  case atStart => exact ⟨0, none, 0, 0, by simp, rfl, by omega, by omega, Lib.hid (by rw [Nat.zero_mul]; exact World.ownsRow_nil _ _ _ _), Lib.hid (New.refl _)⟩
  case round =>
    obtain ⟨zz, ra, rn, rc, rfl, rfl, hzz, hgk, hown, hnr⟩ := hrel
    clear g0 g1 g2 g3 g4
    obtain ⟨g0, g1, g2, g3, g4⟩ := HG.out _ hnr.out
    by_cases hlt : zz < dN
    · have hle : decide (G.z + (zz : Int) < G.z + dN) = true := decide_eq_true (by omega)
      have hzw : IntKind.i64.wrap (G.z + zz + 1) = G.z + ((zz + 1 : Nat) : Int) := by rw [IntWalk.i64_in _ (by omega)]; omega
      have HGK := Lib.hid hgk
      clear hgk
      rename World => wA
      go_wp2_with fail
      go_loopg [5, 3] wN (fun gk s5 s3 wr => ∃ (xx : Nat) (ra : Option Addr) (rn rc : Nat), s5 = .int .i64 (G.x + xx) ∧ s3 = .slice ra rn rc ∧ xx ≤ wN ∧ wN - xx ≤ gk ∧ Hid (wr.ownsRow base 72 6 (.slice ra rn rc) (stTo G (zz * wN + xx)).length ((stTo G (zz * wN + xx)).flatMap St.enc)) ∧ Hid (New W0 wr))
      case atStart => exact ⟨0, ra, rn, rc, by simp, rfl, by omega, by omega, hown, hnr⟩
      case round =>
        clear hown g0 g1 g2 g3 g4 hnr
        obtain ⟨xx, ra, rn, rc, rfl, rfl, hxx, hgk, hown, hnr⟩ := hrel
        obtain ⟨g0, g1, g2, g3, g4⟩ := HG.out _ hnr.out
        by_cases hxt : xx < wN
        · have hle2 : decide (G.x + (xx : Int) < G.x + wN) = true := decide_eq_true (by omega)
          have hxw2 : IntKind.i64.wrap (G.x + xx + 1) = G.x + ((xx + 1 : Nat) : Int) := by rw [IntWalk.i64_in _ (by omega)]; omega
          obtain ⟨q1, q2, q3, q4, q5⟩ := gd_step (G := G) HE.out (a := zz) (b := xx) (by rw [HWI.out.2]; omega) (by rw [HWI.out.1]; omega)
          rw [← HW.out] at q2 q3 q4 q5
          have hat := atG_in HE.out q1
          have hcol : gcol G (zz * wN + xx) = atG G (G.x + xx) (G.z + zz) := by
            rw [hat, gcol_at q3]
            congr 1
            exact q2.symm
          have hst : ∀ f, stOf G (zz * wN + xx) f = ⟨G.x + xx, G.z + zz, f.y, f⟩ := fun f => by
            unfold stOf
            rw [← HW.out, q4, q5]
          have hc8 := gcol_len HE.out (zz * wN + xx)
          have HCOL := Lib.hid hcol
          have HST := Lib.hid hst
          have HQ3 := Lib.hid q3
          have HGK2 := Lib.hid hgk
          clear q1 q2 q3 q4 q5 hat hcol hst hgk
          go_wp2_with fail
          refine (KA.out _ _ _ (N0.out.trans hnr.out)).mono ?_
          rintro e w2 ⟨v, rfl, hs, n2⟩
          rw [← HCOL.out] at hs
          obtain ⟨la, lc, rfl, -, -, -, hrow⟩ := hs
          have HROW := Lib.hid hrow
          have hnr2 := Lib.hid (hnr.out.trans n2)
          have hown2 : Hid (w2.ownsRow base 72 6 (.slice ra rn rc) (stTo G (zz * wN + xx)).length ((stTo G (zz * wN + xx)).flatMap St.enc)) := Lib.hid (own_new hown.out n2)
          clear hrow n2 hown hnr g0 g1 g2 g3 g4
          obtain ⟨nn, hnn⟩ : ∃ q, q = zz * wN + xx := ⟨_, rfl⟩
          rw [← hnn] at HROW hown2 HST HCOL HQ3 hc8 ⊢
          have HNN := Lib.hid hnn
          clear hnn
          obtain ⟨m, hm⟩ : ∃ q, q = (gcol G nn).length := ⟨_, rfl⟩
          rw [← hm] at hc8 ⊢
          have HM := Lib.hid hm
          clear hm
          rename World => wB
          go_wp2_with fail
          go_loopg [41, 3] m (fun gk s41 s3 wr => ∃ (k : Nat) (ra : Option Addr) (rn rc : Nat), s41 = .int .i64 k ∧ s3 = .slice ra rn rc ∧ k ≤ m ∧ m - k ≤ gk ∧ Hid (wr.ownsRow base 72 6 (.slice ra rn rc) (stAt G nn k).length ((stAt G nn k).flatMap St.enc)) ∧ Hid (New W0 wr))
          case atStart => exact ⟨0, ra, rn, rc, rfl, rfl, by omega, by omega, Lib.hid (by rw [stAt_zero]; exact hown2.out), hnr2⟩
          case round =>
            clear hown2 hnr2
            obtain ⟨k, ra, rn, rc, rfl, rfl, hk, hgk, hown, hnr⟩ := hrel
            by_cases hkt : k < m
            · have hkl : k < (gcol G nn).length := by rw [← HM.out]; exact hkt
              obtain ⟨b, off, rfl, hA⟩ := HROW.out (by omega)
              obtain ⟨c0, c1, c2⟩ := Fl.cells (hA.keep (N0.out.trans hnr.out)) k hkl
              have hsx := HST.out (gcol G nn)[k]
              have hsu := stAt_succ hkl
              rw [hsx] at hsu
              obtain ⟨f, hf⟩ : ∃ f, f = (gcol G nn)[k] := ⟨_, rfl⟩
              rw [← hf] at c0 c1 c2 hsu
              have HSU := Lib.hid hsu
              have hsl := stAt_len HE.out nn k
              have hq3 : nn < n := by rw [HN.out]; exact HQ3.out
              have nr := hnr.out
              have hbz := World.block_lt_of_cell? _ _ c0
              have hrz : base ≤ wr.heap.size := by rw [HBS.out]; exact nr.size
              clear hA hsx hsu hf hnr
              go_upto_region 11 with fail
              refine Code.at (fun W5 hW => ?_)
              have n5 : New W0 W5 := by subst hW; (repeat (first | (with_reducible exact New.refl _) | (with_reducible assumption) | ((with_reducible refine New.setB ?_ ?_ _); focus (first | omega | (simp; omega) | (simp; done))) | (with_reducible refine New.alloc ?_ _) | (with_reducible refine New.drew ?_) | (with_reducible refine New.drewN ?_ _) | (with_reducible refine New.hat ?_ _) | ((with_reducible apply New.snart); (with_reducible assumption))))
              have f0 : W5.cell? ⟨wr.heap.size, 0, none⟩ = some (.int .i64 f.y) := by subst hW; go_simp
              have f1 : W5.cell? ⟨wr.heap.size, 1, none⟩ = some (.int .i64 f.top) := by subst hW; go_simp
              have f2 : W5.cell? ⟨wr.heap.size, 2, none⟩ = some (.int .i64 f.area) := by subst hW; go_simp
              have own5 : W5.ownsRow base 72 6 (.slice ra rn rc) (stAt G nn k).length ((stAt G nn k).flatMap St.enc) := own_new hown.out (by subst hW; (repeat (first | (with_reducible exact New.refl _) | (with_reducible assumption) | ((with_reducible refine New.setB ?_ ?_ _); focus (first | omega | (simp; omega) | (simp; done))) | (with_reducible refine New.alloc ?_ _) | (with_reducible refine New.drew ?_) | (with_reducible refine New.drewN ?_ _) | (with_reducible refine New.hat ?_ _) | ((with_reducible apply New.snart); (with_reducible assumption)))))
              have hr5 : base ≤ W5.heap.size := by rw [HBS.out]; exact n5.size
              clear hW hown nr c0 c1 c2 hrz
              go_wp2_with (at_builtin; refine wpList_append_sl rfl _ _ 65 rfl St.enc_len St.enc_one base 72 i0 _ 48 Tryz.underlying65 hi hz0 hz1 hz2 rfl (by decide) _ (stAt G nn k) rfl (own_new own5 (by (repeat (first | (with_reducible exact New.refl _) | (with_reducible assumption) | ((with_reducible refine New.setB ?_ ?_ _); focus (first | omega | (simp; omega) | (simp; done))) | (with_reducible refine New.alloc ?_ _) | (with_reducible refine New.drew ?_) | (with_reducible refine New.drewN ?_ _) | (with_reducible refine New.hat ?_ _) | ((with_reducible apply New.snart); (with_reducible assumption)))))) _ [(⟨G.x + xx, G.z + zz, f.y, f⟩ : St)] rfl (st_new _ ⟨G.x + xx, G.z + zz, f.y, f⟩ _) (by unfold maxLen; simp; omega) (by simp; omega) (by simp; omega) ?_; intro v' w1 hown' hnew _; obtain ⟨a', d', N', hN', rfl⟩ := own_shape2 hown'; clear hN'; have nw1 := hnew W0 (by (repeat (first | (with_reducible exact New.refl _) | (with_reducible assumption) | ((with_reducible refine New.setB ?_ ?_ _); focus (first | omega | (simp; omega) | (simp; done))) | (with_reducible refine New.alloc ?_ _) | (with_reducible refine New.drew ?_) | (with_reducible refine New.drewN ?_ _) | (with_reducible refine New.hat ?_ _) | ((with_reducible apply New.snart); (with_reducible assumption))))) (Nat.le_of_eq HBS.out.symm))
              go_roundg (m - (k + 1))
              case measure => omega
              case rel => exact ⟨k + 1, a', N', d', by go_num, rfl, by omega, by omega, Lib.hid (by rw [HSU.out]; exact hown'), Lib.hid nw1⟩
            · obtain rfl : k = m := by omega
              have HO : Hid (wr.ownsRow base 72 6 (.slice ra rn rc) (stTo G (zz * wN + (xx + 1))).length ((stTo G (zz * wN + (xx + 1))).flatMap St.enc)) := Lib.hid (by
                have h := hown.out
                rw [stAt_all (by rw [HM.out]; exact Nat.le_refl _), HNN.out, Nat.add_assoc] at h
                exact h)
              clear hown
              go_wp2_with fail
              go_roundg (wN - (xx + 1))
              case measure => have := HGK2.out; omega
              case rel => exact ⟨xx + 1, ra, rn, rc, by go_num, rfl, by omega, by omega, HO, hnr⟩
        · have hle2 : decide (G.x + (xx : Int) < G.x + wN) = false := decide_eq_false (by omega)
          obtain rfl : xx = wN := by omega
          have HO : Hid (wr.ownsRow base 72 6 (.slice ra rn rc) (stTo G ((zz + 1) * xx)).length ((stTo G ((zz + 1) * xx)).flatMap St.enc)) := Lib.hid (by
            have h := hown.out
            have e : (zz + 1) * xx = zz * xx + xx := by rw [Nat.add_mul, Nat.one_mul]
            rw [e]
            exact h)
          clear hown
          go_wp2_with fail
          go_roundg (dN - (zz + 1))
          case measure => have := HGK.out; omega
          case rel => exact ⟨zz + 1, ra, rn, rc, by go_num, rfl, by omega, by omega, HO, hnr⟩
    · have hle : decide (G.z + (zz : Int) < G.z + dN) = false := decide_eq_false (by omega)
      obtain rfl : zz = dN := by omega
      have HO : Hid (wr.ownsRow base 72 6 (.slice ra rn rc) (allG G).length ((allG G).flatMap St.enc)) := Lib.hid (by
        have h := hown.out
        rw [← HWD.out, HN.out] at h
        exact h)
      go_wp2_with fail
      go_ret
      exact ⟨_, _, rfl, hbw, HO.out, N0.out.trans hnr.out⟩

end Go.Proofs.YtdbhlepbaepngaaGreatDoor

/- Worlds and loops over functions: what blocks keep. No function of the program in sight. -/
namespace Go.Proofs.YtdbhlepbaepngaaGreatDoor
open Go.RowKit Go.Shelf Go.Sort
set_option linter.unusedVariables false

theorem New.stays {w w' : World} (h : New w w') {b : Nat} {o : Obj} (hb : w.heap[b]? = some o) : w'.heap[b]? = some o := (h.block b (Array.getElem?_eq_some_iff.1 hb).1).trans hb

/-- These blocks lie as they lay. -/
def KeepS (S : List Nat) (W W' : World) : Prop := ∀ b ∈ S, W'.heap[b]? = W.heap[b]?
theorem KeepS.refl {S : List Nat} (W : World) : KeepS S W W := fun _ _ => rfl
theorem KeepS.trans {S : List Nat} {X Y Z : World} (h : KeepS S X Y) (k : KeepS S Y Z) : KeepS S X Z := fun b hb => (k b hb).trans (h b hb)
theorem KeepS.new {S : List Nat} {w W : World} (hS : ∀ b ∈ S, b < w.heap.size) (n : New w W) : KeepS S w W := fun b hb => n.block b (hS b hb)
theorem own_keepS {β : Type} {S : List Nat} {w : World} {D : Nat} (hS : ∀ b ∈ S, ∃ o : Obj, w.heap[b]? = some o ∧ o.isCells = true) : OwnFrom D (fun (_ : β) W => KeepS S w W) := fun _ X Y row hs hg hr b hb => by
  obtain ⟨o, ho, hc⟩ := hS b hb
  have hX : X.heap[b]? = some o := (hs b hb).trans ho
  refine (hg.block b (Array.getElem?_eq_some_iff.1 hX).1 (fun e' => ?_)).trans (hs b hb)
  obtain ⟨_, o', ho', hc'⟩ := hr b e'.symm
  rw [hX] at ho'; cases ho'; rw [hc] at hc'; cases hc'
theorem cells_of_cell {W : World} {a : Addr} {v : Value} (h : W.cell? a = some v) : ∃ o : Obj, W.heap[a.block]? = some o ∧ o.isCells = true := by
  unfold World.cell? at h
  cases ho : W.heap[a.block]? with
  | none => simp [ho] at h
  | some o => exact ⟨o, rfl, by cases o <;> simp_all [Obj.isCells]⟩

theorem roundIn_wide {n m : Nat} {P : Program} {l : Nat} {f : FuncId} {tmps : Array Value} {assign body : Code} {w : World} {R : Ending → World → Prop} (h : RoundIn Fence.wide n P l f tmps assign body w R) : RoundIn Fence.wide m P l f tmps assign body w R :=
  ⟨h.1, fun c cs _ => h.2 c cs (room_wide _)⟩

theorem roundIn_in {n m l' : Nat} {P : Program} {l : Nat} {f : FuncId} {tmps : Array Value} {assign body : Code} {w : World} {R : Ending → World → Prop} (h : RoundIn Fence.wide n P l f tmps assign body w R) : RoundIn (Fence.wide.inRound l') m P l f tmps assign body w R :=
  ⟨h.1, fun c cs _ => h.2 c cs (room_wide _)⟩
theorem callsIn_in {m l' : Nat} {P : Program} {f : FuncId} {args : Array Value} {w : World} {R : Ending → World → Prop} (h : Calls P f args w R) : CallsIn (Fence.wide.inRound l') m P f args w R :=
  (callsIn_wide (n := m)).2 h
theorem grown_new {w w' : World} (h : New w w') : w.grownBy w' none := ⟨h.os, h.tape, h.output, h.size, fun k hk _ => h.block k hk⟩
theorem keepsFrom_new {B : Nat} {w w' : World} (h : New w w') : KeepsFrom B w w' := ⟨h.size, fun k o _ h0 _ => (h.block k (Array.getElem?_eq_some_iff.1 h0).1).trans h0⟩
theorem own_over {β : Type} {B : Nat} {J : β → World → Prop} (h : OwnFrom B J) {s : β} {w w' : World} (hs : J s w) (n : New w w') : J s w' := h s w w' none hs (grown_new n) (fun r e => by cases e)
theorem own_up {β γ : Type} {B B' : Nat} {J : β → World → Prop} (f : γ → β) (h : OwnFrom B J) (hB : B ≤ B') : OwnFrom B' (fun (s : γ) W => J (f s) W) := fun s X Y row hs hg hr => h (f s) X Y row hs hg (fun r e => ⟨Nat.le_trans hB (hr r e).1, (hr r e).2⟩)

end Go.Proofs.YtdbhlepbaepngaaGreatDoor

/- Package open: All, as a contract by places. -/
namespace Go.Proofs.YtdbhlepbaepngaaGreatDoor
open Go.RowKit Go.Shelf Go.Sort
set_option linter.unusedVariables false
attribute [local go_sem] Oper.semAt_some

def stA (s : St) : Array Value := #[.agg #[.int .i64 s.x, .int .i64 s.z, .int .i64 s.y], .agg #[.int .i64 s.f.y, .int .i64 s.f.top, .int .i64 s.f.area]]
/-- The block that a row stands in; where there is none, B. -/
def rowBS (l : List St) (at0 : Option Addr) (B : Nat) : Nat := match l, at0 with
  | _ :: _, some a => a.block
  | _, _ => B
theorem rowBS_pos {l : List St} {a : Addr} {B : Nat} (h : 0 < l.length) : rowBS l (some a) B = a.block := by
  cases l with
  | nil => simp at h
  | cons x xs => rfl
/-- A slice in a block of its own. -/
structure StBox (w : World) (B : Nat) (at0 : Option Addr) (cap : Nat) (l : List St) : Prop where
  box : w.heap[B]? = some (.cells #[.slice at0 l.length cap] 65 (0, 0))
  row : RowIn St.enc 6 w at0 l
theorem StBox.lt {w : World} {B : Nat} {at0 : Option Addr} {cap : Nat} {l : List St} (h : StBox w B at0 cap l) : B < w.heap.size := (Array.getElem?_eq_some_iff.1 h.box).1
def stS (B : Nat) (at0 : Option Addr) (l : List St) : List Nat := [B, rowBS l at0 B]
theorem StBox.keep {w W : World} {B : Nat} {at0 : Option Addr} {cap : Nat} {l : List St} (h : StBox w B at0 cap l) (k : KeepS (stS B at0 l) w W) : StBox W B at0 cap l :=
  ⟨(k B (by simp [stS])).trans h.box, fun h0 => by
    obtain ⟨b, off, rfl, hr⟩ := h.row h0
    have k2 := k (rowBS l (some ⟨b, off, none⟩) B) (by simp [stS])
    rw [rowBS_pos h0] at k2
    exact ⟨b, off, rfl, fun j hj i hi => (World.cell?_of_block (a := ⟨b, off + j * 6 + i, none⟩) k2).trans (hr j hj i hi)⟩⟩
theorem StBox.row_lt {w : World} {B : Nat} {at0 : Option Addr} {cap : Nat} {l : List St} (h : StBox w B at0 cap l) : rowBS l at0 B < w.heap.size := by
  cases l with
  | nil => exact h.lt
  | cons x xs =>
    obtain ⟨b, off, rfl, hr⟩ := h.row (by simp)
    exact World.block_lt_of_cell? _ _ (hr 0 (by simp) 0 (by rw [St.enc_len]; omega))
theorem StBox.in_lt {w : World} {B : Nat} {at0 : Option Addr} {cap : Nat} {l : List St} (h : StBox w B at0 cap l) : ∀ b ∈ stS B at0 l, b < w.heap.size := fun b hb => by
  simp only [stS, List.mem_cons, List.not_mem_nil, or_false] at hb
  rcases hb with rfl | rfl
  · exact h.lt
  · exact h.row_lt
theorem StBox.new {w W : World} {B : Nat} {at0 : Option Addr} {cap : Nat} {l : List St} (h : StBox w B at0 cap l) (n : New w W) : StBox W B at0 cap l := h.keep (KeepS.new h.in_lt n)
theorem StBox.cell {w : World} {B : Nat} {at0 : Option Addr} {cap : Nat} {l : List St} (h : StBox w B at0 cap l) : w.cell? ⟨B, 0, none⟩ = some (.slice at0 l.length cap) := cell_of_heap h.box rfl

set_option maxHeartbeats 4000000 in
set_option maxRecDepth 100000 in
theorem og_all1 (at0 : Option Addr) (l : List St) (cap B : Nat) (hl : l.length ≤ 100000) (n : Nat) (hn : 1 ≤ n) (w : World) (H : StBox w B at0 cap l) :
    SeqL Fence.wide n Tryz.prog 31 #[.pointer (some ⟨B, 0, none⟩)] stA l (KeepS (stS B at0 l)) w := by
  intro lp J Jx W hW hJ hJx hY h0
  have H0 := Lib.hid (H.new hW)
  have HY := Lib.hid hY
  have HJ := Lib.hid hJ
  have HJ0 : Hid (J 0 W) := h0
  clear hY h0 H hW hJ hJx
  simp only [List.append_toArray, List.cons_append, List.nil_append]
  refine callsIn_of_wp Tryz.func31 rfl trivial ?_ rfl
  simp only [Tryz.ntmps31, List.size_toArray, List.length_cons, List.length_nil, Nat.reduceAdd, Nat.reduceSub, Array.replicate_succ, Array.replicate_zero, List.push_toArray, List.append_toArray, List.nil_append, List.cons_append]
  have c0 := H0.out.cell
  obtain ⟨m, hm⟩ : ∃ m, m = l.length := ⟨_, rfl⟩
  rw [← hm] at c0 hl ⊢
  have HM := Lib.hid hm
  clear hm
  gi_wp2_with fail
  gi_loopw [7] (fun vz wr => ∃ k : Nat, vz = .int .i64 k ∧ k ≤ m ∧ Hid (J k wr) ∧ Hid (StBox wr B at0 cap l) ∧ Hid (W.heap.size ≤ wr.heap.size))
    (fun vz _ => m - (intOf vz).toNat)
  case atStart => exact ⟨0, by simp, Nat.zero_le _, HJ0, H0, Lib.hid (Nat.le_refl _)⟩
  case round =>
    clear c0 H0 HJ0
    obtain ⟨k, rfl, hk, hJ1, HB, HZ⟩ := hrel
    by_cases hlt : k < m
    · have hkl : k < l.length := by rw [← HM.out]; exact hlt
      obtain ⟨b0, off, rfl, hA⟩ := HB.out.row (by omega)
      obtain ⟨d0, d1, d2, d3, d4, d5⟩ := St.cells hA k hkl
      have hyall := fun U q => HY.out k hkl U q
      unfold stA at hyall
      obtain ⟨s, hs⟩ : ∃ s, s = l[k] := ⟨_, rfl⟩
      rw [← hs] at d0 d1 d2 d3 d4 d5 hyall
      have HYA := Lib.hid hyall
      clear hyall hs hA hkl
      have nU : New wr (wr.alloc (.cells #[.int .i64 s.x, .int .i64 s.z, .int .i64 s.y, .int .i64 s.f.y, .int .i64 s.f.top, .int .i64 s.f.area] 72)) := by (repeat (first | (with_reducible exact New.refl _) | (with_reducible assumption) | ((with_reducible refine New.setB ?_ ?_ _); focus (first | omega | (simp; omega) | (simp; done))) | (with_reducible refine New.alloc ?_ _) | (with_reducible refine New.drew ?_) | (with_reducible refine New.drewN ?_ _) | (with_reducible refine New.hat ?_ _) | ((with_reducible apply New.snart); (with_reducible assumption))))
      obtain ⟨fn, tmps, assign, body, hy, hR⟩ := HYA.out _ (own_over HJ.out hJ1.out nU)
      have HU := Lib.hid (And.intro (HB.out.new nU) (Nat.le_trans HZ.out nU.size))
      have hbz := World.block_lt_of_cell? _ _ d0
      clear HYA nU
      gi_wp2_with fail
      refine hR.mono ?_
      clear hy hR
      rintro e W5 (⟨rfl, kf, kp, hJ5⟩ | ⟨rfl, -, hJx5⟩)
      · have HB5 := Lib.hid (HU.out.1.keep kp)
        have HZ5 : Hid (W.heap.size ≤ W5.heap.size) := Lib.hid (Nat.le_trans HU.out.2 kf.size)
        have hJ6 : Hid (J (k + 1) W5) := hJ5
        clear hJ5 kp kf
        gi_wp2_with fail
        go_roundw
        case rel => exact ⟨k + 1, by congr 1, by omega, hJ6, HB5, HZ5⟩
        case measure => simp [intOf]; omega
      · have hJ6 := Lib.hid hJx5
        gi_wp2_with fail
        refine bodyPost_ret (results_none rfl _ _ _) rfl ?_
        exact ⟨⟨_, rfl⟩, .inr ⟨k + 1, by omega, by omega, hJ6.out⟩⟩
    · obtain rfl : k = m := by omega
      gi_wp2_with fail
      go_end0
      exact ⟨⟨_, rfl⟩, .inl hJ1.out⟩

/-- What All answers: a function that goes over all floors. -/
def Alled (L : List St) (w : World) (e : Ending) (w' : World) : Prop :=
  New w w' ∧ ∃ (B : Nat) (at0 : Option Addr) (cap : Nat), e = .returned (.func (.func 31) #[] #[.pointer (some ⟨B, 0, none⟩)]) ∧ StBox w' B at0 cap L ∧ ∀ b ∈ stS B at0 L, w.heap.size ≤ b

set_option maxHeartbeats 2000000 in
set_option maxRecDepth 100000 in
theorem og_All (G : Gd) (w : World) (h : G.ok w) : Calls Tryz.prog 20 #[.agg #[.int .i64 G.x, .int .i64 G.z, .int .i64 G.w, .int .i64 G.d, .slice G.ga G.L.length G.gc]] w (Alled (allG (colG G)) w) := by
  have KC := Lib.hid (fun W n => og_columnsOf G W (h.keep (n : New w W)))
  have KA := Lib.hid (fun W n => og_stands (colG G) (colG_E G) W (colG_ok (h.keep (n : New w W))))
  obtain ⟨n, hn⟩ : ∃ n, n = G.L.length := ⟨_, rfl⟩
  rw [← hn] at KC ⊢
  clear hn h
  obtain ⟨n2, hn2⟩ : ∃ n2, n2 = (colG G).L.length := ⟨_, rfl⟩
  obtain ⟨L, hL⟩ : ∃ L, L = allG (colG G) := ⟨_, rfl⟩
  rw [← hL] at KA ⊢
  rw [← hn2] at KC KA
  clear hn2 hL
  generalize (colG G).x = cx at *
  generalize (colG G).z = cz at *
  generalize (colG G).w = cw at *
  generalize (colG G).d = cd at *
  generalize (colG G).ga = cga at *
  generalize (colG G).gc = cgc at *
  obtain ⟨Q, hQ⟩ : ∃ Q, Q = Alled L w := ⟨_, rfl⟩
  rw [← hQ]
  have HQ := Lib.hid hQ
  clear hQ
  go_enter Tryz.func20, Tryz.ntmps20
  go_wp2_with fail
  refine (KC.out _ (by (repeat (first | (with_reducible exact New.refl _) | (with_reducible assumption) | ((with_reducible refine New.setB ?_ ?_ _); focus (first | omega | (simp; omega) | (simp; done))) | (with_reducible refine New.alloc ?_ _) | (with_reducible refine New.drew ?_) | (with_reducible refine New.drewN ?_ _) | (with_reducible refine New.hat ?_ _) | ((with_reducible apply New.snart); (with_reducible assumption)))))).mono ?_
  rintro e w1 ⟨rfl, n1⟩
  have N1 : New w w1 := New.trans (by (repeat (first | (with_reducible exact New.refl _) | (with_reducible assumption) | ((with_reducible refine New.setB ?_ ?_ _); focus (first | omega | (simp; omega) | (simp; done))) | (with_reducible refine New.alloc ?_ _) | (with_reducible refine New.drew ?_) | (with_reducible refine New.drewN ?_ _) | (with_reducible refine New.hat ?_ _) | ((with_reducible apply New.snart); (with_reducible assumption))))) n1
  clear n1
  go_wp2_with fail
  refine (KA.out _ N1).mono ?_
  rintro e w2 ⟨v, base, rfl, hbs, ho, n2⟩
  have N2 := N1.trans n2
  have hb1 := Nat.le_trans N1.size hbs
  have hsl : Sl St.enc 6 w2 v L := own_sl St.enc_len ho
  obtain ⟨a, c, rfl, h1, h2, h3, h4⟩ := hsl
  have HO := Lib.hid (And.intro h4 ho)
  clear n2 N1 h1 h2 h3 h4 ho
  go_wp2_with fail
  rw [HQ.out]
  show Alled L w (.returned (.func (.func 31) #[] #[.pointer (some ⟨w2.heap.size, 0, none⟩)])) (w2.alloc (.cells #[.slice a L.length c] 65))
  have n3 : New w2 (w2.alloc (.cells #[.slice a L.length c] 65)) := by (repeat (first | (with_reducible exact New.refl _) | (with_reducible assumption) | ((with_reducible refine New.setB ?_ ?_ _); focus (first | omega | (simp; omega) | (simp; done))) | (with_reducible refine New.alloc ?_ _) | (with_reducible refine New.drew ?_) | (with_reducible refine New.drewN ?_ _) | (with_reducible refine New.hat ?_ _) | ((with_reducible apply New.snart); (with_reducible assumption))))
  have hz := N2.size
  refine ⟨N2.trans n3, w2.heap.size, a, c, rfl, ⟨World.alloc_heap_new _ _, HO.out.1.keep n3⟩, fun b hb => ?_⟩
  simp only [stS, List.mem_cons, List.not_mem_nil, or_false] at hb
  rcases hb with rfl | rfl
  · exact hz
  · have h4 := HO.out.1
    have ho := HO.out.2
    cases L with
    | nil => exact hz
    | cons x xs =>
      obtain ⟨b, off, rfl, -⟩ := h4 (by simp)
      have := own_block ho b rfl
      show w.heap.size ≤ b
      omega

end Go.Proofs.YtdbhlepbaepngaaGreatDoor
