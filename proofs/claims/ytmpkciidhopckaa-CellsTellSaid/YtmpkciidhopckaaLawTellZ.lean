import Derived.Test.YtmpkciidhopckaaCellsR
import Derived.OrdersIn
import Derived.Deep.Quiet
import Derived.TacticsIn
import Derived.TacticsInMore
import Derived.BigQuiet
import Derived.Test.YtmpkciidhopckaaFlat
import Derived.WalkSpells
import Derived.Test.YtmpkciidhopckaaTurnC
import Derived.Test.YtmpkciidhopckaaRefZ
import Derived.Deep.DeepCutAuto
import Derived.Deep.LoopGhost
import Derived.Outline
import Derived.Test.YtmpkciidhopckaaRows
import Derived.WalkKit
import Derived.ProofKit
import Derived.OpenShut
import Derived.ShutString
import Derived.ChangeOld
import Derived.Below
import Derived.Carry

/- Package cells: Each, what goes over a row's columns with their places, as a contract. -/
namespace Go.Proofs.Ytmpkciidhopckaa
open Go.RowKit Go.Shelf Go.Sort
set_option linter.unusedVariables false
attribute [local go_sem] Oper.semAt_some

def colAt (L : List Col) (j : Nat) : Col := L.toArray[j]!
theorem colAt_of (L : List Col) {j : Nat} (h : j < L.length) : colAt L j = L[j] := by
  unfold colAt
  rw [getElem!_pos L.toArray j (by simpa using h)]
  simp
def placeE (L : List Col) (j : Nat) : Array Value := #[.int .i64 j, (colAt L j).val]

def SixOf (w : World) (g : Nat) (L : List Col) : Prop := ∀ i (hi : i < L.length), w.cell? ⟨g, i * 6, none⟩ = some (.int .i64 L[i].x) ∧ w.cell? ⟨g, i * 6 + 1, none⟩ = some (.int .i64 L[i].z) ∧ w.cell? ⟨g, i * 6 + 2, none⟩ = some (.int .i64 L[i].m.fn) ∧
    w.cell? ⟨g, i * 6 + 3, none⟩ = some (.int .i64 L[i].m.fd) ∧ w.cell? ⟨g, i * 6 + 4, none⟩ = some (.int .i64 L[i].m.ln) ∧ w.cell? ⟨g, i * 6 + 5, none⟩ = some (.int .i64 L[i].m.ld)

theorem range_next (j : Nat) : List.range (j + 1) = List.range j ++ [j] := List.range_succ

set_option maxHeartbeats 4000000 in
set_option maxRecDepth 100000 in
theorem c_all1 (L : List Col) (g cap Bx : Nat) (hL : L.length ≤ 1156) (hcap : L.length ≤ cap) (n l : Nat) (hn : 1 ≤ n) (J Jx : List Nat → World → Prop)
    (hY : ∀ (pre : List Nat) (j : Nat) W, J pre W → pre.length < L.length → YieldAt Fence.wide (n - 1) Try.prog l (placeE L j) W fun e W' =>
      (e = .returned (.bool true) ∧ J (pre ++ [j]) W' ∧ (W'.heap[Bx]? = W.heap[Bx]? ∧ W'.heap[g]? = W.heap[g]?)) ∨ (e = .returned (.bool false) ∧ Jx (pre ++ [j]) W'))
    (W : World) (hJ : ∀ pre W1 W2, J pre W1 → New W1 W2 → J pre W2) (hc : W.cell? ⟨Bx, 0, none⟩ = some (.slice (some ⟨g, 0, none⟩) L.length cap)) (hs : SixOf W g L) (hg : g < W.heap.size) (hB : Bx < W.heap.size)
    (h0 : J [] W) :
    CallsIn Fence.wide n Try.prog 73 #[.func (.yield l) #[] #[], .pointer (some ⟨Bx, 0, none⟩)] W fun e W' => (∃ v, e = .returned v) ∧
      ((∃ xs, xs = List.range L.length ∧ J xs W') ∨ (∃ pre : List Nat, (pre = List.range pre.length ∧ pre.length ≤ L.length) ∧ Jx pre W')) := by
  refine callsIn_of_wp Try.func73 rfl trivial ?_ rfl
  simp only [Try.ntmps73, List.size_toArray, List.length_cons, List.length_nil, Nat.reduceAdd, Nat.reduceSub, Array.replicate_succ, Array.replicate_zero, List.push_toArray, List.append_toArray, List.nil_append, List.cons_append]
  gi_wp2_with fail
  have HS := Lib.hid hs
  have HJ0 : Hid (J [] W) := h0
  clear hs h0
  gi_loopw [7] (fun vz wr => ∃ j : Nat, vz = .int .i64 j ∧ j ≤ L.length ∧ Hid (J (List.range j) wr) ∧ wr.heap[Bx]? = W.heap[Bx]? ∧ wr.heap[g]? = W.heap[g]?)
    (fun vz _ => L.length - (intOf vz).toNat)
  case atStart => exact ⟨0, by simp, Nat.zero_le _, HJ0, rfl, rfl⟩
  case round =>
    obtain ⟨j, rfl, hj, hJ1, e1, e2⟩ := hrel
    have e3 : Bx < wr.heap.size := by rw [Array.getElem?_eq_getElem hB] at e1; exact (Array.getElem?_eq_some_iff.1 e1).1
    have e4 : g < wr.heap.size := by rw [Array.getElem?_eq_getElem hg] at e2; exact (Array.getElem?_eq_some_iff.1 e2).1
    by_cases hlt : j < L.length
    · obtain ⟨c0, c1, c2, c3, c4, c5⟩ := HS.out j hlt
      replace c0 := (World.cell?_of_block (a := ⟨g, j * 6, none⟩) e2).trans c0
      replace c1 := (World.cell?_of_block (a := ⟨g, j * 6 + 1, none⟩) e2).trans c1
      replace c2 := (World.cell?_of_block (a := ⟨g, j * 6 + 2, none⟩) e2).trans c2
      replace c3 := (World.cell?_of_block (a := ⟨g, j * 6 + 3, none⟩) e2).trans c3
      replace c4 := (World.cell?_of_block (a := ⟨g, j * 6 + 4, none⟩) e2).trans c4
      replace c5 := (World.cell?_of_block (a := ⟨g, j * 6 + 5, none⟩) e2).trans c5
      have hyall := fun W q => hY (List.range j) j W q (by simpa using hlt)
      have ec : placeE L j = #[.int .i64 j, .agg #[.int .i64 L[j].x, .int .i64 L[j].z, .int .i64 L[j].m.fn, .int .i64 L[j].m.fd, .int .i64 L[j].m.ln, .int .i64 L[j].m.ld]] := by
        unfold placeE
        rw [colAt_of L hlt]
        rfl
      rw [ec, ← range_next] at hyall
      generalize L[j] = c at *
      obtain ⟨cx, cz, ⟨cn, cd, cl, ck⟩, _⟩ := c
      simp only [] at *
      have ha : New wr (wr.alloc (.cells #[.int .i64 cx, .int .i64 cz, .int .i64 cn, .int .i64 cd, .int .i64 cl, .int .i64 ck] 27)) := (New.refl wr).alloc _
      obtain ⟨fn, tmps, assign, body, hy, hR⟩ := hyall (wr.alloc (.cells #[.int .i64 cx, .int .i64 cz, .int .i64 cn, .int .i64 cd, .int .i64 cl, .int .i64 ck] 27)) (hJ _ _ _ hJ1.out ha)
      have ba := ha.block Bx (by omega)
      have bg := ha.block g (by omega)
      clear hyall ec ha
      gi_wp2
      refine hR.mono ?_
      clear hy hR
      rintro e W5 (⟨rfl, hJ5, k1, k2⟩ | ⟨rfl, hJx5⟩)
      · gi_wp2
        go_roundw
        case rel => exact ⟨j + 1, by congr 1, by omega, hJ5, k1.trans (ba.trans e1), k2.trans (bg.trans e2)⟩
        case measure => simp [intOf]; omega
      · gi_wp2
        refine bodyPost_ret (results_none rfl _ _ _) rfl ?_
        exact ⟨⟨_, rfl⟩, .inr ⟨_, ⟨by simp, by simp; omega⟩, hJx5⟩⟩
    · obtain rfl : j = L.length := by omega
      gi_wp2_with fail
      go_end0
      exact ⟨⟨_, rfl⟩, .inl ⟨_, rfl, hJ1.out⟩⟩

set_option maxHeartbeats 4000000 in
theorem c_all0 (at0 : Option Addr) (cap Bx : Nat) (n l : Nat) (J Jx : List Nat → World → Prop) (W : World) (hc : W.cell? ⟨Bx, 0, none⟩ = some (.slice at0 0 cap)) (h0 : J [] W) :
    CallsIn Fence.wide n Try.prog 73 #[.func (.yield l) #[] #[], .pointer (some ⟨Bx, 0, none⟩)] W fun e W' => (∃ v, e = .returned v) ∧
      ((∃ xs, xs = List.range 0 ∧ J xs W') ∨ (∃ pre : List Nat, (pre = List.range pre.length ∧ pre.length ≤ 0) ∧ Jx pre W')) := by
  refine callsIn_of_wp Try.func73 rfl trivial ?_ rfl
  simp only [Try.ntmps73, List.size_toArray, List.length_cons, List.length_nil, Nat.reduceAdd, Nat.reduceSub, Array.replicate_succ, Array.replicate_zero, List.push_toArray, List.append_toArray, List.nil_append, List.cons_append]
  gi_wp2_with fail
  gi_loopw [7] (fun vz wr => vz = .int .i64 0 ∧ wr = W)
    (fun _ _ => 0)
  case atStart => exact ⟨rfl, rfl⟩
  case round =>
    obtain ⟨rfl, rfl⟩ := hrel
    gi_wp2_with fail
    go_end0
    exact ⟨⟨_, rfl⟩, .inl ⟨_, rfl, h0⟩⟩

theorem rowIs_keep {w w' : World} {v : Value} {L : List Col} (h : RowIs w v L) (n : New w w') : RowIs w' v L := by
  rcases h with h | ⟨g, cap, e, hc, hH⟩
  · exact Or.inl h
  · refine Or.inr ⟨g, cap, e, hc, fun j hj => ?_⟩
    obtain ⟨p, q⟩ := hH j hj
    have hb := n.block g (World.block_lt_of_cell? _ _ p)
    exact ⟨(World.cell?_of_block (w := w) (a := ⟨g, 0 + j, none⟩) hb).trans p, (World.frozen?_of_block (w := w) (a := ⟨g, 0 + j, none⟩) hb).trans q⟩
/-- The block that the row stands in, or the box itself. -/
def rowOf (v : Value) (Bx : Nat) : Nat := match v with
  | .slice (some a) (_ + 1) _ => a.block
  | _ => Bx
theorem rowOf_pos {a : Addr} {n cap Bx : Nat} (h : 0 < n) : rowOf (.slice (some a) n cap) Bx = a.block := by
  cases n with
  | zero => omega
  | succ k => rfl
theorem rowOf_nil {at0 : Option Addr} {cap Bx : Nat} : rowOf (.slice at0 0 cap) Bx = Bx := by
  cases at0 <;> rfl
theorem rowOf_lt {w : World} {v : Value} {L : List Col} {Bx : Nat} (h : RowIs w v L) (hB : Bx < w.heap.size) : rowOf v Bx < w.heap.size := by
  by_cases h1 : 0 < L.length
  · obtain ⟨g, cap, rfl, _, hs⟩ := h.at h1
    rw [rowOf_pos h1]
    exact World.block_lt_of_cell? _ _ (hs 0 h1).1
  · have hnil : L = [] := List.eq_nil_of_length_eq_zero (by omega)
    subst hnil
    obtain ⟨at0, cap, rfl⟩ := h.len
    rw [List.length_nil, rowOf_nil]
    exact hB

theorem c_allstops (L : List Col) (v : Value) (Bx : Nat) (hL : L.length ≤ 1156) (n : Nat) (hn : 1 ≤ n) (w : World) (hv : w.cell? ⟨Bx, 0, none⟩ = some v) (hr : RowIs w v L) (hB : Bx < w.heap.size) :
    SeqStopsK Fence.wide n Try.prog 73 #[.pointer (some ⟨Bx, 0, none⟩)] (placeE L) (fun W W' => W'.heap[Bx]? = W.heap[Bx]? ∧ W'.heap[rowOf v Bx]? = W.heap[rowOf v Bx]?)
      (fun xs => xs = List.range L.length) (fun pre => pre = List.range pre.length ∧ pre.length ≤ L.length) L.length w := by
  intro l J Jx W hW hJ _ hY h0
  have hg := rowOf_lt hr hB
  have hcW : W.cell? ⟨Bx, 0, none⟩ = some v := (hW.cell (p := ⟨Bx, 0, none⟩) hB).trans hv
  by_cases h1 : 0 < L.length
  · obtain ⟨g, cap, rfl, hcap, hs⟩ := hr.at h1
    rw [rowOf_pos h1] at hg hY
    have hs' : SixOf W g L := fun i hi => by
      obtain ⟨c0, c1, c2, c3, c4, c5⟩ := hs i hi
      exact ⟨(hW.cell (p := ⟨g, i * 6, none⟩) hg).trans c0, (hW.cell (p := ⟨g, i * 6 + 1, none⟩) hg).trans c1, (hW.cell (p := ⟨g, i * 6 + 2, none⟩) hg).trans c2, (hW.cell (p := ⟨g, i * 6 + 3, none⟩) hg).trans c3, (hW.cell (p := ⟨g, i * 6 + 4, none⟩) hg).trans c4, (hW.cell (p := ⟨g, i * 6 + 5, none⟩) hg).trans c5⟩
    have hz := hW.size
    exact c_all1 L g cap Bx hL hcap n l hn J Jx hY W (fun _ _ _ h k => hJ _ _ _ none h k.grown_of (fun r e => by cases e)) hcW hs' (Nat.lt_of_lt_of_le hg hz) (Nat.lt_of_lt_of_le hB hz) h0
  · have hnil : L = [] := List.eq_nil_of_length_eq_zero (by omega)
    subst hnil
    obtain ⟨at0, cap, rfl⟩ := hr.len
    exact c_all0 at0 cap Bx n l J Jx W hcW h0

set_option maxHeartbeats 4000000 in
theorem c_each (ax az bx bz : Int) (w : World) :
    Calls Try.prog 19 #[.agg #[.int .i64 ax, .int .i64 az], .agg #[.int .i64 bx, .int .i64 bz]] w fun e w' =>
      ∃ v Bx, e = .returned (.func (.func 73) #[] #[.pointer (some ⟨Bx, 0, none⟩)]) ∧ w'.cell? ⟨Bx, 0, none⟩ = some v ∧ RowIs w' v (told ax az bx bz) ∧ New w w' ∧ w.heap.size ≤ Bx ∧ Bx < w'.heap.size := by
  have CC := Lib.hid (fun W => c_cells ax az bx bz W)
  go_enter Try.func19, Try.ntmps19
  go_wp2_with fail
  generalize hW : World.alloc _ _ = W
  have hn : New w W := by subst hW; (repeat (first | (with_reducible exact New.refl _) | (with_reducible assumption) | ((with_reducible refine New.setB ?_ ?_ _); focus (first | omega | (simp; omega) | (simp; done))) | (with_reducible refine New.alloc ?_ _) | (with_reducible refine New.drew ?_) | (with_reducible refine New.drewN ?_ _) | (with_reducible refine New.hat ?_ _) | ((with_reducible apply New.snart); (with_reducible assumption))))
  clear hW
  refine (CC.out _).mono ?_
  rintro e w1 ⟨v, rfl, r1, n1⟩
  have hn1 := hn.trans n1
  clear CC hn n1
  obtain ⟨at0, cap, rfl⟩ := r1.len
  go_wp2
  go_ret
  have n2 : New w1 (w1.alloc (.cells #[.slice at0 (told ax az bx bz).length cap] 28)) := (New.refl w1).alloc _
  exact ⟨.slice at0 (told ax az bx bz).length cap, w1.heap.size, rfl, by go_simp, rowIs_keep r1 n2, hn1.trans n2, hn1.size, by simp⟩

end Go.Proofs.Ytmpkciidhopckaa

/- How the law of what Cells tells returns, from within its range. -/
namespace Go.Proofs.Ytmpkciidhopckaa
open Go.RowKit Go.Shelf Go.Sort
set_option linter.unusedVariables false

theorem ret_end {w W : World} {T : Array Value} {D rb : Nat} (ht : T.getD 18 undef = .pointer (some ⟨rb, 0, none⟩)) (hb : Boxed W rb 4 (.bool true)) (hK : W.heap[D]? = some (.deferred (some []))) (hD : w.heap.size ≤ D) (hn : New w W) :
    bodyPostM Fence.wide 5 Try.prog Try.f3 (fun e w' => e = .returned (.bool true) ∧ New w w') .ret { tmps := T, defers := [{ target := .collected D, args := #[] }] } W := by
  have hne : rb ≠ D := fun e => by
    subst e
    have h2 := (show W.heap[rb]? = _ from hb).symm.trans hK
    cases h2
  have hb2 : ∀ o, Boxed (W.putObj D o) rb 4 (.bool true) := fun o => (World.putObj_heap_other hne).trans hb
  have hc := fun o => (hb2 o).cell
  refine ⟨by simp, .inl ⟨_, _, rfl, run_takeDeferred hK, ?_⟩⟩
  refine ⟨.bool true, ?_, rfl, Go.RowKit.Below.trans hn (belowK_b (w := w) (Nat.le_refl _) W D _ _ hD hK rfl rfl)⟩
  have ht' : T[18]?.getD undef = .pointer (some ⟨rb, 0, none⟩) := by simpa using ht
  simp [results, Try.results3, go_sem, ht', hc]

end Go.Proofs.Ytmpkciidhopckaa

/- A region that draws its order, in a round of a range over a function, whose operations only read: one walk of the text's order serves all. -/
namespace Go.PlainIn
open Go
set_option linter.unusedVariables false
open Go.RowKit

/-- Operations that call no Go function. -/
def _root_.Go.Oper.plainB (o : Oper) : Bool :=
  match o.op with
  | .move _ | .assign _ | .pick _ _ _ | .load _ _ | .binOp _ _ _ _ _ | .indexAddr _ _ _ => true
  | .call c => match c.callee with
    | .builtin .len => true
    | _ => false
  | _ => false

theorem run_value_only {α : Type} {P : Program} {w : World} (s : Sem α) (k : α → Value) {f : FuncId} {args : Array Value} {w' : World} : (Sem.run P (s >>= fun a => (pure (Next.value (k a)) : Sem Next)) w) ≠ .ok (.enter f args) w' := by
  intro h
  simp at h
  cases hs : Sem.run P s w with
  | ok v w1 => rw [hs] at h; simp [Result.andThen] at h
  | halt x w1 => rw [hs] at h; simp [Result.andThen] at h

theorem plain_enter {P : Program} {o : Oper} (hp : o.plainB = true) (ρ : Operand → Value) (w : World) {f : FuncId} {args : Array Value} {w' : World} : (execOp ρ o).run P w ≠ .ok (.enter f args) w' := by
  unfold Oper.plainB at hp
  unfold execOp
  split at hp <;> rename_i ho <;> simp only [ho]
  · simp
  · simp
  · exact run_value_only _ _
  · exact run_value_only _ _
  · exact run_value_only _ _
  · exact run_value_only _ _
  · split at hp
    · rename_i hc
      simp only [resolve, hc]
      intro h
      simp [invoke, builtin] at h
      cases hs : Sem.run P (Builtin.len_ _ _ _) w with
      | ok v w1 => rw [hs] at h; simp [Result.andThen] at h
      | halt x w1 => rw [hs] at h; simp [Result.andThen] at h
    · cases hp
  · cases hp

theorem plain_about {P : Program} {o : Oper} (hp : o.plainB = true) (ρ : Operand → Value) (w : World) : o.about P w ρ = none := by
  unfold Oper.plainB at hp
  unfold Oper.about
  split at hp <;> rename_i ho <;> simp only [ho]
  · split at hp
    · rename_i hc
      simp [resolve, hc, Target.leads]
    · cases hp

theorem plain_defer {o : Oper} (hp : o.plainB = true) : ∀ c, o.op ≠ .defer c := fun c e => by
  unfold Oper.plainB at hp
  rw [e] at hp
  cases hp

section
variable {F : Fence} {n : Nat} {P : Program} {ops : Array Oper} {md : Region.Mode} {C : World → Prop}

theorem semAt_plain {o : Oper} (hp : o.plainB = true) (r : Option Nat) (ρ : Operand → Value) : Oper.semAt r ρ o = execOp ρ o := by
  cases r with
  | none => rfl
  | some l => exact Oper.semAt_some l ρ o (plain_defer hp)

theorem wpIn_of_quiet' {o : Oper} (hp : o.plainB = true) {a : Act} {K : Act → Prop} {K' : Act → World → Prop} {Q' : Exit → Act → World → Prop} {w : World} (hw : C w) (h : ∀ a w', C w' → K a → K' a w') (hh : o.quiet P a C K) : o.wpIn F n P a w K' Q' := by
  obtain ⟨v, h1, h2⟩ := hh
  have h3 := h1 w hw
  refine ⟨fun f hf => (by rw [plain_about hp] at hf; cases hf), ?_⟩
  rw [semAt_plain hp]
  unfold Oper.quietAt at h3
  have hne := fun f args w' => plain_enter (P := P) hp a.eval w (f := f) (args := args) (w' := w')
  generalize (execOp a.eval o).run P w = r at *
  cases r with
  | ok x w' =>
    cases x <;> simp only [Oper.quietUpon] at h3
    case value u =>
      obtain ⟨e1, e2⟩ := h3
      rw [Oper.uponIn_value, e1, e2]
      exact h _ _ hw h2
    case skip =>
      obtain ⟨e1, e2⟩ := h3
      rw [Oper.uponIn_skip, e1, ← e2]
      exact h _ _ hw h2
    case enter f args => exact absurd rfl (hne f args w')
  | halt x w' => simp only [Oper.quietUpon] at h3

theorem wpOpIn_of_qOp (hP : ∀ (i : Nat) (o : Oper), ops[i]? = some o → o.plainB = true) {i : Nat} {a : Act} {K : Act → Prop} {K' : Act → World → Prop} {Q' : Exit → Act → World → Prop} {w : World} (hC : C w) (h : ∀ a w', C w' → K a → K' a w') (hh : qOp P ops C i K a) : wpOpIn F n P ops Q' i K' a w := by
  unfold qOp at hh
  unfold wpOpIn
  split
  · rename_i ho; simp only [ho] at hh; exact h _ _ hC hh
  · rename_i o ho
    simp only [ho] at hh
    split
    · rename_i hw; simp only [hw, if_true] at hh; exact wpIn_of_quiet' (hP i o ho) hC h hh
    · rename_i hw
      simp only [hw] at hh
      exact ⟨fun f hf => (by rw [plain_about (hP i o ho)] at hf; cases hf), h _ _ hC hh⟩

theorem wpAnyIn_of_quiet (hP : ∀ (i : Nat) (o : Oper), ops[i]? = some o → o.plainB = true) {Q : Act → Prop} {Q' : Exit → Act → World → Prop} (hQ : ∀ a w, C w → Q a → Q' .normal a w) : ∀ (fuel : Nat) (listed : Array Bool) (a : Act) (w : World), C w →
    wpAnyQ P md ops C Q fuel listed a → wpAnyIn F n P md ops Q' fuel listed a w
  | 0, _, _, _, hw, h => ⟨h.1, hQ _ _ hw h.2⟩
  | fuel + 1, _, _, _, hw, h => ⟨fun h0 => hQ _ _ hw (h.1 h0), fun i hi => wpOpIn_of_qOp hP hw (fun a' w' hw' => wpAnyIn_of_quiet hP hQ fuel _ a' w' hw') (h.2 i hi)⟩

theorem wpIn_region_quiet_lit {id : Nat} {Q : Exit → Act → World → Prop} {a : Act} {w : World} {l : List Oper} (hm : P.follows .mixedOrders = true) (hB : Region.lexB .any l.toArray = true) (hP : l.all Oper.plainB = true)
    (h : wpQuiet P l.toArray (fun w' => ∃ k, w' = w.drewN k) (fun a' => ∀ w', (∃ k, w' = w.drewN k) → Q .normal a' w') l a) : (Code.region id l.toArray true).wpIn F n P Q a w := by
  have hP' : ∀ (i : Nat) (o : Oper), l.toArray[i]? = some o → o.plainB = true := fun i o ho => by
    have h1 : o ∈ l := by
      rw [List.getElem?_toArray] at ho
      exact List.mem_of_getElem? ho
    exact List.all_eq_true.1 hP o h1
  simp only [Region.lexB, Bool.and_eq_true] at hB
  refine wpIn_region_any hm (wpAnyIn_of_quiet hP' (Q := fun a' => ∀ w', (∃ k, w' = w.drewN k) → Q .normal a' w') (fun _ w' hw' h => h w' hw') _ _ _ _ (C := fun w' => ∃ k, w' = w.drewN k) ⟨1, rfl⟩ ?_)
  have := wpAnyQ_lex (C := fun w' => ∃ k, w' = w.drewN k) (md := .any) hB.1 l 0 (Array.replicate l.toArray.size false) a (by simp) (by simpa using hB.2) h
  simpa using this
end

end Go.PlainIn

/- Columns that came in, laid flat. -/
namespace Go.Proofs.Ytmpkciidhopckaa
open Go.RowKit

theorem fits6 {k : IntKind} {cs : Array Value} (h : Fits [.num k, .num k, .num k, .num k, .num k, .num k] cs.toList) :
    ∃ x z f g l m : Int, cs = #[.int k x, .int k z, .int k f, .int k g, .int k l, .int k m] := by
  obtain ⟨l⟩ := cs
  obtain ⟨_, _, e1, ⟨a, rfl, _⟩, h⟩ := h.cons
  obtain ⟨_, _, e2, ⟨b, rfl, _⟩, h⟩ := h.cons
  obtain ⟨_, _, e3, ⟨c, rfl, _⟩, h⟩ := h.cons
  obtain ⟨_, _, e4, ⟨d, rfl, _⟩, h⟩ := h.cons
  obtain ⟨_, _, e5, ⟨e, rfl, _⟩, h⟩ := h.cons
  obtain ⟨_, _, e6, ⟨f, rfl, _⟩, h⟩ := h.cons
  have e7 := h.nil
  subst e7 e6 e5 e4 e3 e2
  exact ⟨a, b, c, d, e, f, by rw [show l = _ from e1]⟩

end Go.Proofs.Ytmpkciidhopckaa

/- The law of what Cells, Each, Meets, Share and Less tell, walked. -/
namespace Go.Proofs.Ytmpkciidhopckaa
open Go.RowKit Go.Shelf Go.Sort
set_option linter.unusedVariables false
attribute [local go_sem] Oper.semAt_some

theorem run_equalIn_fn_nil {P : Program} (w : World) (d : Nat) (t : TypeId) (ps rs : Array TypeId) (b : Bool) (f : Fn) (fi ca : Array Value) (h : P.underlying t = some (.func ps rs b)) :
    (Op.equalIn (d + 1) t (.func f fi ca) .nilFunc).run P w = .ok false w := by
  simp [Op.equalIn, run_underlying h]
theorem run_eql_fn_nil {P : Program} (w : World) (t : TypeId) (ps rs : Array TypeId) (b : Bool) (f : Fn) (fi ca : Array Value) (h : P.underlying t = some (.func ps rs b)) :
    (binOp .eql t (.func f fi ca) .nilFunc).run P w = .ok (.bool false) w := by
  simp only [binOp]
  simp [Op.equal, Op.maxDepth, run_equalIn_fn_nil w 9999 t ps rs b f fi ca h]
theorem fn_nil (w : World) (f : Nat) (a : Array Value) : (binOp .eql 37 (.func (.func f) #[] a) .nilFunc).run Try.prog w = .ok (.bool false) w :=
  run_eql_fn_nil w _ #[107] #[] false _ _ _ (by kernel_rfl)

theorem heap_set_ne {W : World} {b k : Nat} {v : Value} (h : k ≠ b) : (W.setCell ⟨b, 0, none⟩ v).heap[k]? = W.heap[k]? := by
  by_cases hk : k < W.heap.size
  · exact (grownBy_setCell' W b v).block k hk (fun e => h (by cases e; rfl))
  · have h1 : (W.setCell ⟨b, 0, none⟩ v).heap.size = W.heap.size := by simp
    rw [Array.getElem?_eq_none (by omega), Array.getElem?_eq_none (by omega)]
theorem New.keepB {w w' : World} (h : New w w') {b : Nat} {t : TypeId} {v : Value} (hb : Boxed w b t v) : Boxed w' b t v := (h.block b hb.lt).trans hb
theorem told_len (ax az bx bz : Int) : (told ax az bx bz).length ≤ 1156 := by
  cases hok : okB ax az bx bz with
  | false =>
    have t0 : told ax az bx bz = [] := by unfold told; rw [hok]; rfl
    rw [t0]
    simp
  | true => exact (told_facts hok).2.1

def AxT (L : List Col) (f : Nat → Nat → Array Value) (j : Nat) (a' : Act) (W : World) : Prop := ∃ Bb : Nat, W.heap[Bb]? = some (.cells #[.int .i64 (colAt L j).x, .int .i64 (colAt L j).z, .int .i64 (colAt L j).m.fn, .int .i64 (colAt L j).m.fd, .int .i64 (colAt L j).m.ln, .int .i64 (colAt L j).m.ld] 27 (0, 0)) ∧ a' = { tmps := f j Bb, defers := [] }
theorem axT_own (L : List Col) (f : Nat → Nat → Array Value) (D : Nat) (j : Nat) (a' : Act) : OwnFrom D (fun (_ : Unit) W => AxT L f j a' W) := fun _ X Y row hs hg hr => by
  obtain ⟨Bb, h, e⟩ := hs
  exact ⟨Bb, (hg.block Bb (Array.getElem?_eq_some_iff.1 h).1 (fun e' => by obtain ⟨_, o, ho, hc⟩ := hr Bb e'.symm; rw [h] at ho; cases ho; cases hc)).trans h, e⟩
/-- What stands ahead of each round: as many as went by are counted. -/
def TellI (w5 : World) (pre : List Nat) (W : World) : Prop := (pre = List.range pre.length ∧ Boxed W w5.heap.size 3 (.int .i64 pre.length)) ∧ Below w5.heap.size w5 W
theorem tellI_own (w5 : World) (D : Nat) (hD : w5.heap.size ≤ D) : OwnFrom D (TellI w5) := fun s W W' row hs hg hr =>
  ⟨⟨hs.1.1, (boxed_own w5.heap.size 3 (fun (pre : List Nat) => .int .i64 pre.length)).from D s W W' row hs.1.2 hg hr⟩, ownFrom_below (β := List Nat) (Nat.le_refl _) hD s W W' row hs.2 hg hr⟩
def TellX (w5 : World) (leave : Int) (c : Code) (pre : List Nat) (W : World) : Prop := (c = .ret ∧ pre ≠ List.range pre.length) ∨ (c = .exit 0 ∧ (pre.length : Int) = leave ∧ TellI w5 pre W)
theorem tellX_own (w5 : World) (leave : Int) (D : Nat) (hD : w5.heap.size ≤ D) (c : Code) : OwnFrom D (TellX w5 leave c) := fun s W W' row hs hg hr =>
  hs.imp id (fun h => ⟨h.1, h.2.1, tellI_own w5 D hD s W W' row h.2.2 hg hr⟩)

set_option maxRecDepth 100000 in
set_option maxHeartbeats 8000000 in
theorem tell_any (p0 q0 p1 q1 x z leave cx cz cf cg cl ck dx dz df dg dl dk rn rd sn sd : Int) (w : World) :
    Calls Try.prog 3 #[.agg #[.int .i64 p0, .int .i64 q0], .agg #[.int .i64 p1, .int .i64 q1], .int .i64 x, .int .i64 z, .int .i64 leave, .agg #[.int .i64 cx, .int .i64 cz, .int .i64 cf, .int .i64 cg, .int .i64 cl, .int .i64 ck], .agg #[.int .i64 dx, .int .i64 dz, .int .i64 df, .int .i64 dg, .int .i64 dl, .int .i64 dk], .agg #[.int .i64 rn, .int .i64 rd], .agg #[.int .i64 sn, .int .i64 sd]] w fun e w' => e = .returned (.bool true) ∧ New w w' := by
  have FN := fun w a => fn_nil w 73 a
  have CC := Lib.hid (fun W => c_cells p0 q0 p1 q1 W)
  have CQ := Lib.hid (fun W => q_cells p0 q0 p1 q1 W)
  have CE := Lib.hid (fun W => c_each p0 q0 p1 q1 W)
  have hL := told_len p0 q0 p1 q1
  generalize told p0 q0 p1 q1 = L at *
  refine (callsIn_wide (n := 5)).1 ?_
  refine callsIn_of_wp_marks Try.func3 rfl trivial ?_ rfl
  simp only [Try.ntmps3, List.size_toArray, List.length_cons, List.length_nil, Nat.reduceAdd, Nat.reduceSub, Array.replicate_succ, Array.replicate_zero, List.push_toArray, List.append_toArray, List.nil_append, List.cons_append]
  refine wpIn_wide.2 ?_
  go_wp2_with fail
  generalize hW : World.alloc _ _ = W
  have a0 : W.cell? ⟨w.heap.size, 0, none⟩ = some (.int .i64 p0) := by subst hW; go_simp
  have a1 : W.cell? ⟨w.heap.size, 1, none⟩ = some (.int .i64 q0) := by subst hW; go_simp
  have b0 : W.cell? ⟨w.heap.size + 1, 0, none⟩ = some (.int .i64 p1) := by subst hW; go_simp
  have b1 : W.cell? ⟨w.heap.size + 1, 1, none⟩ = some (.int .i64 q1) := by subst hW; go_simp
  have lv : W.cell? ⟨w.heap.size + 1 + 1, 0, none⟩ = some (.int .i64 leave) := by subst hW; go_simp
  have e0 : W.cell? ⟨w.heap.size + 1 + 1 + 1, 0, none⟩ = some (.int .i64 cx) := by subst hW; go_simp
  have e1 : W.cell? ⟨w.heap.size + 1 + 1 + 1, 1, none⟩ = some (.int .i64 cz) := by subst hW; go_simp
  have e2 : W.cell? ⟨w.heap.size + 1 + 1 + 1, 2, none⟩ = some (.int .i64 cf) := by subst hW; go_simp
  have e3 : W.cell? ⟨w.heap.size + 1 + 1 + 1, 3, none⟩ = some (.int .i64 cg) := by subst hW; go_simp
  have e4 : W.cell? ⟨w.heap.size + 1 + 1 + 1, 4, none⟩ = some (.int .i64 cl) := by subst hW; go_simp
  have e5 : W.cell? ⟨w.heap.size + 1 + 1 + 1, 5, none⟩ = some (.int .i64 ck) := by subst hW; go_simp
  have f0 : W.cell? ⟨w.heap.size + 1 + 1 + 1 + 1, 0, none⟩ = some (.int .i64 dx) := by subst hW; go_simp
  have f1 : W.cell? ⟨w.heap.size + 1 + 1 + 1 + 1, 1, none⟩ = some (.int .i64 dz) := by subst hW; go_simp
  have f2 : W.cell? ⟨w.heap.size + 1 + 1 + 1 + 1, 2, none⟩ = some (.int .i64 df) := by subst hW; go_simp
  have f3 : W.cell? ⟨w.heap.size + 1 + 1 + 1 + 1, 3, none⟩ = some (.int .i64 dg) := by subst hW; go_simp
  have f4 : W.cell? ⟨w.heap.size + 1 + 1 + 1 + 1, 4, none⟩ = some (.int .i64 dl) := by subst hW; go_simp
  have f5 : W.cell? ⟨w.heap.size + 1 + 1 + 1 + 1, 5, none⟩ = some (.int .i64 dk) := by subst hW; go_simp
  have g0 : W.cell? ⟨w.heap.size + 1 + 1 + 1 + 1 + 1, 0, none⟩ = some (.int .i64 rn) := by subst hW; go_simp
  have g1 : W.cell? ⟨w.heap.size + 1 + 1 + 1 + 1 + 1, 1, none⟩ = some (.int .i64 rd) := by subst hW; go_simp
  have h0 : W.cell? ⟨w.heap.size + 1 + 1 + 1 + 1 + 1 + 1, 0, none⟩ = some (.int .i64 sn) := by subst hW; go_simp
  have h1 : W.cell? ⟨w.heap.size + 1 + 1 + 1 + 1 + 1 + 1, 1, none⟩ = some (.int .i64 sd) := by subst hW; go_simp
  have rb : Boxed W (w.heap.size + 1 + 1 + 1 + 1 + 1 + 1 + 1) 4 (.bool false) := by
    subst hW
    have h := World.alloc_heap_new ((((((((w.alloc (.cells #[.int .i64 p0, .int .i64 q0] 23)).alloc (.cells #[.int .i64 p1, .int .i64 q1] 23)).alloc (.cells #[.int .i64 leave] 3)).alloc (.cells #[.int .i64 cx, .int .i64 cz, .int .i64 cf, .int .i64 cg, .int .i64 cl, .int .i64 ck] 27)).alloc (.cells #[.int .i64 dx, .int .i64 dz, .int .i64 df, .int .i64 dg, .int .i64 dl, .int .i64 dk] 27)).alloc (.cells #[.int .i64 rn, .int .i64 rd] 25)).alloc (.cells #[.int .i64 sn, .int .i64 sd] 25))) (.cells #[.bool false] 4)
    simp only [World.size_alloc] at h
    exact h
  have hn : New w W := by subst hW; (repeat (first | (with_reducible exact New.refl _) | (with_reducible assumption) | ((with_reducible refine New.setB ?_ ?_ _); focus (first | omega | (simp; omega) | (simp; done))) | (with_reducible refine New.alloc ?_ _) | (with_reducible refine New.drew ?_) | (with_reducible refine New.drewN ?_ _) | (with_reducible refine New.hat ?_ _) | ((with_reducible apply New.snart); (with_reducible assumption))))
  clear hW
  generalize hB0 : w.heap.size = B0 at *
  refine (CC.out _).mono ?_
  rintro e w1 ⟨v1, rfl, r1, n1⟩
  ((replace a0 := n1.keep a0); (replace a1 := n1.keep a1); (replace b0 := n1.keep b0); (replace b1 := n1.keep b1))
  ((replace lv := n1.keep lv); (replace e0 := n1.keep e0); (replace e1 := n1.keep e1); (replace e2 := n1.keep e2); (replace e3 := n1.keep e3); (replace e4 := n1.keep e4); (replace e5 := n1.keep e5); (replace f0 := n1.keep f0); (replace f1 := n1.keep f1); (replace f2 := n1.keep f2); (replace f3 := n1.keep f3); (replace f4 := n1.keep f4); (replace f5 := n1.keep f5); (replace g0 := n1.keep g0); (replace g1 := n1.keep g1); (replace h0 := n1.keep h0); (replace h1 := n1.keep h1); (replace rb := n1.keepB rb))
  have hn1 := hn.trans n1
  clear CC hn n1
  obtain ⟨at1, cap1, rfl⟩ := r1.len
  go_wp2_with fail
  refine (CQ.out _).mono ?_
  rintro e w2 ⟨v2, rfl, r2, n2⟩
  ((replace a0 := n2.keep a0); (replace a1 := n2.keep a1); (replace b0 := n2.keep b0); (replace b1 := n2.keep b1))
  ((replace lv := n2.keep lv); (replace e0 := n2.keep e0); (replace e1 := n2.keep e1); (replace e2 := n2.keep e2); (replace e3 := n2.keep e3); (replace e4 := n2.keep e4); (replace e5 := n2.keep e5); (replace f0 := n2.keep f0); (replace f1 := n2.keep f1); (replace f2 := n2.keep f2); (replace f3 := n2.keep f3); (replace f4 := n2.keep f4); (replace f5 := n2.keep f5); (replace g0 := n2.keep g0); (replace g1 := n2.keep g1); (replace h0 := n2.keep h0); (replace h1 := n2.keep h1); (replace rb := n2.keepB rb))
  replace r1 := rowIs_keep r1 n2
  have hn2 := hn1.trans n2
  clear CQ hn1 n2
  obtain ⟨at2, cap2, rfl⟩ := r2.len
  go_wp2_with fail
  generalize hW : World.alloc _ _ = W3
  have n3 : New w2 W3 := by subst hW; (repeat (first | (with_reducible exact New.refl _) | (with_reducible assumption) | ((with_reducible refine New.setB ?_ ?_ _); focus (first | omega | (simp; omega) | (simp; done))) | (with_reducible refine New.alloc ?_ _) | (with_reducible refine New.drew ?_) | (with_reducible refine New.drewN ?_ _) | (with_reducible refine New.hat ?_ _) | ((with_reducible apply New.snart); (with_reducible assumption))))
  have mb : Boxed W3 w2.heap.size 28 (.slice at2 L.length cap2) := by subst hW; exact Boxed.new _ _ _
  have mc := mb.cell
  clear hW
  ((replace a0 := n3.keep a0); (replace a1 := n3.keep a1); (replace b0 := n3.keep b0); (replace b1 := n3.keep b1))
  ((replace lv := n3.keep lv); (replace e0 := n3.keep e0); (replace e1 := n3.keep e1); (replace e2 := n3.keep e2); (replace e3 := n3.keep e3); (replace e4 := n3.keep e4); (replace e5 := n3.keep e5); (replace f0 := n3.keep f0); (replace f1 := n3.keep f1); (replace f2 := n3.keep f2); (replace f3 := n3.keep f3); (replace f4 := n3.keep f4); (replace f5 := n3.keep f5); (replace g0 := n3.keep g0); (replace g1 := n3.keep g1); (replace h0 := n3.keep h0); (replace h1 := n3.keep h1); (replace rb := n3.keepB rb))
  replace r1 := rowIs_keep r1 n3
  replace r2 := rowIs_keep r2 n3
  have hn3 := hn2.trans n3
  clear hn2 n3
  generalize w2.heap.size = M at *
  generalize errOf p0 q0 p1 q1 = er
  have M1 := fun W => c_meets p0 q0 p1 q1 x z W
  have M2 := fun W => q_meets p0 q0 p1 q1 x z W
  generalize (meetO p0 q0 p1 q1 x z).isSome = bm at M1 M2
  have S1 := fun W => c_share p0 q0 p1 q1 cx cz cf cg cl ck dx dz df dg dl dk W
  have S2 := fun W => q_share p0 q0 p1 q1 cx cz cf cg cl ck dx dz df dg dl dk W
  generalize shareB p0 q0 p1 q1 cx cz dx dz = bs at S1 S2
  have L1 := fun W => c_less rn rd sn sd W
  have L2 := fun W => q_Less rn rd sn sd W
  generalize lessB rn rd sn sd = bl at L1 L2
  (refine wp_region_hat (by kernel_rfl) (by kernel_rfl) ?_; intro hatc hatf; (repeat (go_big_quiet_step ((first | (go_at_call 12; exact Calls.hat (q_same _ _ L _ (by omega) (rowIs_keep r1 (Hat.h _)) (rowIs_keep r2 (Hat.h _)))) | (go_at_call 13; exact Calls.hat (M1 _)) | (go_at_call 14; exact Calls.hat (M2 _)) | (go_at_call 15; exact Calls.hat (S1 _)) | (go_at_call 16; exact Calls.hat (S2 _)) | (go_at_call 17; exact Calls.hat (L1 _)) | (go_at_call 18; exact Calls.hat (L2 _)))))); refine wpQuiet_nil ?_; rintro _ ⟨y, rfl⟩)
  have n4 : New W3 y.w := y.h
  ((replace a0 := n4.keep a0); (replace a1 := n4.keep a1); (replace b0 := n4.keep b0); (replace b1 := n4.keep b1))
  ((replace lv := n4.keep lv); (replace e0 := n4.keep e0); (replace e1 := n4.keep e1); (replace e2 := n4.keep e2); (replace e3 := n4.keep e3); (replace e4 := n4.keep e4); (replace e5 := n4.keep e5); (replace f0 := n4.keep f0); (replace f1 := n4.keep f1); (replace f2 := n4.keep f2); (replace f3 := n4.keep f3); (replace f4 := n4.keep f4); (replace f5 := n4.keep f5); (replace g0 := n4.keep g0); (replace g1 := n4.keep g1); (replace h0 := n4.keep h0); (replace h1 := n4.keep h1); (replace rb := n4.keepB rb))
  replace r1 := rowIs_keep r1 n4
  replace r2 := rowIs_keep r2 n4
  replace mb := n4.keepB mb
  replace mc := n4.keep mc
  have hn4 := hn3.trans n4
  clear n4 hatc hatf hn3 e0 e1 e2 e3 e4 e5 f0 f1 f2 f3 f4 f5 g0 g1 h0 h1 M1 M2 S1 S2 L1 L2 r1
  generalize y.w = V at *
  clear y
  go_wp2_with fail
  refine (CE.out _).mono ?_
  rintro e w5 ⟨v, Bx, rfl, hv, r5, n5, hBx1, hBx2⟩
  replace lv := n5.keep lv
  replace rb := n5.keepB rb
  replace r2 := rowIs_keep r2 n5
  replace mb := n5.keepB mb
  have hn5 := hn4.trans n5
  clear CE n5 hn4 a0 a1 b0 b1 mc
  go_wp2_with fail
  clear FN
  obtain ⟨Wc, hWc⟩ : ∃ Wc, Wc = w5.alloc (.cells #[.int .i64 0] 3) := ⟨_, rfl⟩
  have hsz : Wc.heap.size = w5.heap.size + 1 := by subst hWc; simp
  have nbx : Boxed Wc w5.heap.size 3 (.int .i64 0) := by subst hWc; exact Boxed.new _ _ _
  have n6 : New w5 Wc := by subst hWc; exact (New.refl w5).alloc _
  rw [← hWc]
  clear hWc
  have hrl := rowOf_lt r5 hBx2
  have rbl := rb.lt
  have hwz := hn5.size
  refine (wpIn_wide (n := 5)).1 ?_
  refine wpIn_rangeFunc_ownH rfl (by omega) (gf := 73) (lb := #[.pointer (some ⟨Bx, 0, none⟩)]) rfl trivial (enters_of Try.func73 (by kernel_rfl) rfl)
    (c_allstops L v Bx hL 4 (by omega) Wc (n6.keep hv) (rowIs_keep r5 n6) (by omega))
    (fun h k => ⟨k.1.trans h.1, k.2.trans h.2⟩) (fun W l o o' hl _ _ _ => ⟨World.putObj_heap_other (by omega), World.putObj_heap_other (by omega)⟩) (Below.refl _ _) (fun _ => rfl)
    (TellI w5) (TellX w5 leave) (tellI_own w5 _ (by omega)) (tellX_own w5 leave _ (by omega)) ⟨⟨rfl, nbx⟩, n6⟩
    (AxT L (fun j Bb => #[.agg #[.int .i64 p0, .int .i64 q0], .agg #[.int .i64 p1, .int .i64 q1], .int .i64 x, .int .i64 z, .int .i64 leave, .agg #[.int .i64 cx, .int .i64 cz, .int .i64 cf, .int .i64 cg, .int .i64 cl, .int .i64 ck], .agg #[.int .i64 dx, .int .i64 dz, .int .i64 df, .int .i64 dg, .int .i64 dl, .int .i64 dk], .agg #[.int .i64 rn, .int .i64 rd], .agg #[.int .i64 sn, .int .i64 sd], .pointer (some ⟨B0, 0, none⟩), .pointer (some ⟨B0 + 1, 0, none⟩), undef, undef, .pointer (some ⟨B0 + 1 + 1, 0, none⟩), .pointer (some ⟨B0 + 1 + 1 + 1, 0, none⟩), .pointer (some ⟨B0 + 1 + 1 + 1 + 1, 0, none⟩), .pointer (some ⟨B0 + 1 + 1 + 1 + 1 + 1, 0, none⟩), .pointer (some ⟨B0 + 1 + 1 + 1 + 1 + 1 + 1, 0, none⟩), .pointer (some ⟨B0 + 1 + 1 + 1 + 1 + 1 + 1 + 1, 0, none⟩), .slice at1 L.length cap1, .int .i64 er, .pointer (some ⟨M, 0, none⟩), .int .i64 er, .func (.func 73) #[] #[.pointer (some ⟨Bx, 0, none⟩)], .pointer (some ⟨w5.heap.size, 0, none⟩), .int .i64 j, .pointer (some ⟨Bb, 0, none⟩), .tuple #[.slice at1 L.length cap1, .int .i64 er], .agg #[.int .i64 p0, .int .i64 q0], .agg #[.int .i64 p1, .int .i64 q1], .tuple #[.slice at1 L.length cap1, .int .i64 er], .slice at1 L.length cap1, .int .i64 er, .tuple #[.slice at2 L.length cap2, .int .i64 er], .agg #[.int .i64 p0, .int .i64 q0], .agg #[.int .i64 p1, .int .i64 q1], .tuple #[.slice at2 L.length cap2, .int .i64 er], .slice at2 L.length cap2, .int .i64 er, .int .i64 er, .int .i64 er, .bool false, .bool false, .slice at1 L.length cap1, .slice at2 L.length cap2, .bool true, .bool false, .bool false, .bool false, .agg #[.int .i64 p0, .int .i64 q0], .agg #[.int .i64 p1, .int .i64 q1], .int .i64 x, .int .i64 z, .bool bm, .agg #[.int .i64 p0, .int .i64 q0], .agg #[.int .i64 p1, .int .i64 q1], .int .i64 x, .int .i64 z, .bool bm, .bool false, .bool false, .bool false, .agg #[.int .i64 p0, .int .i64 q0], .agg #[.int .i64 p1, .int .i64 q1], .agg #[.int .i64 cx, .int .i64 cz, .int .i64 cf, .int .i64 cg, .int .i64 cl, .int .i64 ck], .agg #[.int .i64 dx, .int .i64 dz, .int .i64 df, .int .i64 dg, .int .i64 dl, .int .i64 dk], .bool bs, .agg #[.int .i64 p0, .int .i64 q0], .agg #[.int .i64 p1, .int .i64 q1], .agg #[.int .i64 cx, .int .i64 cz, .int .i64 cf, .int .i64 cg, .int .i64 cl, .int .i64 ck], .agg #[.int .i64 dx, .int .i64 dz, .int .i64 df, .int .i64 dg, .int .i64 dl, .int .i64 dk], .bool bs, .bool false, .bool false, .bool false, .agg #[.int .i64 rn, .int .i64 rd], .agg #[.int .i64 sn, .int .i64 sd], .bool bl, .agg #[.int .i64 rn, .int .i64 rd], .agg #[.int .i64 sn, .int .i64 sd], .bool bl, .bool false, .bool false, .agg #[.int .i64 p0, .int .i64 q0], .agg #[.int .i64 p1, .int .i64 q1], .func (.func 73) #[] #[.pointer (some ⟨Bx, 0, none⟩)], .func (.func 73) #[] #[.pointer (some ⟨Bx, 0, none⟩)], .bool false, .func (.func 73) #[] #[.pointer (some ⟨Bx, 0, none⟩)], .int .i64 j, (colAt L j).val, undef, undef, undef, undef, undef, undef, undef, undef, undef, undef, undef, undef, undef, undef, undef, undef, undef, undef, undef, undef, undef, undef, undef, undef, undef, undef, undef, undef, undef, undef, undef, undef, undef, undef]))
    (fun x a' => axT_own _ _ _ x a') ?assign ?body ?done ?stop
  case assign =>
    intro l pre j W K hi' hK
    have l1 : Bx < W.heap.size := Nat.lt_of_lt_of_le hBx2 hi'.2.size
    have l2 : rowOf v Bx < W.heap.size := Nat.lt_of_lt_of_le hrl hi'.2.size
    simp only [placeE, Col.val]
    simp only [List.zip_toArray, List.zip_cons_cons, List.zip_nil_right, List.foldl_toArray', List.foldl_cons, List.foldl_nil, List.setIfInBounds_toArray, List.set_cons_succ, List.set_cons_zero, List.size_toArray, List.length_cons, List.length_nil]
    gi_wp2
    exact hK _ _ ((KeepsOthers.alloc _ _).from _) ⟨Below.heap_alloc _ _ _ l1, Below.heap_alloc _ _ _ l2⟩ ⟨⟨hi'.1.1, hi'.1.2.alloc _⟩, hi'.2.alloc hi'.2.size _⟩ ⟨W.heap.size, World.alloc_heap_new W _, rfl⟩
  case body =>
    rintro l pre j a' W hl ⟨r, hr⟩ ⟨⟨hpre0, hnb⟩, hbel⟩ ⟨Bb, hBb, rfl⟩ hlt
    have hpre := Lib.hid hpre0
    clear hpre0
    replace lv := New.keep hbel lv
    replace rb := New.keepB hbel rb
    replace r2 := rowIs_keep r2 hbel
    replace mb := New.keepB hbel mb
    have hnc := hnb.cell
    have hnf := hnb.frozen
    have mc := mb.cell
    have rc := rb.cell
    have rf := rb.frozen
    have x0 : W.cell? ⟨Bb, 0, none⟩ = some (.int .i64 (colAt L j).x) := cell_of_heap (o := 0) hBb rfl
    have x1 : W.cell? ⟨Bb, 1, none⟩ = some (.int .i64 (colAt L j).z) := cell_of_heap (o := 1) hBb rfl
    have x2 : W.cell? ⟨Bb, 2, none⟩ = some (.int .i64 (colAt L j).m.fn) := cell_of_heap (o := 2) hBb rfl
    have x3 : W.cell? ⟨Bb, 3, none⟩ = some (.int .i64 (colAt L j).m.fd) := cell_of_heap (o := 3) hBb rfl
    have x4 : W.cell? ⟨Bb, 4, none⟩ = some (.int .i64 (colAt L j).m.ln) := cell_of_heap (o := 4) hBb rfl
    have x5 : W.cell? ⟨Bb, 5, none⟩ = some (.int .i64 (colAt L j).m.ld) := cell_of_heap (o := 5) hBb rfl
    simp only [Col.val]
    by_cases hj : j = pre.length
    · subst hj
      rw [colAt_of L hlt] at x0 x1 x2 x3 x4 x5 ⊢
      obtain ⟨g, cap, e2, hcap, hs⟩ := r2.at (by omega : 0 < L.length)
      injection e2 with e2 _ e3
      subst e2 e3
      obtain ⟨c0, c1, c2, c3, c4, c5⟩ := hs _ hlt
      have CN := fun w => cell_neq w L[pre.length].x L[pre.length].z L[pre.length].m.fn L[pre.length].m.fd L[pre.length].m.ln L[pre.length].m.ld
      clear hs hBb r2
      generalize L[pre.length] = c at *
      obtain ⟨ux, uz, ⟨u1, u2, u3, u4⟩, _⟩ := c
      simp only [] at *
      have hd : decide ((L.length : Int) ≤ (pre.length : Int)) = false := decide_eq_false (by omega)
      have hz : (pre.length : Int) < (L.length : Int) := by omega
      have hdn : decide (L.length ≤ pre.length) = false := decide_eq_false (by omega)
      have hdg : decide ((pre.length : Int) ≥ (L.length : Int)) = false := decide_eq_false (by omega)
      have hdl : decide ((pre.length : Int) < (L.length : Int)) = true := decide_eq_true (by omega)
      gi_wp2_with fail
      refine Go.PlainIn.wpIn_region_quiet_lit (by kernel_rfl) (by kernel_rfl) (by kernel_rfl) ?_
      (repeat (go_big_quiet_step (fail)))
      refine wpQuiet_nil ?_
      rintro _ ⟨k, rfl⟩
      obtain ⟨V, hV⟩ : ∃ V, V = W.drewN k := ⟨_, rfl⟩
      have nV : New W V := by subst hV; exact ⟨rfl, rfl, rfl, Nat.le_refl _, fun k hk => rfl⟩
      have kV : KeepsFrom Wc.heap.size W V := by subst hV; exact ⟨Nat.le_refl _, fun i o _ hi _ => hi⟩
      rw [← hV]
      clear hV CN c0 c1 c2 c3 c4 c5 x0 x1 x2 x3 x4 x5
      have hbz := hbel.size
      have b1 := nV.block Bx (by omega)
      have b2 := nV.block (rowOf v Bx) (by omega)
      have hbv := New.trans hbel nV
      replace lv := nV.keep lv
      replace hnb := nV.keepB hnb
      clear hnc hnf mc rc rf
      have hnc := hnb.cell
      have hnf := hnb.frozen
      have hI : TellI w5 (pre ++ [pre.length]) (V.setCell ⟨w5.heap.size, 0, none⟩ (.int .i64 ((pre.length : Int) + 1))) :=
        ⟨⟨by rw [List.length_append, List.length_singleton, List.range_succ, ← hpre.out], by have h := hnb.set (.int .i64 ((pre.length : Int) + 1)); simpa using h⟩, New.setB (Nat.le_refl _) hbv _⟩
      have hK2 : KeepsFrom Wc.heap.size W (V.setCell ⟨w5.heap.size, 0, none⟩ (.int .i64 ((pre.length : Int) + 1))) := kV.trans (KeepsFrom.of_grownBy (grownBy_setCell' V w5.heap.size _) (fun j e => by cases e; omega))
      have hp1 : (V.setCell ⟨w5.heap.size, 0, none⟩ (.int .i64 ((pre.length : Int) + 1))).heap[Bx]? = W.heap[Bx]? := (heap_set_ne (by omega)).trans b1
      have hp2 : (V.setCell ⟨w5.heap.size, 0, none⟩ (.int .i64 ((pre.length : Int) + 1))).heap[rowOf v Bx]? = W.heap[rowOf v Bx]? := (heap_set_ne (by omega)).trans b2
      cases hq : (((pre.length : Int) + 1) == leave) with
      | true =>
        have hqe : (pre.length : Int) + 1 = leave := by simpa using hq
        rw [hqe] at hK2 hI
        gi_wp2_with fail
        exact ⟨hK2, Or.inr ⟨rfl, by simpa using hqe, hI⟩⟩
      | false =>
        gi_wp2_with fail
        exact ⟨hK2, ⟨hp1, hp2⟩, hI⟩
    · have hji : ¬ ((j : Int) = (pre.length : Int)) := by omega
      have hd1 : ((j : Int) != (pre.length : Int)) = true := bne_iff_ne.2 hji
      have hd2 : (j != pre.length) = true := bne_iff_ne.2 hj
      have hd3 : ((j : Int) == (pre.length : Int)) = false := beq_eq_false_iff_ne.2 hji
      have hd4 : (j == pre.length) = false := beq_eq_false_iff_ne.2 hj
      have hd5 : decide ((j : Int) = (pre.length : Int)) = false := decide_eq_false (by omega)
      have hd6 : decide (j = pre.length) = false := decide_eq_false hj
      gi_wp2_with fail
      refine Go.PlainIn.wpIn_region_quiet_lit (by kernel_rfl) (by kernel_rfl) (by kernel_rfl) ?_
      (repeat (go_big_quiet_step (fail)))
      refine wpQuiet_nil ?_
      rintro _ ⟨k, rfl⟩
      obtain ⟨V, hV⟩ : ∃ V, V = W.drewN k := ⟨_, rfl⟩
      have nV : New W V := by subst hV; exact ⟨rfl, rfl, rfl, Nat.le_refl _, fun k hk => rfl⟩
      have kV : KeepsFrom Wc.heap.size W V := by subst hV; exact ⟨Nat.le_refl _, fun i o _ hi _ => hi⟩
      rw [← hV]
      clear hV
      replace rb := nV.keepB rb
      clear rc rf
      have rc := rb.cell
      have rf := rb.frozen
      clear hd1 hd2 hd3 hd4 hd5 hd6 lv mb hnb hnc hnf mc x0 x1 x2 x3 x4 x5 hBb
      gi_wp2_with fail
      refine ⟨kV.trans (KeepsFrom.of_grownBy (grownBy_setCell' V _ _) (fun j e => by cases e; omega)), Or.inl ⟨rfl, fun e => ?_⟩⟩
      rw [List.length_append, List.length_singleton, List.range_succ] at e
      have := (List.append_inj' e rfl).2
      simp at this
      exact hj this
  case done =>
    rintro D ys W hD rfl ⟨⟨_, hnb⟩, hbel⟩ hK
    rw [List.length_range] at hnb
    have hnc := hnb.cell
    replace lv := New.keep hbel lv
    replace rb := New.keepB hbel rb
    replace mb := New.keepB hbel mb
    have hn7 := New.trans hn5 hbel
    clear hn5 hnb
    have mc := mb.cell
    have rc := rb.cell
    have rf := rb.frozen
    go_wp2_with fail
    refine (c_wakes _).mono ?_
    rintro e w8 ⟨rfl, n8⟩
    replace rb := n8.keepB rb
    have rc := rb.cell
    have rf := rb.frozen
    have hK8 : w8.heap[D]? = some (.deferred (some [])) := (n8.block D (Array.getElem?_eq_some_iff.1 hK).1).trans hK
    have hn8 := hn7.trans n8
    have hlr := rbl
    clear lv mb mc hK hn7 n8 hnc
    go_wp2_with fail
    exact ret_end rfl (rb.set _) (by rw [heap_set_ne (by omega)]; exact hK8) (by omega) (New.setB (by rw [hB0]; show B0 ≤ B0 + 1 + 1 + 1 + 1 + 1 + 1 + 1; omega) hn8 _)
  case stop =>
    rintro D c pre W hD ⟨hp1, hp2⟩ hx hK
    rcases hx with ⟨_, hx⟩ | ⟨rfl, hx, ⟨_, hnb⟩, hbel⟩
    · exact absurd hp1 hx
    · have hnc := hnb.cell
      replace lv := New.keep hbel lv
      replace rb := New.keepB hbel rb
      replace mb := New.keepB hbel mb
      have hn7 := New.trans hn5 hbel
      clear hn5 hnb
      have mc := mb.cell
      have rc := rb.cell
      have rf := rb.frozen
      rw [hx] at hnc
      gi_wp2_with fail
      cases hq : ((leave : Int) == (L.length : Int)) with
      | true =>
        go_wp2_with fail
        refine (c_wakes _).mono ?_
        rintro e w8 ⟨rfl, n8⟩
        replace rb := n8.keepB rb
        have rc := rb.cell
        have rf := rb.frozen
        have hK8 : w8.heap[D]? = some (.deferred (some [])) := (n8.block D (Array.getElem?_eq_some_iff.1 hK).1).trans hK
        have hn8 := hn7.trans n8
        clear lv mb mc hK hn7 n8 hnc
        go_wp2_with fail
        exact ret_end rfl (rb.set _) (by rw [heap_set_ne (by omega)]; exact hK8) (by omega) (New.setB (by rw [hB0]; show B0 ≤ B0 + 1 + 1 + 1 + 1 + 1 + 1 + 1; omega) hn8 _)
      | false =>
        go_wp2_with fail
        refine (c_wakes _).mono ?_
        rintro e w8 ⟨rfl, n8⟩
        replace rb := n8.keepB rb
        have rc := rb.cell
        have rf := rb.frozen
        have hK8 : w8.heap[D]? = some (.deferred (some [])) := (n8.block D (Array.getElem?_eq_some_iff.1 hK).1).trans hK
        have hn8 := hn7.trans n8
        clear lv mb mc hK hn7 n8 hnc
        go_wp2_with fail
        exact ret_end rfl (rb.set _) (by rw [heap_set_ne (by omega)]; exact hK8) (by omega) (New.setB (by rw [hB0]; show B0 ≤ B0 + 1 + 1 + 1 + 1 + 1 + 1 + 1; omega) hn8 _)

end Go.Proofs.Ytmpkciidhopckaa

/-
  Proved here: whatever the input, the call of footpath/footpathlaw03.CellsTell of the landed code returns true and leaves its arguments as they were. Conditions: none.
-/
namespace Go.Proofs.Ytmpkciidhopckaa.cellsTell
open Go.ChangeShapes Go.WideShapes Go.ChangeAt Go.RowKit
set_option linter.unusedVariables false

theorem own : ownKnob Try.prog.godebug = none := by kernel_rfl
theorem laidOut : laidOutB Try.prog = true := by kernel_rfl

/-! The walk: the Go text returns true, and writes nothing that was there. -/
set_option maxRecDepth 100000 in
set_option maxHeartbeats 4000000 in
theorem walk (H : Type) (enc : TypeId × Value → H) (base : Nat) (w : World) (v0 : Value) (d0 : DataW H) (p0 : List MemPlace) (v1 : Value) (d1 : DataW H) (p1 : List MemPlace) (v2 : Value) (d2 : DataW H) (p2 : List MemPlace) (v3 : Value) (d3 : DataW H) (p3 : List MemPlace) (v4 : Value) (d4 : DataW H) (p4 : List MemPlace) (v5 : Value) (d5 : DataW H) (p5 : List MemPlace) (v6 : Value) (d6 : DataW H) (p6 : List MemPlace) (v7 : Value) (d7 : DataW H) (p7 : List MemPlace) (v8 : Value) (d8 : DataW H) (p8 : List MemPlace) (k0 : Value.okWide Try.prog w .any base 23 v0) (h0 : DataW.Trod enc Try.prog w 0 (fun _ => true) true 23 v0 d0 p0) (k1 : Value.okWide Try.prog w .any base 23 v1) (h1 : DataW.Trod enc Try.prog w 0 (fun _ => true) true 23 v1 d1 p1) (k2 : Value.okWide Try.prog w .any base 3 v2) (h2 : DataW.Trod enc Try.prog w 0 (fun _ => true) true 3 v2 d2 p2) (k3 : Value.okWide Try.prog w .any base 3 v3) (h3 : DataW.Trod enc Try.prog w 0 (fun _ => true) true 3 v3 d3 p3) (k4 : Value.okWide Try.prog w .any base 3 v4) (h4 : DataW.Trod enc Try.prog w 0 (fun _ => true) true 3 v4 d4 p4) (k5 : Value.okWide Try.prog w .any base 27 v5) (h5 : DataW.Trod enc Try.prog w 0 (fun _ => true) true 27 v5 d5 p5) (k6 : Value.okWide Try.prog w .any base 27 v6) (h6 : DataW.Trod enc Try.prog w 0 (fun _ => true) true 27 v6 d6 p6) (k7 : Value.okWide Try.prog w .any base 25 v7) (h7 : DataW.Trod enc Try.prog w 0 (fun _ => true) true 25 v7 d7 p7) (k8 : Value.okWide Try.prog w .any base 25 v8) (h8 : DataW.Trod enc Try.prog w 0 (fun _ => true) true 25 v8 d8 p8) :
    Calls Try.prog 3 #[v0, v1, v2, v3, v4, v5, v6, v7, v8] w fun e w' => e = .returned (.bool true) ∧ Below w.heap.size w w' := by
  obtain ⟨cs, rfl, hc⟩ := open_flat Try.underlying23 64 (ks := [.num .i64, .num .i64]) (by kernel_rfl) k0 h0
  obtain ⟨p0, q0, rfl⟩ := fits2 hc
  clear hc h0 k0
  obtain ⟨cs, rfl, hc⟩ := open_flat Try.underlying23 64 (ks := [.num .i64, .num .i64]) (by kernel_rfl) k1 h1
  obtain ⟨p1, q1, rfl⟩ := fits2 hc
  clear hc h1 k1
  obtain ⟨x, rfl, -, -, -⟩ := open_int Try.underlying3 k2 h2
  obtain ⟨z, rfl, -, -, -⟩ := open_int Try.underlying3 k3 h3
  obtain ⟨leave, rfl, -, -, -⟩ := open_int Try.underlying3 k4 h4
  obtain ⟨cs, rfl, hc⟩ := open_flat Try.underlying27 64 (ks := [.num .i64, .num .i64, .num .i64, .num .i64, .num .i64, .num .i64]) (by kernel_rfl) k5 h5
  obtain ⟨cx, cz, cf, cg, cl, ck, rfl⟩ := fits6 hc
  clear hc h5 k5
  obtain ⟨cs, rfl, hc⟩ := open_flat Try.underlying27 64 (ks := [.num .i64, .num .i64, .num .i64, .num .i64, .num .i64, .num .i64]) (by kernel_rfl) k6 h6
  obtain ⟨dx, dz, df, dg, dl, dk, rfl⟩ := fits6 hc
  clear hc h6 k6
  obtain ⟨cs, rfl, hc⟩ := open_flat Try.underlying25 64 (ks := [.num .i64, .num .i64]) (by kernel_rfl) k7 h7
  obtain ⟨rn, rd, rfl⟩ := fits2 hc
  clear hc h7 k7
  obtain ⟨cs, rfl, hc⟩ := open_flat Try.underlying25 64 (ks := [.num .i64, .num .i64]) (by kernel_rfl) k8 h8
  obtain ⟨sn, sd, rfl⟩ := fits2 hc
  clear hc h8 k8
  exact (tell_any p0 q0 p1 q1 x z leave cx cz cf cg cl ck dx dz df dg dl dk rn rd sn sd w).mono fun e w' ⟨he, hn⟩ => ⟨he, hn⟩

/-! The row over the walk: the arguments are read again behind the call. -/
set_option maxRecDepth 100000 in
theorem lifted (os : Os) (started : os.Started) (H : Type) (enc : TypeId × Value → H) :
    ReturnsInHanded {} Try.checked os 3 .any (Rows.cellsTellSpec.pre6 enc Try.prog Try.f3 Rows.cellsTellRow.domain false) (Rows.cellsTellSpec.post enc Try.prog Try.f3 false true false false) := by
  refine returnsInHanded_of_change (C := Try.checked) own started (by kernel_rfl) Try.func3
    (ChangeSpec.witness6 (enc := enc) (C := Try.checked) false ⟨#[], #[.agg #[.int .i64 0, .int .i64 0], .agg #[.int .i64 0, .int .i64 0], .int .i64 0, .int .i64 0, .int .i64 0, .agg #[.int .i64 0, .int .i64 0, .int .i64 0, .int .i64 0, .int .i64 0, .int .i64 0], .agg #[.int .i64 0, .int .i64 0, .int .i64 0, .int .i64 0, .int .i64 0, .int .i64 0], .agg #[.int .i64 0, .int .i64 0], .agg #[.int .i64 0, .int .i64 0]], []⟩ 8 (by kernel_rfl) (by kernel_rfl) (by kernel_rfl) (by kernel_rfl)) ?_
  intro W base args ds gs before hval0 hW hcnd _
  have hval : ∀ (j : Nat) t v, Try.f3.params[j]? = some t → args[j]? = some v → Value.okWide Try.prog W .any base t v := hval0
  have hW' := hW
  obtain ⟨p, q, hA0, hV, rfl, hfz, hnd⟩ := hW
  have hA : DataW.TrodAll enc Try.prog W 0 (fun _ => true) true Try.f3.params.toList args.toList ds p := hA0
  rw [Try.params3] at hA hval
  obtain ⟨v0, vs0, d0, ds0, p0, q0, hargs, rfl, rfl, h0, r0⟩ := trodAll_cons hA
  obtain ⟨v1, vs1, d1, ds1, p1, q1, rfl, rfl, rfl, h1, r1⟩ := trodAll_cons r0
  obtain ⟨v2, vs2, d2, ds2, p2, q2, rfl, rfl, rfl, h2, r2⟩ := trodAll_cons r1
  obtain ⟨v3, vs3, d3, ds3, p3, q3, rfl, rfl, rfl, h3, r3⟩ := trodAll_cons r2
  obtain ⟨v4, vs4, d4, ds4, p4, q4, rfl, rfl, rfl, h4, r4⟩ := trodAll_cons r3
  obtain ⟨v5, vs5, d5, ds5, p5, q5, rfl, rfl, rfl, h5, r5⟩ := trodAll_cons r4
  obtain ⟨v6, vs6, d6, ds6, p6, q6, rfl, rfl, rfl, h6, r6⟩ := trodAll_cons r5
  obtain ⟨v7, vs7, d7, ds7, p7, q7, rfl, rfl, rfl, h7, r7⟩ := trodAll_cons r6
  obtain ⟨v8, vs8, d8, ds8, p8, q8, rfl, rfl, rfl, h8, r8⟩ := trodAll_cons r7
  obtain ⟨rfl, rfl, rfl⟩ := trodAll_nil r8
  obtain rfl : args = #[v0, v1, v2, v3, v4, v5, v6, v7, v8] := by cases args; simp_all
  obtain ⟨rfl, rfl⟩ := trodVars_none hV
  have lt0 : ∀ x ∈ p0, x.block < W.heap.size := by obtain ⟨m, hm⟩ := h0; exact DataW.trod_lt m _ _ _ hm
  have lt1 : ∀ x ∈ p1, x.block < W.heap.size := by obtain ⟨m, hm⟩ := h1; exact DataW.trod_lt m _ _ _ hm
  have lt2 : ∀ x ∈ p2, x.block < W.heap.size := by obtain ⟨m, hm⟩ := h2; exact DataW.trod_lt m _ _ _ hm
  have lt3 : ∀ x ∈ p3, x.block < W.heap.size := by obtain ⟨m, hm⟩ := h3; exact DataW.trod_lt m _ _ _ hm
  have lt4 : ∀ x ∈ p4, x.block < W.heap.size := by obtain ⟨m, hm⟩ := h4; exact DataW.trod_lt m _ _ _ hm
  have lt5 : ∀ x ∈ p5, x.block < W.heap.size := by obtain ⟨m, hm⟩ := h5; exact DataW.trod_lt m _ _ _ hm
  have lt6 : ∀ x ∈ p6, x.block < W.heap.size := by obtain ⟨m, hm⟩ := h6; exact DataW.trod_lt m _ _ _ hm
  have lt7 : ∀ x ∈ p7, x.block < W.heap.size := by obtain ⟨m, hm⟩ := h7; exact DataW.trod_lt m _ _ _ hm
  have lt8 : ∀ x ∈ p8, x.block < W.heap.size := by obtain ⟨m, hm⟩ := h8; exact DataW.trod_lt m _ _ _ hm
  clear hA0
  refine (walk H enc base W v0 d0 p0 v1 d1 p1 v2 d2 p2 v3 d3 p3 v4 d4 p4 v5 d5 p5 v6 d6 p6 v7 d7 p7 v8 d8 p8 (hval 0 23 v0 rfl rfl) h0 (hval 1 23 v1 rfl rfl) h1 (hval 2 3 v2 rfl rfl) h2 (hval 3 3 v3 rfl rfl) h3 (hval 4 3 v4 rfl rfl) h4 (hval 5 27 v5 rfl rfl) h5 (hval 6 27 v6 rfl rfl) h6 (hval 7 25 v7 rfl rfl) h7 (hval 8 25 v8 rfl rfl) h8).mono fun e W' ⟨he, bel⟩ => ?_
  subst he
  exact ⟨_, rfl, _, _, _, [], _, [], hW', trodAll_mk1 (shut_bool Try.underlying4 _), (trodAll_cons_mk (Below.trod laidOut (by kernel_rfl) (of_decide_eq_true (by kernel_rfl)) h0 bel lt0) (trodAll_cons_mk (Below.trod laidOut (by kernel_rfl) (of_decide_eq_true (by kernel_rfl)) h1 bel lt1) (trodAll_cons_mk (Below.trod laidOut (by kernel_rfl) (of_decide_eq_true (by kernel_rfl)) h2 bel lt2) (trodAll_cons_mk (Below.trod laidOut (by kernel_rfl) (of_decide_eq_true (by kernel_rfl)) h3 bel lt3) (trodAll_cons_mk (Below.trod laidOut (by kernel_rfl) (of_decide_eq_true (by kernel_rfl)) h4 bel lt4) (trodAll_cons_mk (Below.trod laidOut (by kernel_rfl) (of_decide_eq_true (by kernel_rfl)) h5 bel lt5) (trodAll_cons_mk (Below.trod laidOut (by kernel_rfl) (of_decide_eq_true (by kernel_rfl)) h6 bel lt6) (trodAll_cons_mk (Below.trod laidOut (by kernel_rfl) (of_decide_eq_true (by kernel_rfl)) h7 bel lt7) (trodAll_cons_mk (Below.trod laidOut (by kernel_rfl) (of_decide_eq_true (by kernel_rfl)) h8 bel lt8) trodAll_mk0))))))))), rfl, bel.frame _, fun h => by cases h⟩

theorem over : Rows.cellsTellRow.holds Try.pinned (OpenSpec.ofChange Rows.cellsTellSpec) :=
  OpenClaim.holds_of_wide 3 Try.f3 rfl rfl rfl rfl rfl rfl rfl ⟨rfl, rfl, rfl, rfl, rfl⟩ rfl rfl rfl rfl rfl (by kernel_rfl) Try.func3 (by kernel_rfl)
    (of_decide_eq_true (by kernel_rfl)) (by unfold Func.isWrapper; first | (rw [if_pos (by decide +kernel)]; kernel_rfl) | (rw [if_neg (by decide +kernel)]; exact ⟨rfl, rfl⟩))
    (fun os started H enc _ => lifted os started H enc)

/-- The given statement. -/
theorem proved : Rows.CellsTellSaid := over
#print axioms proved
end Go.Proofs.Ytmpkciidhopckaa.cellsTell
