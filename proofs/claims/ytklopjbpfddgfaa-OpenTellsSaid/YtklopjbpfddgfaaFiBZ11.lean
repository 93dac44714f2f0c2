import Derived.Test.YtklopjbpfddgfaaFiAZ11
import Derived.Test.YtklopjbpfddgfaaRng
import Derived.Shelf.Abstract
import Derived.WalkKit
import Derived.OwnWalkIn
import Derived.TacticsInMore
import Derived.LoopNIn
import Derived.LoopIn
import Derived.Sort.WalkA

/- Package filter: what goes over the rooms, as a contract by places. -/
namespace Go.Proofs.Ytklopjbpfddgfaa
open Go.RowKit Go.Shelf Go.Sort
set_option linter.unusedVariables false
attribute [local go_sem] Oper.semAt_some

theorem New.stays {w w' : World} (h : New w w') {b : Nat} {o : Obj} (hb : w.heap[b]? = some o) : w'.heap[b]? = some o := (h.block b (Array.getElem?_eq_some_iff.1 hb).1).trans hb

/-- Where the room above the k-th span ends. -/
def roofF (l : List Sn) (k : Nat) : Int := match l[k + 1]? with
  | some s => s.lo
  | none => 1048576
theorem roofF_mid {l : List Sn} {k : Nat} (h : k + 1 < l.length) : roofF l k = l[k + 1].lo := by unfold roofF; rw [List.getElem?_eq_getElem h]
theorem roofF_last {l : List Sn} {k : Nat} (h : l.length ≤ k + 1) : roofF l k = 1048576 := by unfold roofF; rw [List.getElem?_eq_none h]
def roomE (l : List Sn) (k : Nat) : Array Value := #[.int .i64 k, .int .i64 (roofF l k)]
/-- The block that a row stands in; where there is none, B. -/
def rowB (l : List Sn) (at0 : Option Addr) (B : Nat) : Nat := match l, at0 with
  | _ :: _, some a => a.block
  | _, _ => B
theorem rowB_pos {l : List Sn} {a : Addr} {B : Nat} (h : 0 < l.length) : rowB l (some a) B = a.block := by
  cases l with
  | nil => simp at h
  | cons x xs => rfl
/-- These two blocks lie as they lay. -/
def Keep2 (B R : Nat) (W W' : World) : Prop := W'.heap[B]? = W.heap[B]? ∧ W'.heap[R]? = W.heap[R]?
theorem Keep2.trans {B R : Nat} {X Y Z : World} (h : Keep2 B R X Y) (k : Keep2 B R Y Z) : Keep2 B R X Z := ⟨k.1.trans h.1, k.2.trans h.2⟩
theorem Keep2.refl {B R : Nat} (W : World) : Keep2 B R W W := ⟨rfl, rfl⟩
theorem Keep2.below {B R : Nat} {w W W' : World} (hb : B < w.heap.size) (hr : R < w.heap.size) (h : Below w.heap.size W W') (hz : w.heap.size ≤ W.heap.size) : Keep2 B R W W' := ⟨h.block B hb, h.block R hr⟩

/-- A slice of spans in a block of its own. -/
structure RowBox (w : World) (B : Nat) (at0 : Option Addr) (cap : Nat) (l : List Sn) : Prop where
  box : w.heap[B]? = some (.cells #[.slice at0 l.length cap] 49 (0, 0))
  row : RowIn Sn.enc 3 w at0 l
theorem RowBox.lt {w : World} {B : Nat} {at0 : Option Addr} {cap : Nat} {l : List Sn} (h : RowBox w B at0 cap l) : B < w.heap.size := (Array.getElem?_eq_some_iff.1 h.box).1
theorem RowBox.keep {w W : World} {B : Nat} {at0 : Option Addr} {cap : Nat} {l : List Sn} (h : RowBox w B at0 cap l) (k : Keep2 B (rowB l at0 B) w W) : RowBox W B at0 cap l :=
  ⟨k.1.trans h.box, fun h0 => by
    obtain ⟨b, off, rfl, hr⟩ := h.row h0
    have k2 := k.2
    rw [rowB_pos h0] at k2
    exact ⟨b, off, rfl, fun j hj i hi => (World.cell?_of_block (a := ⟨b, off + j * 3 + i, none⟩) k2).trans (hr j hj i hi)⟩⟩
theorem RowBox.row_lt {w : World} {B : Nat} {at0 : Option Addr} {cap : Nat} {l : List Sn} (h : RowBox w B at0 cap l) : rowB l at0 B < w.heap.size := by
  cases l with
  | nil => exact h.lt
  | cons x xs =>
    obtain ⟨b, off, rfl, hr⟩ := h.row (by simp)
    exact World.block_lt_of_cell? _ _ (hr 0 (by simp) 0 (by rw [Sn.enc_len]; omega))
theorem RowBox.new {w W : World} {B : Nat} {at0 : Option Addr} {cap : Nat} {l : List Sn} (h : RowBox w B at0 cap l) (k : New w W) : RowBox W B at0 cap l :=
  ⟨(k.block B h.lt).trans h.box, h.row.keep k⟩
theorem RowBox.cell {w : World} {B : Nat} {at0 : Option Addr} {cap : Nat} {l : List Sn} (h : RowBox w B at0 cap l) : w.cell? ⟨B, 0, none⟩ = some (.slice at0 l.length cap) := cell_of_heap h.box rfl

set_option maxHeartbeats 4000000 in
set_option maxRecDepth 100000 in
theorem fi_rooms1 (at0 : Option Addr) (l : List Sn) (cap B : Nat) (hl : l.length ≤ 1000) (n : Nat) (hn : 1 ≤ n) (w : World) (H : RowBox w B at0 cap l) :
    SeqL Fence.wide n Try.prog 49 #[.pointer (some ⟨B, 0, none⟩)] (roomE l) (List.range l.length) (Keep2 B (rowB l at0 B)) w := by
  intro lp J Jx W hW hJ hJx hY h0
  have H0 := Lib.hid (H.new hW)
  have HY := Lib.hid hY
  have HJ0 : Hid (J 0 W) := h0
  clear hY h0 H hW hJ hJx
  simp only [List.append_toArray, List.cons_append, List.nil_append]
  refine callsIn_of_wp Try.func49 rfl trivial ?_ rfl
  simp only [Try.ntmps49, List.size_toArray, List.length_cons, List.length_nil, Nat.reduceAdd, Nat.reduceSub, Array.replicate_succ, Array.replicate_zero, List.push_toArray, List.append_toArray, List.nil_append, List.cons_append]
  have c0 := H0.out.cell
  gi_wp2_with fail
  gi_loopw [7] (fun vz wr => ∃ k : Nat, vz = .int .i64 k ∧ k ≤ l.length ∧ Hid (J k wr) ∧ Hid (RowBox wr B at0 cap l))
    (fun vz _ => l.length - (intOf vz).toNat)
  case atStart => exact ⟨0, by simp, Nat.zero_le _, HJ0, H0⟩
  case round =>
    clear c0 H0 HJ0
    obtain ⟨k, rfl, hk, hJ1, HB⟩ := hrel
    have c0 := HB.out.cell
    by_cases hlt : k < l.length
    · have hyall := fun q => HY.out k (by simpa using hlt) wr q
      have ek : (List.range l.length)[k]'(by simpa using hlt) = k := by simp
      rw [ek] at hyall
      unfold roomE at hyall
      obtain ⟨top, htop⟩ : ∃ top, top = roofF l k := ⟨_, rfl⟩
      rw [← htop] at hyall
      obtain ⟨fn, tmps, assign, body, hy, hR⟩ := hyall hJ1.out
      clear hyall ek
      by_cases h1 : k + 1 < l.length
      · obtain ⟨b0, off, rfl, hA⟩ := HB.out.row (by omega)
        obtain ⟨d0, -, -⟩ := Sn.cells hA (k + 1) h1
        rw [roofF_mid h1] at htop
        rw [← htop] at d0
        clear hA htop
        gi_wp2_with fail
        refine hR.mono ?_
        clear hy hR
        rintro e W5 (⟨rfl, -, kp, hJ5⟩ | ⟨rfl, -, hJx5⟩)
        · have HB5 := Lib.hid (HB.out.keep kp)
          have hJ6 : Hid (J (k + 1) W5) := hJ5
          clear hJ5 kp
          gi_wp2_with fail
          go_roundw
          case rel => exact ⟨k + 1, by congr 1, by omega, hJ6, HB5⟩
          case measure => simp [intOf]; omega
        · gi_wp2_with fail
          refine bodyPost_ret (results_none rfl _ _ _) rfl ?_
          exact ⟨⟨_, rfl⟩, .inr ⟨k + 1, by omega, by rw [List.length_range]; omega, hJx5⟩⟩
      · rw [roofF_last (by omega)] at htop
        subst htop
        have hd : decide (((k : Nat) : Int) + 1 < (l.length : Int)) = false := decide_eq_false (by omega)
        gi_wp2_with fail
        refine hR.mono ?_
        clear hy hR
        rintro e W5 (⟨rfl, -, kp, hJ5⟩ | ⟨rfl, -, hJx5⟩)
        · have HB5 := Lib.hid (HB.out.keep kp)
          have hJ6 : Hid (J (k + 1) W5) := hJ5
          clear hJ5 kp
          gi_wp2_with fail
          go_roundw
          case rel => exact ⟨k + 1, by congr 1, by omega, hJ6, HB5⟩
          case measure => simp [intOf]; omega
        · gi_wp2_with fail
          refine bodyPost_ret (results_none rfl _ _ _) rfl ?_
          exact ⟨⟨_, rfl⟩, .inr ⟨k + 1, by omega, by rw [List.length_range]; omega, hJx5⟩⟩
    · obtain rfl : k = l.length := by omega
      gi_wp2_with fail
      go_end0
      exact ⟨⟨_, rfl⟩, .inl (by rw [List.length_range]; exact hJ1.out)⟩

end Go.Proofs.Ytklopjbpfddgfaa
