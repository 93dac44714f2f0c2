/- Package cells: the columns are told one by one, row by row. -/
import Derived.Test.YtmpkciidhopckaaCellsF
import Derived.Test.YtmpkciidhopckaaCellsG
import Derived.Test.YtmpkciidhopckaaCellsH
import Derived.RangeFuncNested
import Derived.RangeFuncWrites
import Derived.RangeFuncBound
import Derived.RangeFuncCalls
import Derived.RangeFuncLeaves
import Derived.Shelf.Abstract
import Derived.Shelf.RegionOpen
import Derived.WalkKit
import Derived.OwnWalkIn
import Derived.TacticsInMore
import Derived.LoopNIn
import Derived.LoopIn
import Derived.Sort.WalkA
namespace Go.Proofs.Ytmpkciidhopckaa
open Go.RowKit Go.Shelf
set_option linter.unusedVariables false
attribute [local go_sem] Oper.semAt_some

theorem c_meeting (ax az bx bz x z : Int) (w : World) :
    Calls Try.prog 42 #[.agg #[.int .i64 ax, .int .i64 az], .agg #[.int .i64 bx, .int .i64 bz], .int .i64 x, .int .i64 z] w fun e w' => e = .returned (metV x z (meetO ax az bx bz x z)) ∧ New w w' := by
  unfold meetO
  cases h : validB ax az bx bz x z with
  | true => rw [if_pos rfl]; exact c_meeting_yes ax az bx bz x z w h
  | false => rw [if_neg (by simp)]; exact c_meeting_no ax az bx bz x z w h

theorem New.grown_of {w w' : World} (h : New w w') : w.grownBy w' none := ⟨h.os, h.tape, h.output, h.size, fun k hk _ => h.block k hk⟩
theorem abides_new {β : Type} {B : Nat} {J : β → World → Prop} (hJ : AbidesFrom B J) {s : β} {W W' : World} (h : J s W) (n : New W W') : J s W' := hJ s W W' none h n.grown_of (fun r e => by cases e)

theorem col_cells (c : Col) : c.val = .agg #[.int .i64 c.x, .int .i64 c.z, .int .i64 c.m.fn, .int .i64 c.m.fd, .int .i64 c.m.ln, .int .i64 c.m.ld] := rfl

set_option maxHeartbeats 4000000 in
set_option maxRecDepth 100000 in
theorem c_met1 (ax az bx bz x0 x1 z0 z1 : Int)
    (hlz : ∀ w, Calls Try.prog 59 #[.int .i64 az, .int .i64 bz] w fun e w' => e = .returned (.int .i64 z0) ∧ w' = w)
    (hhz : ∀ w, Calls Try.prog 60 #[.int .i64 az, .int .i64 bz] w fun e w' => e = .returned (.int .i64 z1) ∧ w' = w)
    (hlx : ∀ w, Calls Try.prog 59 #[.int .i64 ax, .int .i64 bx] w fun e w' => e = .returned (.int .i64 x0) ∧ w' = w)
    (hhx : ∀ w, Calls Try.prog 60 #[.int .i64 ax, .int .i64 bx] w fun e w' => e = .returned (.int .i64 x1) ∧ w' = w)
    (kx kz : Nat) (hkx : (kx : Int) = x1 + 1 - x0) (hkz : (kz : Int) = z1 + 1 - z0) (hx0 : -1 ≤ x0) (hz0 : -1 ≤ z0) (hx1 : x1 ≤ 32) (hz1 : z1 ≤ 32)
    (n l Ba Bb : Nat) (hn : 1 ≤ n) (J Jx : List Col → World → Prop)
    (hY : ∀ (pre : List Col) (c : Col) W, J pre W → pre.length < 1156 → YieldAt Fence.wide (n - 1) Try.prog l #[.agg #[.int .i64 c.x, .int .i64 c.z, .int .i64 c.m.fn, .int .i64 c.m.fd, .int .i64 c.m.ln, .int .i64 c.m.ld]] W fun e W' =>
      (e = .returned (.bool true) ∧ J (pre ++ [c]) W' ∧ (W'.heap[Ba]? = W.heap[Ba]? ∧ W'.heap[Bb]? = W.heap[Bb]?)) ∨ (e = .returned (.bool false) ∧ Jx (pre ++ [c]) W'))
    (W : World) (hJ : ∀ pre W1 W2, J pre W1 → New W1 W2 → J pre W2) (a0 : W.cell? ⟨Ba, 0, none⟩ = some (.int .i64 ax)) (a1 : W.cell? ⟨Ba, 1, none⟩ = some (.int .i64 az)) (b0 : W.cell? ⟨Bb, 0, none⟩ = some (.int .i64 bx)) (b1 : W.cell? ⟨Bb, 1, none⟩ = some (.int .i64 bz))
    (h0 : J [] W) :
    CallsIn Fence.wide n Try.prog 58 #[.func (.yield l) #[] #[], .pointer (some ⟨Ba, 0, none⟩), .pointer (some ⟨Bb, 0, none⟩)] W fun e W' => (∃ v, e = .returned v) ∧
      ((∃ ys, ys = gridL ax az bx bz x0 z0 kx kz ∧ J ys W') ∨ (∃ pre : List Col, True ∧ Jx pre W')) := by
  have hkx34 : kx ≤ 34 := by omega
  have hkz34 : kz ≤ 34 := by omega
  refine callsIn_of_wp Try.func58 rfl trivial ?_ rfl
  simp only [Try.ntmps58, List.size_toArray, List.length_cons, List.length_nil, Nat.reduceAdd, Nat.reduceSub, Array.replicate_succ, Array.replicate_zero, List.push_toArray, List.append_toArray, List.nil_append, List.cons_append]
  gi_wp2_with (refine ⟨trivial, ?_⟩; gi_at_call 59; refine (callsIn_wide.2 (hlz _)).mono ?_; rintro e w' ⟨rfl, rfl⟩)
  gi_loopw [4] (fun vz wr => ∃ j : Nat, vz = .int .i64 (z0 + j) ∧ j ≤ kz ∧ J (gridL ax az bx bz x0 z0 kx j) wr ∧ wr.cell? ⟨Ba, 0, none⟩ = some (.int .i64 ax) ∧ wr.cell? ⟨Ba, 1, none⟩ = some (.int .i64 az) ∧ wr.cell? ⟨Bb, 0, none⟩ = some (.int .i64 bx) ∧ wr.cell? ⟨Bb, 1, none⟩ = some (.int .i64 bz))
    (fun vz _ => (z1 + 1 - intOf vz).toNat)
  case atStart => exact ⟨0, by simp, Nat.zero_le _, h0, a0, a1, b0, b1⟩
  case round =>
    clear a0 a1 b0 b1
    obtain ⟨j, rfl, hj, hJ1, a0, a1, b0, b1⟩ := hrel
    by_cases hjz : j < kz
    · have hle : z0 + (j : Int) ≤ z1 := by omega
      have hJ1' : Hid (J (gridL ax az bx bz x0 z0 kx j) wr) := hJ1
      clear hJ1
      gi_wp2_with (first
        | (refine ⟨trivial, ?_⟩; gi_at_call 60; refine (callsIn_wide.2 (hhz _)).mono ?_; rintro e w' ⟨rfl, rfl⟩)
        | (refine ⟨trivial, ?_⟩; gi_at_call 59; refine (callsIn_wide.2 (hlx _)).mono ?_; rintro e w' ⟨rfl, rfl⟩))
      gi_loopw [5] (fun vx wr2 => ∃ i : Nat, vx = .int .i64 (x0 + i) ∧ i ≤ kx ∧ Hid (J (gridL ax az bx bz x0 z0 kx j ++ rowL ax az bx bz x0 (z0 + j) i) wr2) ∧ wr2.cell? ⟨Ba, 0, none⟩ = some (.int .i64 ax) ∧ wr2.cell? ⟨Ba, 1, none⟩ = some (.int .i64 az) ∧ wr2.cell? ⟨Bb, 0, none⟩ = some (.int .i64 bx) ∧ wr2.cell? ⟨Bb, 1, none⟩ = some (.int .i64 bz))
        (fun vx _ => (x1 + 1 - intOf vx).toNat)
      case atStart => exact ⟨0, by simp, Nat.zero_le _, by show J _ _; simpa [rowL] using hJ1'.out, a0, a1, b0, b1⟩
      case round =>
        clear a0 a1 b0 b1 hJ1'
        obtain ⟨i, rfl, hi, hJ2, a0, a1, b0, b1⟩ := hrel
        by_cases hix : i < kx
        · have hle2 : x0 + (i : Int) ≤ x1 := by omega
          have hlen : (gridL ax az bx bz x0 z0 kx j ++ rowL ax az bx bz x0 (z0 + j) i).length < 1156 := by
            rw [List.length_append]
            have l1 := gridL_len ax az bx bz x0 z0 kx j
            have l2 := rowL_len ax az bx bz x0 (z0 + j) i
            have l3 : j * kx ≤ 33 * 34 := Nat.mul_le_mul (by omega) hkx34
            omega
          have hnext := rowL_succ ax az bx bz x0 (z0 + j) i
          cases hm : meetO ax az bx bz (x0 + i) (z0 + j) with
          | none =>
            rw [colO_none hm] at hnext
            have HN : Hid (rowL ax az bx bz x0 (z0 + j) (i + 1) = rowL ax az bx bz x0 (z0 + j) i) := by show _ = _; rw [hnext]; simp
            clear hnext
            have hc := fun w => c_meeting ax az bx bz (x0 + i) (z0 + j) w
            simp only [hm, metV, cellV] at hc
            gi_wp2_with (first
              | (refine ⟨trivial, ?_⟩; gi_at_call 60; refine (callsIn_wide.2 (hhx _)).mono ?_; rintro e w' ⟨rfl, hw⟩; subst w')
              | (refine ⟨trivial, ?_⟩; gi_at_call 42; refine (callsIn_wide.2 (hc _)).mono ?_; rintro e w3 ⟨rfl, n3⟩; replace a0 := n3.keep a0; replace a1 := n3.keep a1; replace b0 := n3.keep b0; replace b1 := n3.keep b1))
            refine ⟨fun _ h => (by cases h), ?_⟩
            gi_wp2
            go_roundw
            case rel =>
              have n4 : New wr (w3.alloc (.cells #[.int .i64 0, .int .i64 0, .int .i64 0, .int .i64 0, .int .i64 0, .int .i64 0] 27)) := n3.alloc _
              exact ⟨i + 1, by congr 1; omega, by omega, by show J _ _; rw [HN.out]; exact hJ _ _ _ hJ2.out n4, ((New.refl w3).alloc _).keep a0, ((New.refl w3).alloc _).keep a1, ((New.refl w3).alloc _).keep b0, ((New.refl w3).alloc _).keep b1⟩
            case measure => simp [intOf]; omega
          | some m =>
            rw [colO_some hm] at hnext
            obtain ⟨c, hcx, hcz, hcm, hce⟩ : ∃ c : Col, c.x = x0 + i ∧ c.z = z0 + j ∧ c.m = m ∧ c = ⟨x0 + i, z0 + j, m, meetO_good hm⟩ := ⟨_, rfl, rfl, rfl, rfl⟩
            rw [← hce] at hnext
            have HN : Hid (rowL ax az bx bz x0 (z0 + j) (i + 1) = rowL ax az bx bz x0 (z0 + j) i ++ [c]) := by show _ = _; rw [hnext]; simp
            clear hnext
            have hc := fun w => c_meeting ax az bx bz (x0 + i) (z0 + j) w
            simp only [hm, metV, cellV] at hc
            have hyall := fun W q => hY (gridL ax az bx bz x0 z0 kx j ++ rowL ax az bx bz x0 (z0 + j) i) c W q hlen
            rw [hcx, hcz, hcm] at hyall
            clear hm hcx hcz hcm hce
            gi_wp2_with (first
              | (refine ⟨trivial, ?_⟩; gi_at_call 60; refine (callsIn_wide.2 (hhx _)).mono ?_; rintro e w' ⟨rfl, hw⟩; subst w')
              | (refine ⟨trivial, ?_⟩; gi_at_call 42; refine (callsIn_wide.2 (hc _)).mono ?_; rintro e w3 ⟨rfl, n3⟩; replace a0 := n3.keep a0; replace a1 := n3.keep a1; replace b0 := n3.keep b0; replace b1 := n3.keep b1; (obtain ⟨fn, tmps, assign, body, hy, hR⟩ := hyall (w3.alloc (.cells #[.int .i64 (x0 + i), .int .i64 (z0 + j), .int .i64 m.fn, .int .i64 m.fd, .int .i64 m.ln, .int .i64 m.ld] 27)) (hJ _ _ _ hJ2.out (n3.alloc _)))))
            have q0 := ((New.refl w3).alloc (.cells #[.int .i64 (x0 + i), .int .i64 (z0 + j), .int .i64 m.fn, .int .i64 m.fd, .int .i64 m.ln, .int .i64 m.ld] 27)).keep a0
            have q1 := ((New.refl w3).alloc (.cells #[.int .i64 (x0 + i), .int .i64 (z0 + j), .int .i64 m.fn, .int .i64 m.fd, .int .i64 m.ln, .int .i64 m.ld] 27)).keep a1
            have q2 := ((New.refl w3).alloc (.cells #[.int .i64 (x0 + i), .int .i64 (z0 + j), .int .i64 m.fn, .int .i64 m.fd, .int .i64 m.ln, .int .i64 m.ld] 27)).keep b0
            have q3 := ((New.refl w3).alloc (.cells #[.int .i64 (x0 + i), .int .i64 (z0 + j), .int .i64 m.fn, .int .i64 m.fd, .int .i64 m.ln, .int .i64 m.ld] 27)).keep b1
            refine hR.mono ?_
            clear hy hR hyall a0 a1 b0 b1
            rintro e W5 (⟨rfl, hJ5, hk5⟩ | ⟨rfl, hJx5⟩)
            · have a0 := (World.cell?_of_block (a := ⟨Ba, 0, none⟩) hk5.1).trans q0
              have a1 := (World.cell?_of_block (a := ⟨Ba, 1, none⟩) hk5.1).trans q1
              have b0 := (World.cell?_of_block (a := ⟨Bb, 0, none⟩) hk5.2).trans q2
              have b1 := (World.cell?_of_block (a := ⟨Bb, 1, none⟩) hk5.2).trans q3
              clear q0 q1 q2 q3 hk5
              gi_wp2
              go_roundw
              case rel => exact ⟨i + 1, by congr 1; omega, by omega, by show J _ _; rw [HN.out, ← List.append_assoc]; exact hJ5, a0, a1, b0, b1⟩
              case measure => simp [intOf]; omega
            · gi_wp2
              refine bodyPost_ret (results_none rfl _ _ _) rfl ?_
              exact ⟨⟨_, rfl⟩, .inr ⟨_, trivial, hJx5⟩⟩
        · have hle2 : ¬ (x0 + (i : Int) ≤ x1) := by omega
          obtain rfl : i = kx := by omega
          gi_wp2_with (refine ⟨trivial, ?_⟩; gi_at_call 60; refine (callsIn_wide.2 (hhx _)).mono ?_; rintro e w' ⟨rfl, rfl⟩)
          go_roundw
          case rel => exact ⟨j + 1, by congr 1; omega, by omega, by rw [gridL_succ]; exact hJ2.out, a0, a1, b0, b1⟩
          case measure => simp [intOf]; omega
    · have hle : ¬ (z0 + (j : Int) ≤ z1) := by omega
      obtain rfl : j = kz := by omega
      gi_wp2_with (refine ⟨trivial, ?_⟩; gi_at_call 60; refine (callsIn_wide.2 (hhz _)).mono ?_; rintro e w' ⟨rfl, rfl⟩)
      go_end0
      exact ⟨⟨_, rfl⟩, .inl ⟨_, rfl, hJ1⟩⟩

end Go.Proofs.Ytmpkciidhopckaa
