import Derived.Test.YtklopjbpfddgfaaGreatRaAZ12
import Derived.Test.YtklopjbpfddgfaaGreatRaC0Z12
import Derived.Shelf.Abstract
import Derived.Shelf.RegionOpen
import Derived.WalkKit
import Derived.OwnWalkIn
import Derived.TacticsInMore
import Derived.LoopNIn
import Derived.LoopIn
import Derived.Sort.WalkA
import Derived.Deep.Quiet
import Derived.BigQuiet
import Derived.OwnWalk

/- Package raster: what goes over a triangle's pieces, as a contract. -/
namespace Go.Proofs.YtklopjbpfddgfaaGreat
open Go.RowKit Go.Shelf Go.Sort
set_option linter.unusedVariables false
attribute [local go_sem] Oper.semAt_some

theorem mx3 (a b : Int) : (if (if a < b then b else a) < 0 then 0 else if a < b then b else a) = max (max a b) 0 := by
  by_cases h : a < b <;> simp only [h, if_true, if_false] <;> split <;> omega
theorem mn3 (a b c : Int) : (if c < (if b < a then b else a) then c else if b < a then b else a) = min (min a b) c := by
  by_cases h : b < a <;> simp only [h, if_true, if_false] <;> split <;> omega

theorem el_in {C : CfgR} {T : TriR} {b : Bx} {i j : Nat} (hi : i < gkx C T b) (hj : j < gkz C T b) (h : elL C T b (gx0 T b + i) (gz0 T b + j) ≠ []) : elAll C T b ≠ [] := by
  obtain ⟨e, he⟩ := List.exists_mem_of_ne_nil _ h
  intro h0
  have : e ∈ elAll C T b := by
    unfold elAll elGrid elRow
    rw [List.mem_flatMap]
    refine ⟨j, List.mem_range.2 hj, ?_⟩
    rw [List.mem_flatMap]
    exact ⟨i, List.mem_range.2 hi, he⟩
  rw [h0] at this
  cases this

set_option maxHeartbeats 4000000 in
set_option maxRecDepth 100000 in
theorem p_each (C : CfgR) (T : TriR) (b : Bx) (hC : C.fine) (hT : okT T = true) (hb : b.ok) (n l Bc Bt Bb : Nat) (hn : 1 ≤ n) (J Jx : List (El b.n) → World → Prop)
    (hY : ∀ (pre : List (El b.n)) (e : El b.n) W, J pre W → pre.length < 1024 → YieldAt Fence.wide (n - 1) Tryz.prog l #[.int .i64 e.1.1, .agg #[.int .i64 e.1.2.lo, .int .i64 e.1.2.hi, .bool e.1.2.wk]] W fun x W' =>
      (x = .returned (.bool true) ∧ J (pre ++ [e]) W' ∧ (W'.heap[Bc]? = W.heap[Bc]? ∧ W'.heap[Bt]? = W.heap[Bt]? ∧ W'.heap[Bb]? = W.heap[Bb]?)) ∨ (x = .returned (.bool false) ∧ Jx (pre ++ [e]) W'))
    (W : World) (hJ : ∀ pre W1 W2, J pre W1 → New W1 W2 → J pre W2) (H : Three C T b Bc Bt Bb W) (h0 : J [] W) :
    CallsIn Fence.wide n Tryz.prog 58 #[.func (.yield l) #[] #[], .pointer (some ⟨Bc, 0, none⟩), .pointer (some ⟨Bt, 0, none⟩), .pointer (some ⟨Bb, 0, none⟩)] W fun e W' => (∃ v, e = .returned v) ∧
      ((∃ ys, ys = elAll C T b ∧ J ys W') ∨ (∃ pre : List (El b.n), elAll C T b ≠ [] ∧ Jx pre W')) := by
  have h0' : Hid (J [] W) := h0
  have HJ := Lib.hid hJ
  have HY := Lib.hid hY
  clear h0 hJ hY
  have kw := fun W => t_walk C.cl C.cb C.ht C.ri C.ru C.wd C.dp T.i T.x0 T.y0 T.z0 T.x1 T.y1 T.z1 T.x2 T.y2 T.z2 W
  have kc := fun W => k_columns T W
  have kl := fun W => a_last b hb W
  have egx0 : max (max (minI T.x0 T.x1 T.x2 - 1) b.x) 0 = gx0 T b := rfl
  have egz0 : max (max (minI T.z0 T.z1 T.z2 - 1) b.z) 0 = gz0 T b := rfl
  have egx1 : min (min (maxI T.x0 T.x1 T.x2) (b.x + (b.w - 1))) (C.wd - 1) = gx1 C T b := rfl
  have egz1 : min (min (maxI T.z0 T.z1 T.z2) (b.z + (b.d - 1))) (C.dp - 1) = gz1 C T b := rfl
  have cw1 := hC.w1
  have cw2 := hC.w2
  have cd1 := hC.d1
  have cd2 := hC.d2
  rw [hT] at kc
  simp only [if_true] at kc
  generalize walkE C.cl C.cb C.ht C.ri C.ru C.wd C.dp T.x0 T.y0 T.z0 T.x1 T.y1 T.z1 T.x2 T.y2 T.z2 = we at *
  have ewk : walkB C.cl C.cb C.ht C.ri C.ru C.wd C.dp T.x0 T.y0 T.z0 T.x1 T.y1 T.z1 T.x2 T.y2 T.z2 = walkT C T := rfl
  rw [ewk] at kw
  refine callsIn_of_wp Tryz.func58 rfl trivial ?_ rfl
  simp only [Tryz.ntmps58, List.size_toArray, List.length_cons, List.length_nil, Nat.reduceAdd, Nat.reduceSub, Array.replicate_succ, Array.replicate_zero, List.push_toArray, List.append_toArray, List.nil_append, List.cons_append]
  refine wpIn_wide.2 ?_
  obtain ⟨⟨c0, c1, c2, c3, c4, c5, c6⟩, ⟨t0, t1, t2, t3, t4, t5, t6, t7, t8, t9⟩, b0, b1, b2, b3⟩ := H.cs
  go_wp2_with fail
  refine (kw _).mono ?_
  rintro e w1 ⟨rfl, n1⟩
  replace h0' : Hid (J [] w1) := HJ.out _ _ _ h0'.out n1
  replace H := H.new n1
  clear c0 c1 c2 c3 c4 c5 c6 t0 t1 t2 t3 t4 t5 t6 t7 t8 t9 b0 b1 b2 b3 kw n1
  obtain ⟨⟨c0, c1, c2, c3, c4, c5, c6⟩, ⟨t0, t1, t2, t3, t4, t5, t6, t7, t8, t9⟩, b0, b1, b2, b3⟩ := H.cs
  go_wp2_with fail
  refine (kc _).mono ?_
  rintro e w2 ⟨rfl, n1⟩
  replace h0' : Hid (J [] w2) := HJ.out _ _ _ h0'.out n1
  replace H := H.new n1
  clear c0 c1 c2 c3 c4 c5 c6 t0 t1 t2 t3 t4 t5 t6 t7 t8 t9 b0 b1 b2 b3 kc n1
  obtain ⟨⟨c0, c1, c2, c3, c4, c5, c6⟩, ⟨t0, t1, t2, t3, t4, t5, t6, t7, t8, t9⟩, b0, b1, b2, b3⟩ := H.cs
  go_wp2_with fail
  refine (kl _).mono ?_
  rintro e w3 ⟨rfl, n1⟩
  replace h0' : Hid (J [] w3) := HJ.out _ _ _ h0'.out n1
  replace H := H.new n1
  clear c0 c1 c2 c3 c4 c5 c6 t0 t1 t2 t3 t4 t5 t6 t7 t8 t9 b0 b1 b2 b3 kl n1
  obtain ⟨⟨c0, c1, c2, c3, c4, c5, c6⟩, ⟨t0, t1, t2, t3, t4, t5, t6, t7, t8, t9⟩, b0, b1, b2, b3⟩ := H.cs
  go_wp2_with fail
  go_quiet (fail)
  simp only [mx3]
  rw [egx0, egz0]
  go_wp2_with fail
  go_quiet (fail)
  simp only [mn3]
  rw [egx1, egz1]
  generalize hW : World.drewN (World.drewN _ _) _ = w4
  have n4 : New w3 w4 := by subst hW; (repeat (first | (with_reducible exact New.refl _) | (with_reducible assumption) | ((with_reducible refine New.setB ?_ ?_ _); focus (first | omega | (simp; omega) | (simp; done))) | (with_reducible refine New.alloc ?_ _) | (with_reducible refine New.drew ?_) | (with_reducible refine New.drewN ?_ _) | (with_reducible refine New.hat ?_ _) | ((with_reducible apply New.snart); (with_reducible assumption))))
  clear hW
  replace h0' : Hid (J [] w4) := HJ.out _ _ _ h0'.out n4
  replace H := H.new n4
  clear c0 c1 c2 c3 c4 c5 c6 t0 t1 t2 t3 t4 t5 t6 t7 t8 t9 b0 b1 b2 b3 n4 egx0 egx1 egz0 egz1
  go_wp2_with fail
  refine (wpIn_wide (n := n)).1 ?_
  gi_loopw [14] (fun vz wr => ∃ j : Nat, vz = .int .i64 (gz0 T b + j) ∧ j ≤ gkz C T b ∧ Hid (J (elGrid C T b (gx0 T b) (gz0 T b) (gkx C T b) j) wr) ∧ Three C T b Bc Bt Bb wr)
    (fun vz _ => (gz1 C T b + 1 - intOf vz).toNat)
  case atStart => exact ⟨0, by simp, Nat.zero_le _, h0', H⟩
  case round =>
    clear h0' H
    obtain ⟨j, rfl, hj, hJ1, H⟩ := hrel
    by_cases hjz : j < gkz C T b
    · have hle : gz0 T b + (j : Int) ≤ gz1 C T b := by unfold gkz at hjz; omega
      have hz31 : gz0 T b + (j : Int) ≤ 31 := by unfold gz1 at hle; omega
      have hz00 : 0 ≤ gz0 T b := by unfold gz0; omega
      gi_wp2_with fail
      gi_loopw [15] (fun vx wr2 => ∃ i : Nat, vx = .int .i64 (gx0 T b + i) ∧ i ≤ gkx C T b ∧ Hid (J (elGrid C T b (gx0 T b) (gz0 T b) (gkx C T b) j ++ elRow C T b (gx0 T b) (gz0 T b + j) i) wr2) ∧ Three C T b Bc Bt Bb wr2)
        (fun vx _ => (gx1 C T b + 1 - intOf vx).toNat)
      case atStart => exact ⟨0, by simp, Nat.zero_le _, by show J _ _; simpa [elRow] using hJ1.out, H⟩
      case round =>
        clear hJ1 H
        obtain ⟨i, rfl, hi, hJ2, H⟩ := hrel
        by_cases hix : i < gkx C T b
        · have hle2 : gx0 T b + (i : Int) ≤ gx1 C T b := by unfold gkx at hix; omega
          have hx31 : gx0 T b + (i : Int) ≤ 31 := by unfold gx1 at hle2; omega
          have hx00 : 0 ≤ gx0 T b := by unfold gx0; omega
          have hin : b.inside (gx0 T b + i) (gz0 T b + j) := by
            unfold Bx.inside
            unfold gx1 at hle2
            unfold gz1 at hle
            have h1 : b.x ≤ gx0 T b := by unfold gx0; omega
            have h2 : b.z ≤ gz0 T b := by unfold gz0; omega
            omega
          have hlen : (elGrid C T b (gx0 T b) (gz0 T b) (gkx C T b) j ++ elRow C T b (gx0 T b) (gz0 T b + j) i).length < 1024 := by
            rw [List.length_append]
            have l1 := elGrid_len C T b (gx0 T b) (gz0 T b) (gkx C T b) j
            have l2 := elRow_len C T b (gx0 T b) (gz0 T b + j) i
            have k1 : gkx C T b ≤ 32 := by unfold gkx gx0 gx1; omega
            have k2 : gkz C T b ≤ 32 := by unfold gkz gz0 gz1; omega
            have l3 : j * gkx C T b ≤ 31 * gkx C T b := Nat.mul_le_mul (by omega) (Nat.le_refl _)
            omega
          have hnext := elRow_succ C T b (gx0 T b) (gz0 T b + j) i
          have kov := fun W => k_over T (gx0 T b + i) (gz0 T b + j) W
          obtain ⟨-, ⟨t0, t1, t2, t3, t4, t5, t6, t7, t8, t9⟩, -⟩ := H.cs
          cases ho : ovB T (gx0 T b + i) (gz0 T b + j) with
          | false =>
            rw [elL_none ho, List.append_nil] at hnext
            have HN := Lib.hid hnext
            clear hnext
            simp only [ho] at kov
            replace kov := Lib.hid kov
            have hin' := Lib.hid hin
            have hlen' := Lib.hid hlen
            clear hin hlen ho
            gi_wp2_with (refine ⟨trivial, ?_⟩; gi_at_call 62; refine (callsIn_wide.2 (kov.out _)).mono ?_; rintro e w5 ⟨rfl, n5⟩; replace H := H.new n5; replace hJ2 : Hid (J _ w5) := HJ.out _ _ _ hJ2.out n5; clear t0 t1 t2 t3 t4 t5 t6 t7 t8 t9 n5)
            refine ⟨trivial, ?_⟩
            gi_wp2_with fail
            refine ⟨fun _ h => (by cases h), ?_⟩
            gi_wp2_with fail
            go_roundw
            case rel => exact ⟨i + 1, by congr 1; omega, by omega, by show J _ _; rw [HN.out]; exact hJ2.out, H⟩
            case measure => simp [intOf]; omega
          | true =>
            rw [elL_some hin ho] at hnext
            obtain ⟨e, he, he1, he2⟩ : ∃ e : El b.n, e = ⟨((b.pl (gx0 T b + i) (gz0 T b + j)).toNat, ⟨ovLo T (gx0 T b + i) (gz0 T b + j), ovHi T (gx0 T b + i) (gz0 T b + j), walkT C T⟩), (Bx.pl_lt hin).2.2⟩ ∧ (e.1.1 : Int) = b.pl (gx0 T b + i) (gz0 T b + j) ∧ e.1.2 = ⟨ovLo T (gx0 T b + i) (gz0 T b + j), ovHi T (gx0 T b + i) (gz0 T b + j), walkT C T⟩ :=
              ⟨_, rfl, Int.toNat_of_nonneg (Bx.pl_lt hin).1, rfl⟩
            rw [← he] at hnext
            have HN := Lib.hid hnext
            have hex : elL C T b (gx0 T b + i) (gz0 T b + j) ≠ [] := by rw [elL_some hin ho]; simp
            have HX : Hid (elAll C T b ≠ []) := Lib.hid (el_in hix hjz hex)
            have hyall := fun W q => HY.out (elGrid C T b (gx0 T b) (gz0 T b) (gkx C T b) j ++ elRow C T b (gx0 T b) (gz0 T b + j) i) e W q hlen
            rw [he1, he2] at hyall
            have kpl := fun W => a_place b hb _ _ hin W
            simp only [ho] at kov
            replace kov := Lib.hid kov
            replace kpl := Lib.hid kpl
            have HYA := Lib.hid hyall
            clear hnext hyall hin hlen ho hex he1 he2 he
            gi_wp2_with (first
              | (refine ⟨trivial, ?_⟩; gi_at_call 62; refine (callsIn_wide.2 (kov.out _)).mono ?_; rintro e' w5 ⟨rfl, n5⟩; replace H := H.new n5; replace hJ2 : Hid (J _ w5) := HJ.out _ _ _ hJ2.out n5; clear t0 t1 t2 t3 t4 t5 t6 t7 t8 t9 n5; obtain ⟨-, -, b0, b1, b2, b3⟩ := H.cs)
              | (refine ⟨trivial, ?_⟩; gi_at_call 63; refine (callsIn_wide.2 (kpl.out _)).mono ?_; rintro e' w6 ⟨rfl, n6⟩; replace H := H.new n6; replace hJ2 : Hid (J _ w6) := HJ.out _ _ _ hJ2.out n6; clear b0 b1 b2 b3 n6; (obtain ⟨fn, tmps, assign, body, hy, hR⟩ := HYA.out w6 hJ2.out)))
            refine hR.mono ?_
            clear hy hR
            rintro e' W5 (⟨rfl, hJ5, hk5⟩ | ⟨rfl, hJx5⟩)
            · replace H := H.same hk5
              clear hk5
              gi_wp2_with fail
              go_roundw
              case rel => exact ⟨i + 1, by congr 1; omega, by omega, by show J _ _; rw [HN.out, ← List.append_assoc]; exact hJ5, H⟩
              case measure => simp [intOf]; omega
            · gi_wp2_with fail
              refine bodyPost_ret (results_none rfl _ _ _) rfl ?_
              exact ⟨⟨_, rfl⟩, .inr ⟨_, HX.out, hJx5⟩⟩
        · have hle2 : ¬ (gx0 T b + (i : Int) ≤ gx1 C T b) := by unfold gkx at hix; omega
          obtain rfl : i = gkx C T b := by omega
          gi_wp2_with fail
          go_roundw
          case rel => exact ⟨j + 1, by congr 1; omega, by omega, by show J _ _; rw [elGrid_succ]; exact hJ2.out, H⟩
          case measure => simp [intOf]; omega
    · have hle : ¬ (gz0 T b + (j : Int) ≤ gz1 C T b) := by unfold gkz at hjz; omega
      obtain rfl : j = gkz C T b := by omega
      gi_wp2_with fail
      go_end0
      exact ⟨⟨_, rfl⟩, .inl hJ1.out⟩

end Go.Proofs.YtklopjbpfddgfaaGreat

/- Package raster: pieces: its contract, for a caller that ranges over it. -/
namespace Go.Proofs.YtklopjbpfddgfaaGreat
open Go.RowKit Go.Shelf Go.Sort
set_option linter.unusedVariables false
attribute [local go_sem] Oper.semAt_some

/-- The three variables lie as they lay. -/
def KeepThree (Bc Bt Bb : Nat) (W W' : World) : Prop := W'.heap[Bc]? = W.heap[Bc]? ∧ W'.heap[Bt]? = W.heap[Bt]? ∧ W'.heap[Bb]? = W.heap[Bb]?
theorem KeepThree.trans {Bc Bt Bb : Nat} {X Y Z : World} (h : KeepThree Bc Bt Bb X Y) (k : KeepThree Bc Bt Bb Y Z) : KeepThree Bc Bt Bb X Z := ⟨k.1.trans h.1, k.2.1.trans h.2.1, k.2.2.trans h.2.2⟩
def elA {N : Nat} (e : El N) : Array Value := #[.int .i64 e.1.1, .agg #[.int .i64 e.1.2.lo, .int .i64 e.1.2.hi, .bool e.1.2.wk]]

theorem Three.grown {C : CfgR} {T : TriR} {b : Bx} {Bc Bt Bb : Nat} {w W : World} (h : Three C T b Bc Bt Bb w) (n : Below w.heap.size w W) : Three C T b Bc Bt Bb W :=
  ⟨(n.block Bc (Array.getElem?_eq_some_iff.1 h.c).1).trans h.c, (n.block Bt (Array.getElem?_eq_some_iff.1 h.t).1).trans h.t, (n.block Bb (Array.getElem?_eq_some_iff.1 h.b).1).trans h.b⟩

theorem p_stops (C : CfgR) (T : TriR) (b : Bx) (hC : C.fine) (hT : okT T = true) (hb : b.ok) (n : Nat) (hn : 1 ≤ n) (Bc Bt Bb : Nat) (w : World) (H : Three C T b Bc Bt Bb w) :
    SeqStopsK Fence.wide n Tryz.prog 58 #[.pointer (some ⟨Bc, 0, none⟩), .pointer (some ⟨Bt, 0, none⟩), .pointer (some ⟨Bb, 0, none⟩)] (fun e : El b.n => elA e) (KeepThree Bc Bt Bb)
      (fun ys => ys = elAll C T b) (fun _ => elAll C T b ≠ []) 1024 w := fun l J Jx W hW hJ _ hY h0 =>
  p_each C T b hC hT hb n l Bc Bt Bb hn J Jx hY W (fun _ _ _ h k => hJ _ _ _ none h (new_gro k) (fun r e => by cases e)) (H.grown hW) h0

theorem p_pieces (C : CfgR) (T : TriR) (b : Bx) (n : Nat) (w : World) :
    CallsIn Fence.wide n Tryz.prog 44 #[.agg #[.int .i64 C.cl, .int .i64 C.cb, .int .i64 C.ht, .int .i64 C.ri, .int .i64 C.ru, .int .i64 C.wd, .int .i64 C.dp], .agg #[.int .i64 T.i, .int .i64 T.x0, .int .i64 T.y0, .int .i64 T.z0, .int .i64 T.x1, .int .i64 T.y1, .int .i64 T.z1, .int .i64 T.x2, .int .i64 T.y2, .int .i64 T.z2], .agg #[.int .i64 b.x, .int .i64 b.z, .int .i64 b.w, .int .i64 b.d]] w fun e w' =>
      e = .returned (.func (.func 58) #[] #[.pointer (some ⟨w.heap.size, 0, none⟩), .pointer (some ⟨w.heap.size + 1, 0, none⟩), .pointer (some ⟨w.heap.size + 2, 0, none⟩)]) ∧ New w w' ∧ Three C T b w.heap.size (w.heap.size + 1) (w.heap.size + 2) w' ∧ w'.heap.size = w.heap.size + 3 := by
  refine callsIn_of_wp Tryz.func44 rfl trivial ?_ rfl
  simp only [Tryz.ntmps44, List.size_toArray, List.length_cons, List.length_nil, Nat.reduceAdd, Nat.reduceSub, Array.replicate_succ, Array.replicate_zero, List.push_toArray, List.append_toArray, List.nil_append, List.cons_append]
  gi_wp2
  go_ret
  refine ⟨rfl, by (repeat (first | (with_reducible exact New.refl _) | (with_reducible assumption) | ((with_reducible refine New.setB ?_ ?_ _); focus (first | omega | (simp; omega) | (simp; done))) | (with_reducible refine New.alloc ?_ _) | (with_reducible refine New.drew ?_) | (with_reducible refine New.drewN ?_ _) | (with_reducible refine New.hat ?_ _) | ((with_reducible apply New.snart); (with_reducible assumption)))), ⟨?_, ?_, ?_⟩, by simp⟩
  · exact (Below.heap_alloc _ _ _ (by simp; omega)).trans ((Below.heap_alloc _ _ _ (by simp)).trans (World.alloc_heap_new w _))
  · have h := World.alloc_heap_new (w.alloc (.cells (cfgA C) 23)) (.cells (triA T) 83)
    rw [World.size_alloc] at h
    exact (Below.heap_alloc _ _ _ (by simp)).trans h
  · have h := World.alloc_heap_new ((w.alloc (.cells (cfgA C) 23)).alloc (.cells (triA T) 83)) (.cells (boxA b) 68)
    rw [World.size_alloc, World.size_alloc] at h
    exact h

end Go.Proofs.YtklopjbpfddgfaaGreat
