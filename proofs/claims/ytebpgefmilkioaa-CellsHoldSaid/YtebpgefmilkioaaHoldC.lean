/- The law of points, walked: places that are no whole points. -/
import Derived.Test.YtebpgefmilkioaaCellsV
import Derived.Test.YtebpgefmilkioaaSteady
import Derived.Deep.DeepCutAuto
import Derived.Deep.LoopGhost
namespace Go.Proofs.Ytebpgefmilkioaa
open Go.RowKit
set_option linter.unusedVariables false

set_option maxRecDepth 100000 in
set_option maxHeartbeats 4000000 in
theorem hold_go (p0 q0 p1 q1 k n : Int) (hok : okB p0 q0 p1 q1 = true) (hp : (0 ≤ p0 ∧ p0 ≤ 64) ∧ (0 ≤ q0 ∧ q0 ≤ 64) ∧ (0 ≤ p1 ∧ p1 ≤ 64) ∧ (0 ≤ q1 ∧ q1 ≤ 64)) (hb : (1 ≤ n ∧ n ≤ 100) ∧ 0 ≤ k ∧ k ≤ n) (bx : -6400 ≤ (p1 - p0) * k ∧ (p1 - p0) * k ≤ 6400) (bz : -6400 ≤ (q1 - q0) * k ∧ (q1 - q0) * k ≤ 6400) (tx tz : Int) (rx : (((p1 - p0) * k).tmod n != 0) = false) (rz : (((q1 - q0) * k).tmod n != 0) = false) (dx : ((p1 - p0) * k).tdiv n = tx) (dz : ((q1 - q0) * k).tdiv n = tz) (mx : tx * n = (p1 - p0) * k) (mz : tz * n = (q1 - q0) * k) (sx : 0 ≤ p0 + tx ∧ p0 + tx ≤ 64) (sz : 0 ≤ q0 + tz ∧ q0 + tz ≤ 64) (w : World) :
    Calls Try.prog 5 #[.agg #[.int .i64 p0, .int .i64 q0], .agg #[.int .i64 p1, .int .i64 q1], .int .i64 k, .int .i64 n] w fun e w' => e = .returned (.bool true) ∧ New w w' := by
  have g0 : decide (n < 1) = false := decide_eq_false (by omega)
  have g1 : decide ((100 : Int) < n) = false := decide_eq_false (by omega)
  have g2 : decide (k < 0) = false := decide_eq_false (by omega)
  have g3 : decide (n < k) = false := decide_eq_false (by omega)
  have g4 : (n == 0) = false := by rw [beq_eq_false_iff_ne]; omega
  obtain ⟨HT, hany⟩ := told_holds hok hb.1.1 hb.1.2 hb.2.1 hb.2.2 (px := p0 + tx) (pz := q0 + tz) (by rw [Int.add_mul, mx]) (by rw [Int.add_mul, mz])
  have hlen := (told_facts hok).2.1
  have CC := Lib.hid (fun W => c_cells p0 q0 p1 q1 W)
  have e0 : errOf p0 q0 p1 q1 = 0 := by unfold errOf; rw [hok]; rfl
  generalize told p0 q0 p1 q1 = L at *
  go_enter Try.func5, Try.ntmps5
  go_wp2_with fail
  generalize hW : World.alloc _ _ = W
  have a0 : W.cell? ⟨w.heap.size, 0, none⟩ = some (.int .i64 p0) := by subst hW; go_simp
  have a1 : W.cell? ⟨w.heap.size, 1, none⟩ = some (.int .i64 q0) := by subst hW; go_simp
  have b0 : W.cell? ⟨w.heap.size + 1, 0, none⟩ = some (.int .i64 p1) := by subst hW; go_simp
  have b1 : W.cell? ⟨w.heap.size + 1, 1, none⟩ = some (.int .i64 q1) := by subst hW; go_simp
  have hn : New w W := by subst hW; (repeat (first | (with_reducible exact New.refl _) | (with_reducible assumption) | ((with_reducible refine New.setB ?_ ?_ _); focus (first | omega | (simp; omega) | (simp; done))) | (with_reducible refine New.alloc ?_ _) | (with_reducible refine New.drew ?_) | (with_reducible refine New.drewN ?_ _) | (with_reducible refine New.hat ?_ _) | ((with_reducible apply New.snart); (with_reducible assumption))))
  clear hW
  refine (CC.out _).mono ?_
  rintro e w1 ⟨v, rfl, r1, n1⟩
  ((replace a0 := n1.keep a0); (replace a1 := n1.keep a1); (replace b0 := n1.keep b0); (replace b1 := n1.keep b1))
  rw [e0]
  have hn1 := hn.trans n1
  clear hn n1 CC
  have hpos : 0 < L.length := by cases L with | nil => simp at hany | cons => simp
  obtain ⟨g, cap, rfl, hcap, hc⟩ := r1.at hpos
  have HC := Lib.hid hc
  have HU := Lib.hid (fun m (hm : m < L.length) => HT L[m] (List.getElem_mem hm))
  clear r1 hc HT
  have hlt0 : w.heap.size < w1.heap.size := World.block_lt_of_cell? _ _ a0
  have hlt1 : w.heap.size + 1 < w1.heap.size := World.block_lt_of_cell? _ _ b0
  have hn0 : ¬ n = 0 := by omega
  go_upto_region 4 with fail
  (refine wp_region_steady1 26 25 11 (ob := .cells #[.int .i64 0, .int .i64 0] 23) (by kernel_rfl) (by kernel_rfl) rfl rfl rfl (fun _ _ => by kernel_rfl) (by kernel_rfl) (by simp) ?_; (intro hatc hatf; simp only [List.take_succ_cons, List.take_zero, List.drop_succ_cons, List.drop_zero]; (repeat (first | (refine mildWalk_made (by decide) ?_; simp only [Act.put, List.setIfInBounds_toArray, List.set_cons_zero, List.set_cons_succ]) | (refine mildWalk_step (by decide) (fun K hK => ?_); go_simp; first | (refine hK _ ?_; clear hK K) | (apply Exists.intro; refine ⟨fun _ => ?_, hK _ ?_⟩; (fail); clear hK K)))); refine mildWalk_nil ?_; (try simp only [List.setIfInBounds_toArray, List.set_cons_zero, List.set_cons_succ])))
  intro x b hb1 hh
  have hx : New w1 x.w := New.hat (New.refl w1) x
  have s0 := cell_of_heap (o := 0) hh rfl
  have s1 := cell_of_heap (o := 1) hh rfl
  have f0 := fun o => frozen_of_heap (o := o) hh
  clear hatc hatf hh
  go_upto_region 5 with fail
  refine Code.at (fun V hV => ?_)
  have n2 : New w1 V := by subst hV; have hz := hx.size; (repeat (first | (with_reducible exact New.refl _) | (with_reducible assumption) | ((with_reducible refine New.setB ?_ ?_ _); focus (first | omega | (simp; omega) | (simp; done))) | (with_reducible refine New.alloc ?_ _) | (with_reducible refine New.drew ?_) | (with_reducible refine New.drewN ?_ _) | (with_reducible refine New.hat ?_ _) | ((with_reducible apply New.snart); (with_reducible assumption))))
  have t0 : V.cell? ⟨b, 0, none⟩ = some (.int .i64 (p0 + tx)) := by subst hV; go_simp
  have t1 : V.cell? ⟨b, 1, none⟩ = some (.int .i64 (q0 + tz)) := by subst hV; go_simp
  clear hV s0 s1 f0 hx
  have hnV := hn1.trans n2
  clear hn1 a0 a1 b0 b1 rx rz dx dz mx mz hlt0 hlt1 e0
  go_wp2_with fail
  go_loopg [93, 12] L.length (fun j i f wr => ∃ m : Nat, m + j = L.length ∧ i = .int .i64 m ∧ f = .bool ((L.take m).any fun c => holdsB c.x c.z (p0 + tx) (q0 + tz)) ∧ New V wr)
  case atStart => exact ⟨0, by omega, rfl, rfl, New.refl _⟩
  case round =>
    obtain ⟨m, hm, rfl, rfl, hw⟩ := hrel
    replace t0 := hw.keep t0
    replace t1 := hw.keep t1
    by_cases hlt : m < L.length
    · obtain ⟨c0, c1, c2, c3, c4, c5⟩ := HC.out m hlt
      have hwm := n2.trans hw
      replace c0 := hwm.keep c0
      replace c1 := hwm.keep c1
      replace c2 := hwm.keep c2
      replace c3 := hwm.keep c3
      replace c4 := hwm.keep c4
      replace c5 := hwm.keep c5
      have hin := HU.out m hlt
      have gd := L[m].ok
      have hstep : (L.take (m + 1)).any (fun c => holdsB c.x c.z (p0 + tx) (q0 + tz)) = ((L.take m).any (fun c => holdsB c.x c.z (p0 + tx) (q0 + tz)) || holdsB L[m].x L[m].z (p0 + tx) (q0 + tz)) := by
        rw [List.take_succ_eq_append_getElem hlt, List.any_append]; simp
      have CL1 := Lib.hid (fun W => c_less k n L[m].m.fn L[m].m.fd W)
      have CL2 := Lib.hid (fun W => c_less L[m].m.ln L[m].m.ld k n W)
      have CH := Lib.hid (fun W => c_holds L[m].x L[m].z L[m].m.fn L[m].m.fd L[m].m.ln L[m].m.ld (p0 + tx) (q0 + tz) ⟨gd.1.1, gd.1.2.1⟩ gd.1.2.2 W)
      rw [← hin] at CH hstep
      generalize hF : (L.take m).any (fun c => holdsB c.x c.z (p0 + tx) (q0 + tz)) = F at *
      clear gd hin
      generalize lessB k n L[m].m.fn L[m].m.fd = A at *
      generalize lessB L[m].m.ln L[m].m.ld k n = B at *
      generalize L[m] = P at *
      obtain ⟨px, pz, ⟨pn, pd, pl, pk⟩, _⟩ := P
      simp only [] at *
      go_upto_region 9 with fail
      refine Code.at (fun Y hY => ?_)
      have n3 : New wr Y := by subst hY; (repeat (first | (with_reducible exact New.refl _) | (with_reducible assumption) | ((with_reducible refine New.setB ?_ ?_ _); focus (first | omega | (simp; omega) | (simp; done))) | (with_reducible refine New.alloc ?_ _) | (with_reducible refine New.drew ?_) | (with_reducible refine New.drewN ?_ _) | (with_reducible refine New.hat ?_ _) | ((with_reducible apply New.snart); (with_reducible assumption))))
      have x0 : Y.cell? ⟨wr.heap.size, 0, none⟩ = some (.int .i64 px) := by subst hY; go_simp
      have x1 : Y.cell? ⟨wr.heap.size, 1, none⟩ = some (.int .i64 pz) := by subst hY; go_simp
      have x2 : Y.cell? ⟨wr.heap.size, 2, none⟩ = some (.int .i64 pn) := by subst hY; go_simp
      have x3 : Y.cell? ⟨wr.heap.size, 3, none⟩ = some (.int .i64 pd) := by subst hY; go_simp
      have x4 : Y.cell? ⟨wr.heap.size, 4, none⟩ = some (.int .i64 pl) := by subst hY; go_simp
      have x5 : Y.cell? ⟨wr.heap.size, 5, none⟩ = some (.int .i64 pk) := by subst hY; go_simp
      clear hY c0 c1 c2 c3 c4 c5
      replace t0 := n3.keep t0
      replace t1 := n3.keep t1
      obtain ⟨X, hX⟩ : ∃ X, X = wr.heap.size := ⟨_, rfl⟩
      rw [← hX] at x0 x1 x2 x3 x4 x5 ⊢
      have hVY := hw.trans n3
      clear hX n3 hwm hw
      go_wp2_with fail
      refine (CL1.out _).mono ?_
      rintro e w4 ⟨rfl, n4⟩
      ((replace x0 := n4.keep x0); (replace x1 := n4.keep x1); (replace x2 := n4.keep x2); (replace x3 := n4.keep x3); (replace x4 := n4.keep x4); (replace x5 := n4.keep x5))
      replace t0 := n4.keep t0
      replace t1 := n4.keep t1
      cases A with
      | true =>
        cases B with
        | false =>
          have n5 := New.refl w4
          go_wp2_with fail
          refine (CH.out _).mono ?_
          rintro e w6 ⟨rfl, n6⟩
          have hnext := ((hVY.trans n4).trans n5).trans n6
          cases F with
          | false =>
            go_wp2_with fail
            go_roundg (L.length - (m + 1))
            case measure => omega
            case rel => exact ⟨m + 1, by omega, by go_num, (congrArg Value.bool hstep).symm, hnext⟩
          | true =>
            go_wp2_with fail
            go_roundg (L.length - (m + 1))
            case measure => omega
            case rel => exact ⟨m + 1, by omega, by go_num, (congrArg Value.bool hstep).symm, hnext⟩
        | true =>
          have n5 := New.refl w4
          go_wp2_with fail
          refine (CH.out _).mono ?_
          rintro e w6 ⟨rfl, n6⟩
          have hnext := ((hVY.trans n4).trans n5).trans n6
          cases F with
          | false =>
            go_wp2_with fail
            go_roundg (L.length - (m + 1))
            case measure => omega
            case rel => exact ⟨m + 1, by omega, by go_num, (congrArg Value.bool hstep).symm, hnext⟩
          | true =>
            go_wp2_with fail
            go_roundg (L.length - (m + 1))
            case measure => omega
            case rel => exact ⟨m + 1, by omega, by go_num, (congrArg Value.bool hstep).symm, hnext⟩
      | false =>
        cases B with
        | false =>
          go_wp2_with fail
          refine (CL2.out _).mono ?_
          rintro e w5 ⟨rfl, n5⟩
          ((replace x0 := n5.keep x0); (replace x1 := n5.keep x1); (replace x2 := n5.keep x2); (replace x3 := n5.keep x3); (replace x4 := n5.keep x4); (replace x5 := n5.keep x5))
          replace t0 := n5.keep t0
          replace t1 := n5.keep t1
          go_wp2_with fail
          refine (CH.out _).mono ?_
          rintro e w6 ⟨rfl, n6⟩
          have hnext := ((hVY.trans n4).trans n5).trans n6
          cases F with
          | false =>
            go_wp2_with fail
            go_roundg (L.length - (m + 1))
            case measure => omega
            case rel => exact ⟨m + 1, by omega, by go_num, (congrArg Value.bool hstep).symm, hnext⟩
          | true =>
            go_wp2_with fail
            go_roundg (L.length - (m + 1))
            case measure => omega
            case rel => exact ⟨m + 1, by omega, by go_num, (congrArg Value.bool hstep).symm, hnext⟩
        | true =>
          go_wp2_with fail
          refine (CL2.out _).mono ?_
          rintro e w5 ⟨rfl, n5⟩
          ((replace x0 := n5.keep x0); (replace x1 := n5.keep x1); (replace x2 := n5.keep x2); (replace x3 := n5.keep x3); (replace x4 := n5.keep x4); (replace x5 := n5.keep x5))
          replace t0 := n5.keep t0
          replace t1 := n5.keep t1
          go_wp2_with fail
          refine (CH.out _).mono ?_
          rintro e w6 ⟨rfl, n6⟩
          have hnext := ((hVY.trans n4).trans n5).trans n6
          cases F with
          | false =>
            go_wp2_with fail
            go_roundg (L.length - (m + 1))
            case measure => omega
            case rel => exact ⟨m + 1, by omega, by go_num, (congrArg Value.bool hstep).symm, hnext⟩
          | true =>
            go_wp2_with fail
            go_roundg (L.length - (m + 1))
            case measure => omega
            case rel => exact ⟨m + 1, by omega, by go_num, (congrArg Value.bool hstep).symm, hnext⟩
    · obtain rfl : m = L.length := by omega
      rw [List.take_length, hany]
      go_wp2_with fail
      refine (c_wakes _).mono ?_
      rintro e w4 ⟨rfl, n4⟩
      go_wp2_with fail
      go_ret
      exact ⟨rfl, (hnV.trans hw).trans n4⟩
end Go.Proofs.Ytebpgefmilkioaa
