/- sort.siftDown_func, whatever the comparison lays. -/
import Derived.Test.YtmpkciidhopckaaSortA
import Derived.Sort.WalkB2
namespace Go.Proofs.Ytmpkciidhopckaa
open Go.RowKit Go.Sort Go.Shelf Go.Lib
set_option linter.unusedVariables false
variable {α : Type} [Inhabited α] {g : Nat} {lb : Array Value} {sf : Nat} {sb : Array Value} {enc : α → List Value} {k : Nat} {lt : α → α → Bool} {blk off n : Nat} {w0 : World}

set_option maxHeartbeats 2000000 in
set_option maxRecDepth 100000 in
theorem s_sift (C : Sorting Try.prog g lb sf sb enc k lt blk off n w0) (lo hi first : Nat) (d : Array α) (w : World) (hR : Row enc k blk off n w0 d w) (hlo : lo ≤ hi) (hb : first + hi ≤ n) :
    Calls Try.prog 98 #[.agg #[.func (.func g) #[] lb, .func (.func sf) #[] sb], .int .i64 lo, .int .i64 hi, .int .i64 first] w fun e w' =>
      e = .returned (.tuple #[]) ∧ But blk w w' ∧ Row enc k blk off n w0 (siftDown lt hi first lo d) w' := by
  have hn := C.small
  have eg := C.eg
  have hB : blk ≠ w.heap.size := by have := hR.le; have := C.lt0; omega
  go_enter Try.func98, Try.ntmps98
  go_wp2
  obtain ⟨w1, hw1⟩ : ∃ w1, w1 = w.alloc (.cells #[.func (.func g) #[] lb, .func (.func sf) #[] sb] 99) := ⟨_, rfl⟩
  have hR1 : Row enc k blk off n w0 d w1 := by subst hw1; exact hR.alloc _
  have n1 : New w w1 := by subst hw1; (repeat (first | (with_reducible exact New.refl _) | (with_reducible assumption) | ((with_reducible refine New.setB ?_ ?_ _); focus (first | omega | (simp; omega) | (simp; done))) | (with_reducible refine New.alloc ?_ _) | (with_reducible refine New.drew ?_) | (with_reducible refine New.drewN ?_ _) | (with_reducible refine New.hat ?_ _) | ((with_reducible apply New.snart); (with_reducible assumption))))
  have b0 : w1.cell? ⟨w.heap.size, 0, none⟩ = some (.func (.func g) #[] lb) := by subst hw1; go_simp
  have b1 : w1.cell? ⟨w.heap.size, 1, none⟩ = some (.func (.func sf) #[] sb) := by subst hw1; go_simp
  rw [← hw1]
  clear hw1
  go_loopg [8] (hi - lo) (fun kx s8 wr => ∃ (root : Nat) (dk : Array α), s8 = .int .i64 root ∧ root ≤ hi ∧ hi - root ≤ kx ∧ But blk w1 wr ∧ Row enc k blk off n w0 dk wr ∧ Hid (siftDown lt hi first root dk = siftDown lt hi first lo d))
  case atStart => exact ⟨lo, d, rfl, hlo, Nat.le_refl _, But.refl _ _, hR1, rfl⟩
  case round =>
    obtain ⟨root, dk, rfl, hrh, hkx, hBw, hRk, hO⟩ := hrel
    have c0 := hBw.keep b0 hB.symm
    have c1 := hBw.keep b1 hB.symm
    have END : Hid (siftDown lt hi first root dk = dk → ∀ W, But blk w1 W → Row enc k blk off n w0 dk W → But blk w W ∧ Row enc k blk off n w0 (siftDown lt hi first lo d) W) := fun h W p q => ⟨p.snd n1, by rw [← hO.out, h]; exact q⟩
    -- the exchange of root and child c, and the next round
    have GO : Hid (∀ c, c < hi → root < c → siftDown lt hi first root dk = siftDown lt hi first c (swp dk (first + root) (first + c)) → ∀ W, But blk w1 W → Row enc k blk off n w0 dk W →
        ∃ W', (callFunc sf (#[.int .i64 ((first : Int) + (root : Int)), .int .i64 ((first : Int) + (c : Int))] ++ sb)).run Try.prog W = .ok (.value (.tuple #[])) W' ∧
          ∃ (root' : Nat) (dk' : Array α), Value.int .i64 (c : Int) = .int .i64 root' ∧ root' ≤ hi ∧ hi - root' ≤ hi - c ∧ But blk w1 W' ∧ Row enc k blk off n w0 dk' W' ∧ Hid (siftDown lt hi first root' dk' = siftDown lt hi first lo d)) := fun c hc hrc he W p q => by
      obtain ⟨W', a1, a2, a3⟩ := C.swp q (first + root) (first + c) (by omega) (by omega)
      exact ⟨W', by rw [← a1]; simp, c, _, rfl, by omega, Nat.le_refl _, p.trans a2, a3, by rw [← he]; exact hO⟩
    clear b0 b1 hO
    by_cases h0 : hi ≤ 2 * root + 1
    · go_wp2
      go_end0
      exact ⟨rfl, END.out (sd_end lt dk h0) _ hBw hRk⟩
    · have h0' : 2 * root + 1 < hi := by omega
      by_cases h1 : 2 * root + 2 < hi
      · cases hL : lt dk[first + (2 * root + 1)]! dk[first + (2 * root + 2)]! with
        | true =>
          have hl := C.at hRk (first + (2 * root + 1)) (first + (2 * root + 2)) (by omega) (by omega) hL
          rw [show (((first + (2 * root + 1) : Nat) : Int)) = (first : Int) + (2 * (root : Int) + 1) by omega, show (((first + (2 * root + 2) : Nat) : Int)) = (first : Int) + (2 * (root : Int) + 1) + 1 by omega] at hl
          cases hG : lt dk[first + root]! dk[first + (2 * root + 2)]! with
          | true =>
            go_wp2_with (go_at_fn g; refine hl.mono ?_; rintro e w2 ⟨rfl, n2⟩; have c1 := n2.keep c1; have c0 := n2.keep c0)
            have hm := C.at (hRk.new n2) (first + root) (first + (2 * root + 2)) (by omega) (by omega) hG
            rw [show (((first + root : Nat) : Int)) = (first : Int) + (root : Int) by omega, show (((first + (2 * root + 2) : Nat) : Int)) = (first : Int) + (2 * (root : Int) + 1 + 1) by omega] at hm
            go_wp2_with (go_at_fn g; refine hm.mono ?_; rintro e w3 ⟨rfl, n3⟩; have c1 := n3.keep c1)
            obtain ⟨w4, s4, r4⟩ := GO.out (2 * root + 2) h1 (by omega) (sd_right_go lt dk h1 hL hG) w3 ((hBw.new n2).new n3) ((hRk.new n2).new n3)
            rw [show (((2 * root + 2 : Nat) : Int)) = 2 * (root : Int) + 1 + 1 by omega] at s4 r4
            rw [s4, Oper.upon_value]
            go_wp2
            go_roundg (hi - (2 * root + 2))
            case measure => omega
            case rel => exact r4
          | false =>
            go_wp2_with (go_at_fn g; refine hl.mono ?_; rintro e w2 ⟨rfl, n2⟩; have c1 := n2.keep c1; have c0 := n2.keep c0)
            have hm := C.at (hRk.new n2) (first + root) (first + (2 * root + 2)) (by omega) (by omega) hG
            rw [show (((first + root : Nat) : Int)) = (first : Int) + (root : Int) by omega, show (((first + (2 * root + 2) : Nat) : Int)) = (first : Int) + (2 * (root : Int) + 1 + 1) by omega] at hm
            go_wp2_with (go_at_fn g; refine hm.mono ?_; rintro e w3 ⟨rfl, n3⟩; have c1 := n3.keep c1)
            (try simp only [Exit.inBlock, Exit.then]); refine bodyPost_ret (results_none rfl _ _ _) rfl ?_
            exact ⟨rfl, END.out (sd_right_stop lt dk h1 hL hG) _ ((hBw.new n2).new n3) ((hRk.new n2).new n3)⟩
        | false =>
          have hl := C.at hRk (first + (2 * root + 1)) (first + (2 * root + 2)) (by omega) (by omega) hL
          rw [show (((first + (2 * root + 1) : Nat) : Int)) = (first : Int) + (2 * (root : Int) + 1) by omega, show (((first + (2 * root + 2) : Nat) : Int)) = (first : Int) + (2 * (root : Int) + 1) + 1 by omega] at hl
          cases hG : lt dk[first + root]! dk[first + (2 * root + 1)]! with
          | true =>
            go_wp2_with (go_at_fn g; refine hl.mono ?_; rintro e w2 ⟨rfl, n2⟩; have c1 := n2.keep c1; have c0 := n2.keep c0)
            have hm := C.at (hRk.new n2) (first + root) (first + (2 * root + 1)) (by omega) (by omega) hG
            rw [show (((first + root : Nat) : Int)) = (first : Int) + (root : Int) by omega, show (((first + (2 * root + 1) : Nat) : Int)) = (first : Int) + (2 * (root : Int) + 1) by omega] at hm
            go_wp2_with (go_at_fn g; refine hm.mono ?_; rintro e w3 ⟨rfl, n3⟩; have c1 := n3.keep c1)
            obtain ⟨w4, s4, r4⟩ := GO.out (2 * root + 1) h0' (by omega) (sd_left_go lt dk h0' (fun _ => hL) hG) w3 ((hBw.new n2).new n3) ((hRk.new n2).new n3)
            rw [show (((2 * root + 1 : Nat) : Int)) = 2 * (root : Int) + 1 by omega] at s4 r4
            rw [s4, Oper.upon_value]
            go_wp2
            go_roundg (hi - (2 * root + 1))
            case measure => omega
            case rel => exact r4
          | false =>
            go_wp2_with (go_at_fn g; refine hl.mono ?_; rintro e w2 ⟨rfl, n2⟩; have c1 := n2.keep c1; have c0 := n2.keep c0)
            have hm := C.at (hRk.new n2) (first + root) (first + (2 * root + 1)) (by omega) (by omega) hG
            rw [show (((first + root : Nat) : Int)) = (first : Int) + (root : Int) by omega, show (((first + (2 * root + 1) : Nat) : Int)) = (first : Int) + (2 * (root : Int) + 1) by omega] at hm
            go_wp2_with (go_at_fn g; refine hm.mono ?_; rintro e w3 ⟨rfl, n3⟩; have c1 := n3.keep c1)
            (try simp only [Exit.inBlock, Exit.then]); refine bodyPost_ret (results_none rfl _ _ _) rfl ?_
            exact ⟨rfl, END.out (sd_left_stop lt dk h0' (fun _ => hL) hG) _ ((hBw.new n2).new n3) ((hRk.new n2).new n3)⟩
      · cases hG : lt dk[first + root]! dk[first + (2 * root + 1)]! with
        | true =>
          have hm := C.at hRk (first + root) (first + (2 * root + 1)) (by omega) (by omega) hG
          rw [show (((first + root : Nat) : Int)) = (first : Int) + (root : Int) by omega, show (((first + (2 * root + 1) : Nat) : Int)) = (first : Int) + (2 * (root : Int) + 1) by omega] at hm
          go_wp2_with (go_at_fn g; refine hm.mono ?_; rintro e w3 ⟨rfl, n3⟩; have c1 := n3.keep c1)
          obtain ⟨w4, s4, r4⟩ := GO.out (2 * root + 1) h0' (by omega) (sd_left_go lt dk h0' (fun h => absurd h h1) hG) w3 (hBw.new n3) (hRk.new n3)
          rw [show (((2 * root + 1 : Nat) : Int)) = 2 * (root : Int) + 1 by omega] at s4 r4
          rw [s4, Oper.upon_value]
          go_wp2
          go_roundg (hi - (2 * root + 1))
          case measure => omega
          case rel => exact r4
        | false =>
          have hm := C.at hRk (first + root) (first + (2 * root + 1)) (by omega) (by omega) hG
          rw [show (((first + root : Nat) : Int)) = (first : Int) + (root : Int) by omega, show (((first + (2 * root + 1) : Nat) : Int)) = (first : Int) + (2 * (root : Int) + 1) by omega] at hm
          go_wp2_with (go_at_fn g; refine hm.mono ?_; rintro e w3 ⟨rfl, n3⟩; have c1 := n3.keep c1)
          (try simp only [Exit.inBlock, Exit.then]); refine bodyPost_ret (results_none rfl _ _ _) rfl ?_
          exact ⟨rfl, END.out (sd_left_stop lt dk h0' (fun h => absurd h h1) hG) _ (hBw.new n3) (hRk.new n3)⟩

end Go.Proofs.Ytmpkciidhopckaa
