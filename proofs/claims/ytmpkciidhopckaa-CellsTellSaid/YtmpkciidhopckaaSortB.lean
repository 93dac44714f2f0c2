/- sort.insertionSort_func, whatever the comparison lays. -/
import Derived.Test.YtmpkciidhopckaaSortA
namespace Go.Proofs.Ytmpkciidhopckaa
open Go.RowKit Go.Sort Go.Shelf Go.Lib
set_option linter.unusedVariables false
variable {α : Type} [Inhabited α] {g : Nat} {lb : Array Value} {sf : Nat} {sb : Array Value} {enc : α → List Value} {k : Nat} {lt : α → α → Bool} {blk off n : Nat} {w0 : World}

set_option maxHeartbeats 2000000 in
set_option maxRecDepth 100000 in
theorem s_ins (C : Sorting Try.prog g lb sf sb enc k lt blk off n w0) (a b : Nat) (d : Array α) (w : World) (hR : Row enc k blk off n w0 d w) (hab : a ≤ b) (hb : b ≤ n) :
    Calls Try.prog 88 #[.agg #[.func (.func g) #[] lb, .func (.func sf) #[] sb], .int .i64 a, .int .i64 b] w fun e w' =>
      e = .returned (.tuple #[]) ∧ But blk w w' ∧ Row enc k blk off n w0 (insertionSort lt d a b) w' := by
  have hn := C.small
  have eg := C.eg
  have hB : blk ≠ w.heap.size := by have := hR.le; have := C.lt0; omega
  go_enter Try.func88, Try.ntmps88
  go_wp2
  obtain ⟨w1, hw1⟩ : ∃ w1, w1 = w.alloc (.cells #[.func (.func g) #[] lb, .func (.func sf) #[] sb] 99) := ⟨_, rfl⟩
  have hR1 : Row enc k blk off n w0 d w1 := by subst hw1; exact hR.alloc _
  have n1 : New w w1 := by subst hw1; (repeat (first | (with_reducible exact New.refl _) | (with_reducible assumption) | ((with_reducible refine New.setB ?_ ?_ _); focus (first | omega | (simp; omega) | (simp; done))) | (with_reducible refine New.alloc ?_ _) | (with_reducible refine New.drew ?_) | (with_reducible refine New.drewN ?_ _) | (with_reducible refine New.hat ?_ _) | ((with_reducible apply New.snart); (with_reducible assumption))))
  have b0 : w1.cell? ⟨w.heap.size, 0, none⟩ = some (.func (.func g) #[] lb) := by subst hw1; go_simp
  have b1 : w1.cell? ⟨w.heap.size, 1, none⟩ = some (.func (.func sf) #[] sb) := by subst hw1; go_simp
  rw [← hw1]
  clear hw1
  go_loopw [6] (fun vi wr => ∃ (i : Nat) (dk : Array α), vi = .int .i64 i ∧ a < i ∧ i ≤ b + 1 ∧ But blk w1 wr ∧ Row enc k blk off n w0 dk wr ∧ insOuter lt a b i dk = insOuter lt a b (a + 1) d) (fun vi _ => b + 1 - (intOf vi).toNat)
  case atStart => exact ⟨a + 1, d, by go_num, by omega, by omega, But.refl _ _, hR1, rfl⟩
  case round =>
    obtain ⟨i, dk, rfl, hai, hib, hBw, hRk, hO⟩ := hrel
    have HO : Hid (insOuter lt a b i dk = insOuter lt a b (a + 1) d) := hO
    clear hO
    go_wp2
    · go_loopw [7] (fun vj wr2 => ∃ (j : Nat) (dj : Array α), vj = .int .i64 j ∧ a ≤ j ∧ j ≤ i ∧ But blk w1 wr2 ∧ Row enc k blk off n w0 dj wr2 ∧ insInner lt a j dj = insInner lt a i dk) (fun vj _ => (intOf vj).toNat)
      case atStart => exact ⟨i, dk, rfl, by omega, Nat.le_refl _, hBw, hRk, rfl⟩
      case round =>
        clear hBw hRk
        obtain ⟨j, dj, rfl, haj, hji, hBw, hRj, hI⟩ := hrel
        have hlt : i < b := by assumption
        have c0 := hBw.keep b0 hB.symm
        have c1 := hBw.keep b1 hB.symm
        have HI : Hid (insInner lt a j dj = insInner lt a i dk) := hI
        clear hI
        have OUT : Hid ((j ≤ a ∨ lt dj[j]! dj[j - 1]! = false) → ∀ W, But blk w1 W → Row enc k blk off n w0 dj W → ∃ (i' : Nat) (dk' : Array α), Value.int .i64 ((i : Int) + 1) = .int .i64 i' ∧ a < i' ∧ i' ≤ b + 1 ∧ But blk w1 W ∧ Row enc k blk off n w0 dk' W ∧ insOuter lt a b i' dk' = insOuter lt a b (a + 1) d) := fun hs W p q =>
          ⟨i + 1, dj, by go_num, by omega, by omega, p, q, by rw [← HO.out, insOuter_go _ _ _ _ _ hlt, ← HI.out, insInner_stop _ _ _ _ hs]⟩
        by_cases hja : a < j
        · cases hlv : lt dj[j]! dj[j - 1]! with
          | true =>
            have hl := C.at hRj j (j - 1) (by omega) (by omega) hlv
            rw [show (((j - 1 : Nat) : Int)) = (j : Int) - 1 by omega] at hl
            go_wp2_with (go_at_fn g; refine hl.mono ?_; rintro e w2 ⟨rfl, n2⟩; have c1 := n2.keep c1)
            obtain ⟨w3, hs, p3, r3⟩ := C.swp (hRj.new n2) j (j - 1) (by omega) (by omega)
            rw [show (((j - 1 : Nat) : Int)) = (j : Int) - 1 by omega] at hs
            rw [hs, Oper.upon_value]
            go_wp2
            go_roundw
            case rel =>
              (repeat apply Exists.intro)
              refine ⟨⟨j - 1, swp dj j (j - 1), by congr 1 <;> omega, by omega, by omega, (hBw.new n2).trans p3, r3, ?_⟩, by rw [decide_eq_true hlt, show ((j - 1 : Nat) : Int) = (j : Int) - 1 by omega]⟩
              rw [← HI.out, insInner_go lt a j dj hja hlv]
            case measure => simp [intOf]; omega
          | false =>
            have hl := C.at hRj j (j - 1) (by omega) (by omega) hlv
            rw [show (((j - 1 : Nat) : Int)) = (j : Int) - 1 by omega] at hl
            go_wp2_with (go_at_fn g; refine hl.mono ?_; rintro e w2 ⟨rfl, n2⟩)
            go_roundw
            case rel => exact OUT.out (Or.inr hlv) _ (hBw.new n2) (hRj.new n2)
            case measure => simp [intOf]; omega
        · go_wp2
          go_roundw
          case rel => exact OUT.out (Or.inl (by omega)) _ hBw hRj
          case measure => simp [intOf]; omega
    · have hge : ¬ i < b := by assumption
      go_end0
      refine ⟨rfl, hBw.snd n1, ?_⟩
      unfold Sort.insertionSort
      rw [← HO.out, insOuter_stop _ _ _ _ _ hge]
      exact hRk

end Go.Proofs.Ytmpkciidhopckaa
