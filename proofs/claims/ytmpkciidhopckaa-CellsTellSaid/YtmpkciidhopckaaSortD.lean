/- sort.heapSort_func, whatever the comparison lays. -/
import Derived.Test.YtmpkciidhopckaaSortC
import Derived.Sort.WalkB3
namespace Go.Proofs.Ytmpkciidhopckaa
open Go.RowKit Go.Sort Go.Shelf Go.Lib
set_option linter.unusedVariables false
variable {α : Type} [Inhabited α] {g : Nat} {lb : Array Value} {sf : Nat} {sb : Array Value} {enc : α → List Value} {k : Nat} {lt : α → α → Bool} {blk off n : Nat} {w0 : World}

theorem s_half {a b : Nat} (hab : a ≤ b) : ((b : Int) - (a : Int) - 1).tdiv 2 = (((b - a - 1) / 2 + 1 : Nat) : Int) - 1 := Go.Proofs.half_start hab

set_option maxHeartbeats 2000000 in
set_option maxRecDepth 100000 in
theorem s_heap (C : Sorting Try.prog g lb sf sb enc k lt blk off n w0) (a b : Nat) (d : Array α) (w : World) (hR : Row enc k blk off n w0 d w) (hab : a ≤ b) (hb : b ≤ n) :
    Calls Try.prog 89 #[.agg #[.func (.func g) #[] lb, .func (.func sf) #[] sb], .int .i64 a, .int .i64 b] w fun e w' =>
      e = .returned (.tuple #[]) ∧ But blk w w' ∧ Row enc k blk off n w0 (heapSort lt d a b) w' := by
  have ecast : ((b - a : Nat) : Int) = (b : Int) - (a : Int) := by omega
  (have hn := C.small; have eg := C.eg; have hB : blk ≠ w.heap.size := (by (have := hR.le; have := C.lt0; omega)); (go_enter Try.func89, Try.ntmps89); go_wp2; (obtain ⟨w1, hw1⟩ : ∃ w1, w1 = w.alloc (.cells #[.func (.func g) #[] lb, .func (.func sf) #[] sb] 99) := ⟨_, rfl⟩); (have hR1 : Row enc k blk off n w0 d w1 := by (subst hw1; exact hR.alloc _)); (have n1 : New w w1 := by (subst hw1; (repeat (first | (with_reducible exact New.refl _) | (with_reducible assumption) | ((with_reducible refine New.setB ?_ ?_ _); focus (first | omega | (simp; omega) | (simp; done))) | (with_reducible refine New.alloc ?_ _) | (with_reducible refine New.drew ?_) | (with_reducible refine New.drewN ?_ _) | (with_reducible refine New.hat ?_ _) | ((with_reducible apply New.snart); (with_reducible assumption)))))); (have b0 : w1.cell? ⟨w.heap.size, 0, none⟩ = some (.func (.func g) #[] lb) := by (subst hw1; go_simp)); (have b1 : w1.cell? ⟨w.heap.size, 1, none⟩ = some (.func (.func sf) #[] sb) := by (subst hw1; go_simp)); rw [← hw1]; clear hw1)
  go_loopg [9] ((b - a - 1) / 2 + 1) (fun kx s9 wr => s9 = .int .i64 ((kx : Int) - 1) ∧ kx ≤ (b - a - 1) / 2 + 1 ∧ ∃ (dk : Array α), But blk w1 wr ∧ Row enc k blk off n w0 dk wr ∧ Hid (heapBuild lt (b - a) a kx dk = heapBuild lt (b - a) a ((b - a - 1) / 2 + 1) d))
  case atStart => exact ⟨by rw [s_half hab], Nat.le_refl _, d, But.refl _ _, hR1, rfl⟩
  case round =>
    obtain ⟨rfl, hkk, dk, hBw, hRk, HE⟩ := hrel
    have c0 := hBw.keep b0 hB.symm
    have c1 := hBw.keep b1 hB.symm
    cases gk with
    | zero =>
      have hD : dk = heapBuild lt (b - a) a ((b - a - 1) / 2 + 1) d := HE.out
      clear HE hkk
      go_wp2
      go_loopg [10] (b - a) (fun kx s10 wr2 => s10 = .int .i64 ((kx : Int) - 1) ∧ kx ≤ b - a ∧ ∃ (dj : Array α), But blk w1 wr2 ∧ Row enc k blk off n w0 dj wr2 ∧ Hid (heapPop lt a kx dj = heapPop lt a (b - a) dk))
      case atStart => exact ⟨by rw [ecast], Nat.le_refl _, dk, hBw, hRk, rfl⟩
      case round =>
        clear c0 c1 hBw hRk
        obtain ⟨rfl, hkk, dj, hBw, hRj, HE2⟩ := hrel
        have c0 := hBw.keep b0 hB.symm
        have c1 := hBw.keep b1 hB.symm
        cases gk with
        | zero =>
          go_wp2
          go_end0
          refine ⟨rfl, hBw.snd n1, ?_⟩
          have e : dj = heapSort lt d a b := by rw [heapSort, ← hD, ← HE2.out]; rfl
          rw [← e]
          exact hRj
        | succ kx =>
          obtain ⟨w2, s2, p2, r2⟩ := C.swp hRj a (a + kx) (by omega) (by omega)
          rw [show ((a + kx : Nat) : Int) = (a : Int) + (kx : Int) by omega] at s2
          have c0 := p2.keep c0 hB.symm
          have c1 := p2.keep c1 hB.symm
          have hcall := s_sift C 0 kx a (Sort.swp dj a (a + kx)) w2 r2 (Nat.zero_le _) (by omega)
          go_wp2_with (go_at_call 98; refine hcall.mono ?_; rintro e w3 ⟨rfl, p3, r3⟩)
          go_roundg kx
          case measure => omega
          case rel => exact ⟨by simp, by omega, _, (hBw.trans p2).trans p3, r3, HE2⟩
    | succ kx =>
      have hcall := s_sift C kx (b - a) a dk wr hRk (by omega) (by omega)
      rw [ecast] at hcall
      go_wp2_with (go_at_call 98; refine hcall.mono ?_; rintro e w3 ⟨rfl, p3, r3⟩)
      go_roundg kx
      case measure => omega
      case rel => exact ⟨by simp, by omega, _, hBw.trans p3, r3, HE⟩

end Go.Proofs.Ytmpkciidhopckaa
