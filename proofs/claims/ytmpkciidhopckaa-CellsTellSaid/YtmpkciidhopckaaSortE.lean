/- sort.partitionEqual_func, whatever the comparison lays. -/
import Derived.Test.YtmpkciidhopckaaSortA
import Derived.Sort.WalkC
import Derived.Deep.DeepCutAuto
import Derived.Deep.CutBlock
namespace Go.Proofs.Ytmpkciidhopckaa
open Go.RowKit Go.Sort Go.Shelf Go.Lib
set_option linter.unusedVariables false
variable {α : Type} [Inhabited α] {g : Nat} {lb : Array Value} {sf : Nat} {sb : Array Value} {enc : α → List Value} {k : Nat} {lt : α → α → Bool} {blk off n : Nat} {w0 : World}

set_option maxHeartbeats 4000000 in
set_option maxRecDepth 100000 in
theorem s_peq (C : Sorting Try.prog g lb sf sb enc k lt blk off n w0) (a b pivot : Nat) (d : Array α) (w : World) (hR : Row enc k blk off n w0 d w) (hap : a ≤ pivot) (hpb : pivot < b) (hb : b ≤ n) :
    Calls Try.prog 94 #[.agg #[.func (.func g) #[] lb, .func (.func sf) #[] sb], .int .i64 a, .int .i64 b, .int .i64 pivot] w fun e w' =>
      e = .returned (.int .i64 (partitionEqual lt d a b pivot).1) ∧ But blk w w' ∧ Row enc k blk off n w0 (partitionEqual lt d a b pivot).2 w' := by
  (have hn := C.small; have eg := C.eg; have hB : blk ≠ w.heap.size := (by (have := hR.le; have := C.lt0; omega)); (go_enter Try.func94, Try.ntmps94); go_wp2; (obtain ⟨w1, hw1⟩ : ∃ w1, w1 = w.alloc (.cells #[.func (.func g) #[] lb, .func (.func sf) #[] sb] 99) := ⟨_, rfl⟩); (have hR1 : Row enc k blk off n w0 d w1 := by (subst hw1; exact hR.alloc _)); (have n1 : New w w1 := by (subst hw1; (repeat (first | (with_reducible exact New.refl _) | (with_reducible assumption) | ((with_reducible refine New.setB ?_ ?_ _); focus (first | omega | (simp; omega) | (simp; done))) | (with_reducible refine New.alloc ?_ _) | (with_reducible refine New.drew ?_) | (with_reducible refine New.drewN ?_ _) | (with_reducible refine New.hat ?_ _) | ((with_reducible apply New.snart); (with_reducible assumption)))))); (have b0 : w1.cell? ⟨w.heap.size, 0, none⟩ = some (.func (.func g) #[] lb) := by (subst hw1; go_simp)); (have b1 : w1.cell? ⟨w.heap.size, 1, none⟩ = some (.func (.func sf) #[] sb) := by (subst hw1; go_simp)); rw [← hw1]; clear hw1)
  obtain ⟨w2, s2, p2, r2⟩ := C.swp hR1 a pivot (by omega) (by omega)
  rw [s2, Oper.upon_value]
  have q0 := p2.keep b0 hB.symm
  have q1 := p2.keep b1 hB.symm
  have n2 : But blk w w2 := p2.snd n1
  clear b0 b1 n1 p2 s2 hR1
  go_wp2
  go_loopg [9, 10] (b - a) (fun kx vi vj wr => ∃ (i j : Nat) (dk : Array α), vi = .int .i64 i ∧ vj = .int .i64 j ∧ a < i ∧ i ≤ j + 1 ∧ j < b ∧ j + 1 - i ≤ kx ∧ But blk w2 wr ∧ Row enc k blk off n w0 dk wr ∧ Hid (partEqLoop lt a i j dk = partEqLoop lt a (a + 1) (b - 1) (Sort.swp d a pivot)))
  case atStart => exact ⟨a + 1, b - 1, _, by go_num, by go_num, by omega, by omega, by omega, by omega, But.refl _ _, r2, rfl⟩
  case round =>
    obtain ⟨i, j, dk, rfl, rfl, hai, hij, hjb, hkx, hBw, hRk, HE⟩ := hrel
    go_upto_block 2 with fail
    go_cut [9] (fun vi wc => ∃ i' : Nat, vi = .int .i64 i' ∧ i ≤ i' ∧ i' ≤ j + 1 ∧ Hid (i' = scanUp (fun x => !lt dk[a]! x) dk j i) ∧ But blk w2 wc ∧ Row enc k blk off n w0 dk wc)
    case first =>
      go_wp2_with fail
      go_loopw [9] (fun vi wr => ∃ i' : Nat, vi = .int .i64 i' ∧ i ≤ i' ∧ i' ≤ j + 1 ∧ But blk w2 wr ∧ Row enc k blk off n w0 dk wr ∧ Hid (scanUp (fun x => !lt dk[a]! x) dk j i' = scanUp (fun x => !lt dk[a]! x) dk j i)) (fun vi _ => j + 1 - (intOf vi).toNat)
      case atStart => exact ⟨i, rfl, Nat.le_refl _, hij, hBw, hRk, rfl⟩
      case round =>
        clear hBw hRk
        obtain ⟨i', rfl, hii, hij', hBw, hRk, hsc⟩ := hrel
        have c0 := hBw.keep q0 hB.symm
        by_cases hle : i' ≤ j
        · cases hlv : lt dk[a]! dk[i']! with
          | false =>
            have hl := C.at hRk a i' (by omega) (by omega) hlv
            go_wp2_with (go_at_fn g; refine hl.mono ?_; rintro e w3 ⟨rfl, n3⟩)
            go_roundw
            case rel => exact ⟨i' + 1, by go_num, by omega, by omega, hBw.new n3, hRk.new n3, (scanUp_go (fun x => !lt dk[a]! x) dk j i' hle (by simp [hlv])).symm.trans hsc.out⟩
            case measure => simp [intOf]; omega
          | true =>
            have hl := C.at hRk a i' (by omega) (by omega) hlv
            go_wp2_with (go_at_fn g; refine hl.mono ?_; rintro e w3 ⟨rfl, n3⟩)
            go_meet
            exact ⟨i', rfl, hii, hij', (scanUp_end (fun x => !lt dk[a]! x) dk j i' (Or.inr (by simp [hlv]))).symm.trans hsc.out, hBw.new n3, hRk.new n3⟩
        · go_wp2
          go_meet
          exact ⟨i', rfl, hii, hij', (scanUp_end (fun x => !lt dk[a]! x) dk j i' (Or.inl hle)).symm.trans hsc.out, hBw, hRk⟩
    case rest =>
      clear hBw hRk
      obtain ⟨i', rfl, hii, hij', hi2, hBw, hRk⟩ := hcut
      go_upto_block 4 with fail
      go_cut [10] (fun vj wc => ∃ j' : Nat, vj = .int .i64 j' ∧ j' ≤ j ∧ i' ≤ j' + 1 ∧ Hid (j' = scanDown (fun x => lt dk[a]! x) dk i' j) ∧ But blk w2 wc ∧ Row enc k blk off n w0 dk wc)
      case first =>
        go_wp2_with fail
        go_loopw [10] (fun vj wr => ∃ j' : Nat, vj = .int .i64 j' ∧ j' ≤ j ∧ i' ≤ j' + 1 ∧ But blk w2 wr ∧ Row enc k blk off n w0 dk wr ∧ Hid (scanDown (fun x => lt dk[a]! x) dk i' j' = scanDown (fun x => lt dk[a]! x) dk i' j)) (fun vj _ => (intOf vj).toNat)
        case atStart => exact ⟨j, rfl, Nat.le_refl _, hij', hBw, hRk, rfl⟩
        case round =>
          clear hBw hRk
          obtain ⟨j', rfl, hjj, hij2, hBw, hRk, hsc⟩ := hrel
          have c0 := hBw.keep q0 hB.symm
          by_cases hle : i' ≤ j'
          · cases hlv : lt dk[a]! dk[j']! with
            | true =>
              have hl := C.at hRk a j' (by omega) (by omega) hlv
              go_wp2_with (go_at_fn g; refine hl.mono ?_; rintro e w3 ⟨rfl, n3⟩)
              go_roundw
              case rel => exact ⟨j' - 1, by go_num, by omega, by omega, hBw.new n3, hRk.new n3, (scanDown_go (fun x => lt dk[a]! x) dk i' j' hle (by omega) hlv).symm.trans hsc.out⟩
              case measure => simp [intOf]; omega
            | false =>
              have hl := C.at hRk a j' (by omega) (by omega) hlv
              go_wp2_with (go_at_fn g; refine hl.mono ?_; rintro e w3 ⟨rfl, n3⟩)
              go_meet
              exact ⟨j', rfl, hjj, hij2, (scanDown_end (fun x => lt dk[a]! x) dk i' j' (Or.inr hlv)).symm.trans hsc.out, hBw.new n3, hRk.new n3⟩
          · go_wp2
            go_meet
            exact ⟨j', rfl, hjj, hij2, (scanDown_end (fun x => lt dk[a]! x) dk i' j' (Or.inl hle)).symm.trans hsc.out, hBw, hRk⟩
      case rest =>
        clear hBw hRk
        obtain ⟨j', rfl, hjj, hij2, hj2, hBw, hRk⟩ := hcut
        have c1 := hBw.keep q1 hB.symm
        by_cases hle : i' ≤ j'
        · have hlt3 := scans_lt lt a i j dk (by omega) hi2.out hj2.out hle
          obtain ⟨w4, s4, p4, r4⟩ := C.swp hRk i' j' (by omega) (by omega)
          have he : Hid _ := partEq_go lt a i j dk hi2.out hj2.out (by omega)
          clear hi2 hj2
          go_wp2
          go_roundg (j' - 1 + 1 - (i' + 1))
          case measure => omega
          case rel => exact ⟨i' + 1, j' - 1, _, by go_num, by go_num, by omega, by omega, by omega, Nat.le_refl _, hBw.trans p4, r4, he.out.symm.trans HE.out⟩
        · have he : Hid _ := partEq_break lt a i j dk hi2.out hj2.out (by omega)
          clear hi2 hj2
          go_wp2
          go_ret
          unfold Sort.partitionEqual
          rw [← HE.out, he.out]
          exact ⟨rfl, n2.trans hBw, hRk⟩

end Go.Proofs.Ytmpkciidhopckaa
