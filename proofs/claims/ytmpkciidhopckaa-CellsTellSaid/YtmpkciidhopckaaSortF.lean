/- sort.partition_func, whatever the comparison lays. -/
import Derived.Test.YtmpkciidhopckaaSortA
import Derived.Sort.WalkC4
import Derived.Deep.DeepCutAuto
import Derived.Deep.CutBlock
namespace Go.Proofs.Ytmpkciidhopckaa
open Go.RowKit Go.Sort Go.Shelf Go.Lib
set_option linter.unusedVariables false
variable {α : Type} [Inhabited α] {g : Nat} {lb : Array Value} {sf : Nat} {sb : Array Value} {enc : α → List Value} {k : Nat} {lt : α → α → Bool} {blk off n : Nat} {w0 : World}

set_option pp.deepTerms true in
set_option maxHeartbeats 8000000 in
set_option maxRecDepth 100000 in
theorem s_part (C : Sorting Try.prog g lb sf sb enc k lt blk off n w0) (a b pivot : Nat) (d : Array α) (w : World) (hR : Row enc k blk off n w0 d w) (hap : a ≤ pivot) (hpb : pivot < b) (hb : b ≤ n) :
    Calls Try.prog 95 #[.agg #[.func (.func g) #[] lb, .func (.func sf) #[] sb], .int .i64 a, .int .i64 b, .int .i64 pivot] w fun e w' =>
      e = .returned (.tuple #[.int .i64 (partition lt d a b pivot).1, .bool (partition lt d a b pivot).2.1]) ∧ But blk w w' ∧ Row enc k blk off n w0 (partition lt d a b pivot).2.2 w' := by
  (have hn := C.small; have eg := C.eg; have hB : blk ≠ w.heap.size := (by (have := hR.le; have := C.lt0; omega)); (go_enter Try.func95, Try.ntmps95); go_wp2; (obtain ⟨w1, hw1⟩ : ∃ w1, w1 = w.alloc (.cells #[.func (.func g) #[] lb, .func (.func sf) #[] sb] 99) := ⟨_, rfl⟩); (have hR1 : Row enc k blk off n w0 d w1 := by (subst hw1; exact hR.alloc _)); (have n1 : New w w1 := by (subst hw1; (repeat (first | (with_reducible exact New.refl _) | (with_reducible assumption) | ((with_reducible refine New.setB ?_ ?_ _); focus (first | omega | (simp; omega) | (simp; done))) | (with_reducible refine New.alloc ?_ _) | (with_reducible refine New.drew ?_) | (with_reducible refine New.drewN ?_ _) | (with_reducible refine New.hat ?_ _) | ((with_reducible apply New.snart); (with_reducible assumption)))))); (have b0 : w1.cell? ⟨w.heap.size, 0, none⟩ = some (.func (.func g) #[] lb) := by (subst hw1; go_simp)); (have b1 : w1.cell? ⟨w.heap.size, 1, none⟩ = some (.func (.func sf) #[] sb) := by (subst hw1; go_simp)); rw [← hw1]; clear hw1)
  obtain ⟨w2, s2, p2, r2⟩ := C.swp hR1 a pivot (by omega) (by omega)
  rw [s2, Oper.upon_value]
  have q0 := p2.keep b0 hB.symm
  have q1 := p2.keep b1 hB.symm
  have n2 : But blk w w2 := p2.snd n1
  clear b0 b1 n1 p2 s2 hR1
  obtain ⟨i, hi⟩ : ∃ i : Nat, i = a + 1 := ⟨_, rfl⟩
  obtain ⟨j, hj⟩ : ∃ j : Nat, j = b - 1 := ⟨_, rfl⟩
  obtain ⟨dk, hdk⟩ : ∃ dk : Array α, dk = Sort.swp d a pivot := ⟨_, rfl⟩
  have hai : a < i := by omega
  have hij : i ≤ j + 1 := by omega
  have hjb : j < b := by omega
  have hBw := But.refl blk w2
  have hRk := r2
  rw [← hdk] at hRk
  have HI : Hid (i = a + 1) := hi
  have HJ : Hid (j = b - 1) := hj
  have HD : Hid (dk = Sort.swp d a pivot) := hdk
  clear hi hj hdk r2
  go_upto_block 0 with fail
  rw [show ((a : Int) + 1) = (i : Int) by have := HI.out; omega, show ((b : Int) - 1) = (j : Int) by have := HJ.out; omega]
  go_cut [10] (fun vi wc => ∃ i' : Nat, vi = .int .i64 i' ∧ i ≤ i' ∧ i' ≤ j + 1 ∧ Hid (i' = scanUp (fun x => lt x dk[a]!) dk j i) ∧ But blk w2 wc ∧ Row enc k blk off n w0 dk wc)
  case first =>
    go_wp2_with fail
    go_loopw [10] (fun vi wr => ∃ i' : Nat, vi = .int .i64 i' ∧ i ≤ i' ∧ i' ≤ j + 1 ∧ But blk w2 wr ∧ Row enc k blk off n w0 dk wr ∧ Hid (scanUp (fun x => lt x dk[a]!) dk j i' = scanUp (fun x => lt x dk[a]!) dk j i)) (fun vi _ => j + 1 - (intOf vi).toNat)
    case atStart => exact ⟨i, (by first | rfl | (have := HI.out; congr 1; omega)), Nat.le_refl _, hij, hBw, hRk, rfl⟩
    case round =>
      clear hBw hRk
      obtain ⟨i', rfl, hii, hij', hBw, hRk, hsc⟩ := hrel
      have c0 := hBw.keep q0 hB.symm
      by_cases hle : i' ≤ j
      · cases hlv : lt dk[i']! dk[a]! with
        | true =>
          have hl := C.at hRk i' a (by omega) (by omega) hlv
          go_wp2_with (go_at_fn g; refine hl.mono ?_; rintro e w3 ⟨rfl, n3⟩)
          go_roundw
          case rel => exact ⟨i' + 1, by go_num, by omega, by omega, hBw.new n3, hRk.new n3, (scanUp_go (fun x => lt x dk[a]!) dk j i' hle hlv).symm.trans hsc.out⟩
          case measure => simp [intOf]; omega
        | false =>
          have hl := C.at hRk i' a (by omega) (by omega) hlv
          go_wp2_with (go_at_fn g; refine hl.mono ?_; rintro e w3 ⟨rfl, n3⟩)
          go_meet
          exact ⟨i', rfl, hii, hij', (scanUp_end (fun x => lt x dk[a]!) dk j i' (Or.inr hlv)).symm.trans hsc.out, hBw.new n3, hRk.new n3⟩
      · go_wp2
        go_meet
        exact ⟨i', rfl, hii, hij', (scanUp_end (fun x => lt x dk[a]!) dk j i' (Or.inl hle)).symm.trans hsc.out, hBw, hRk⟩
  case rest =>
    clear hBw hRk
    obtain ⟨i', rfl, hii, hij', hi2, hBw, hRk⟩ := hcut
    go_upto_block 2 with fail
    go_cut [11] (fun vj wc => ∃ j' : Nat, vj = .int .i64 j' ∧ j' ≤ j ∧ i' ≤ j' + 1 ∧ Hid (j' = scanDown (fun x => !lt x dk[a]!) dk i' j) ∧ But blk w2 wc ∧ Row enc k blk off n w0 dk wc)
    case first =>
      go_wp2_with fail
      go_loopw [11] (fun vj wr => ∃ j' : Nat, vj = .int .i64 j' ∧ j' ≤ j ∧ i' ≤ j' + 1 ∧ But blk w2 wr ∧ Row enc k blk off n w0 dk wr ∧ Hid (scanDown (fun x => !lt x dk[a]!) dk i' j' = scanDown (fun x => !lt x dk[a]!) dk i' j)) (fun vj _ => (intOf vj).toNat)
      case atStart => exact ⟨j, (by first | rfl | (have := HJ.out; congr 1; omega)), Nat.le_refl _, hij', hBw, hRk, rfl⟩
      case round =>
        clear hBw hRk
        obtain ⟨j', rfl, hjj, hij2, hBw, hRk, hsc⟩ := hrel
        have c0 := hBw.keep q0 hB.symm
        by_cases hle : i' ≤ j'
        · cases hlv : lt dk[j']! dk[a]! with
          | false =>
            have hl := C.at hRk j' a (by omega) (by omega) hlv
            go_wp2_with (go_at_fn g; refine hl.mono ?_; rintro e w3 ⟨rfl, n3⟩)
            go_roundw
            case rel => exact ⟨j' - 1, by go_num, by omega, by omega, hBw.new n3, hRk.new n3, (scanDown_go (fun x => !lt x dk[a]!) dk i' j' hle (by omega) (by simp [hlv])).symm.trans hsc.out⟩
            case measure => simp [intOf]; omega
          | true =>
            have hl := C.at hRk j' a (by omega) (by omega) hlv
            go_wp2_with (go_at_fn g; refine hl.mono ?_; rintro e w3 ⟨rfl, n3⟩)
            go_meet
            exact ⟨j', rfl, hjj, hij2, (scanDown_end (fun x => !lt x dk[a]!) dk i' j' (Or.inr (by simp [hlv]))).symm.trans hsc.out, hBw.new n3, hRk.new n3⟩
        · go_wp2
          go_meet
          exact ⟨j', rfl, hjj, hij2, (scanDown_end (fun x => !lt x dk[a]!) dk i' j' (Or.inl hle)).symm.trans hsc.out, hBw, hRk⟩
    case rest =>
      clear hBw hRk
      obtain ⟨j', rfl, hjj, hij2, hj2, hBw, hRk⟩ := hcut
      have c1 := hBw.keep q1 hB.symm
      by_cases hle : i' ≤ j'
      · have hlt3 := part_scans_lt lt a i j dk (by omega) hi2.out hj2.out hle
        obtain ⟨w4, s4, p4, r4⟩ := C.swp hRk i' j' (by omega) (by omega)
        have FIRST : Hid _ := part_first_go lt d a b pivot HI.out HJ.out HD.out hi2.out hj2.out (by omega)
        have n4 : But blk w w4 := (n2.trans hBw).trans p4
        have q0 := (hBw.trans p4).keep q0 hB.symm
        have q1 := (hBw.trans p4).keep q1 hB.symm
        have hdec : decide (j' < i') = false := decide_eq_false (by omega)
        go_wp2
        clear hi2 hj2 hBw hRk s4 p4 c1
        go_loopg [10, 11] (b - a) (fun kx vi vj wr => ∃ (x y : Nat) (z : Array α), vi = .int .i64 x ∧ vj = .int .i64 y ∧ a < x ∧ x ≤ y + 1 ∧ y < b ∧ y + 1 - x ≤ kx ∧ But blk w4 wr ∧ Row enc k blk off n w0 z wr ∧ Hid (partLoop lt a x y z = partLoop lt a (i' + 1) (j' - 1) (Sort.swp dk i' j')))
        case atStart => exact ⟨i' + 1, j' - 1, _, by go_num, by go_num, by omega, by omega, by omega, by omega, But.refl _ _, r4, rfl⟩
        case round =>
          clear hai hij hjb hii hij' hjj hij2 hlt3 hle r4
          clear n2
          have n2 := n4
          obtain ⟨i, j, dk, rfl, rfl, hai, hij, hjb, hkx, hBw, hRk, HE⟩ := hrel
          go_upto_block 6 with fail
          go_cut [10] (fun vi wc => ∃ i' : Nat, vi = .int .i64 i' ∧ i ≤ i' ∧ i' ≤ j + 1 ∧ Hid (i' = scanUp (fun x => lt x dk[a]!) dk j i) ∧ But blk w4 wc ∧ Row enc k blk off n w0 dk wc)
          case first =>
            go_wp2_with fail
            go_loopw [10] (fun vi wr => ∃ i' : Nat, vi = .int .i64 i' ∧ i ≤ i' ∧ i' ≤ j + 1 ∧ But blk w4 wr ∧ Row enc k blk off n w0 dk wr ∧ Hid (scanUp (fun x => lt x dk[a]!) dk j i' = scanUp (fun x => lt x dk[a]!) dk j i)) (fun vi _ => j + 1 - (intOf vi).toNat)
            case atStart => exact ⟨i, (by first | rfl | (have := HI.out; congr 1; omega)), Nat.le_refl _, hij, hBw, hRk, rfl⟩
            case round =>
              clear hBw hRk
              obtain ⟨i', rfl, hii, hij', hBw, hRk, hsc⟩ := hrel
              have c0 := hBw.keep q0 hB.symm
              by_cases hle : i' ≤ j
              · cases hlv : lt dk[i']! dk[a]! with
                | true =>
                  have hl := C.at hRk i' a (by omega) (by omega) hlv
                  go_wp2_with (go_at_fn g; refine hl.mono ?_; rintro e w3 ⟨rfl, n3⟩)
                  go_roundw
                  case rel => exact ⟨i' + 1, by go_num, by omega, by omega, hBw.new n3, hRk.new n3, (scanUp_go (fun x => lt x dk[a]!) dk j i' hle hlv).symm.trans hsc.out⟩
                  case measure => simp [intOf]; omega
                | false =>
                  have hl := C.at hRk i' a (by omega) (by omega) hlv
                  go_wp2_with (go_at_fn g; refine hl.mono ?_; rintro e w3 ⟨rfl, n3⟩)
                  go_meet
                  exact ⟨i', rfl, hii, hij', (scanUp_end (fun x => lt x dk[a]!) dk j i' (Or.inr hlv)).symm.trans hsc.out, hBw.new n3, hRk.new n3⟩
              · go_wp2
                go_meet
                exact ⟨i', rfl, hii, hij', (scanUp_end (fun x => lt x dk[a]!) dk j i' (Or.inl hle)).symm.trans hsc.out, hBw, hRk⟩
          case rest =>
            clear hBw hRk
            obtain ⟨i', rfl, hii, hij', hi2, hBw, hRk⟩ := hcut
            go_upto_block 8 with fail
            go_cut [11] (fun vj wc => ∃ j' : Nat, vj = .int .i64 j' ∧ j' ≤ j ∧ i' ≤ j' + 1 ∧ Hid (j' = scanDown (fun x => !lt x dk[a]!) dk i' j) ∧ But blk w4 wc ∧ Row enc k blk off n w0 dk wc)
            case first =>
              go_wp2_with fail
              go_loopw [11] (fun vj wr => ∃ j' : Nat, vj = .int .i64 j' ∧ j' ≤ j ∧ i' ≤ j' + 1 ∧ But blk w4 wr ∧ Row enc k blk off n w0 dk wr ∧ Hid (scanDown (fun x => !lt x dk[a]!) dk i' j' = scanDown (fun x => !lt x dk[a]!) dk i' j)) (fun vj _ => (intOf vj).toNat)
              case atStart => exact ⟨j, (by first | rfl | (have := HJ.out; congr 1; omega)), Nat.le_refl _, hij', hBw, hRk, rfl⟩
              case round =>
                clear hBw hRk
                obtain ⟨j', rfl, hjj, hij2, hBw, hRk, hsc⟩ := hrel
                have c0 := hBw.keep q0 hB.symm
                by_cases hle : i' ≤ j'
                · cases hlv : lt dk[j']! dk[a]! with
                  | false =>
                    have hl := C.at hRk j' a (by omega) (by omega) hlv
                    go_wp2_with (go_at_fn g; refine hl.mono ?_; rintro e w3 ⟨rfl, n3⟩)
                    go_roundw
                    case rel => exact ⟨j' - 1, by go_num, by omega, by omega, hBw.new n3, hRk.new n3, (scanDown_go (fun x => !lt x dk[a]!) dk i' j' hle (by omega) (by simp [hlv])).symm.trans hsc.out⟩
                    case measure => simp [intOf]; omega
                  | true =>
                    have hl := C.at hRk j' a (by omega) (by omega) hlv
                    go_wp2_with (go_at_fn g; refine hl.mono ?_; rintro e w3 ⟨rfl, n3⟩)
                    go_meet
                    exact ⟨j', rfl, hjj, hij2, (scanDown_end (fun x => !lt x dk[a]!) dk i' j' (Or.inr (by simp [hlv]))).symm.trans hsc.out, hBw.new n3, hRk.new n3⟩
                · go_wp2
                  go_meet
                  exact ⟨j', rfl, hjj, hij2, (scanDown_end (fun x => !lt x dk[a]!) dk i' j' (Or.inl hle)).symm.trans hsc.out, hBw, hRk⟩
            case rest =>
              clear hBw hRk
              obtain ⟨j', rfl, hjj, hij2, hj2, hBw, hRk⟩ := hcut
              have c1 := hBw.keep q1 hB.symm
              by_cases hle : i' ≤ j'
              · have hlt3 := part_scans_lt lt a i j dk (by omega) hi2.out hj2.out hle
                obtain ⟨w4, s4, p4, r4⟩ := C.swp hRk i' j' (by omega) (by omega)
                have he : Hid _ := part_go lt a i j dk hi2.out hj2.out (by omega)
                clear hi2 hj2
                go_wp2
                go_roundg (j' - 1 + 1 - (i' + 1))
                case measure => omega
                case rel => exact ⟨i' + 1, j' - 1, _, by go_num, by go_num, by omega, by omega, by omega, Nat.le_refl _, hBw.trans p4, r4, he.out.symm.trans HE.out⟩
              · have he : Hid _ := part_break lt a i j dk hi2.out hj2.out (by omega)
                obtain ⟨w4, s4, p4, r4⟩ := C.swp hRk j' a (by omega) (by omega)
                clear hi2 hj2
                go_wp2
                go_ret2
                rw [FIRST.out, ← HE.out, he.out]
                exact ⟨rfl, (n2.trans hBw).trans p4, r4⟩
      · have FIRST : Hid _ := part_first_break lt d a b pivot HI.out HJ.out HD.out hi2.out hj2.out (by omega)
        obtain ⟨w4, s4, p4, r4⟩ := C.swp hRk j' a (by omega) (by omega)
        clear hi2 hj2
        go_wp2
        go_ret2
        rw [FIRST.out]
        exact ⟨rfl, (n2.trans hBw).trans p4, r4⟩

end Go.Proofs.Ytmpkciidhopckaa
