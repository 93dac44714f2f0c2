/- sort.pdqsort_func, whatever the comparison lays: a permutation, in order. -/
import Derived.Test.YtmpkciidhopckaaSortB
import Derived.Test.YtmpkciidhopckaaSortD
import Derived.Test.YtmpkciidhopckaaSortE
import Derived.Test.YtmpkciidhopckaaSortF
import Derived.Test.YtmpkciidhopckaaSortG
import Derived.Test.YtmpkciidhopckaaSortH
import Derived.Test.YtmpkciidhopckaaSortI
import Derived.Sort.LotD3
import Derived.Deep.DeepCutAuto
import Derived.Deep.CutBlock
namespace Go.Proofs.Ytmpkciidhopckaa
open Go.RowKit Go.Sort Go.Shelf Go.Lib
set_option linter.unusedVariables false
variable {α : Type} [Inhabited α] {g : Nat} {lb : Array Value} {sf : Nat} {sb : Array Value} {enc : α → List Value} {k : Nat} {lt : α → α → Bool} {blk off n : Nat} {w0 : World}

/-- What is owed of the part from a to b: whoever sorts it has sorted the whole. -/
def Owed (lt : α → α → Bool) (a b : Nat) (d0 : Array α) (a' b' : Nat) (d : Array α) : Prop := ∀ R, PermIn a' b' d R → SortedIn lt a' b' R → PermIn a b d0 R ∧ SortedIn lt a b R
theorem Owed.perm {a b a' b' : Nat} {d0 d d1 : Array α} (h : Owed lt a b d0 a' b' d) (p : PermIn a' b' d d1) : Owed lt a b d0 a' b' d1 := fun R q s => h R (permIn_trans _ _ _ _ _ p q) s
theorem Owed.done {a b a' b' : Nat} {d0 d : Array α} (h : Owed lt a b d0 a' b' d) (s : SortedIn lt a' b' d) : PermIn a b d0 d ∧ SortedIn lt a b d := h d (permIn_refl _ _ _) s

set_option maxHeartbeats 16000000 in
set_option maxRecDepth 1000000 in
theorem s_pdq (C : Sorting Try.prog g lb sf sb enc k lt blk off n w0) : ∀ (N a b limit : Nat) (d : Array α) (w : World), b - a < N → Row enc k blk off n w0 d w → a ≤ b → b ≤ n → limit < 4611686018427387904 → Go.Sort.Below lt a b d →
    Calls Try.prog 65 #[.agg #[.func (.func g) #[] lb, .func (.func sf) #[] sb], .int .i64 a, .int .i64 b, .int .i64 limit] w fun e w' =>
      e = .returned (.tuple #[]) ∧ But blk w w' ∧ ∃ d', (PermIn a b d d' ∧ SortedIn lt a b d') ∧ Row enc k blk off n w0 d' w' := by
  intro N
  induction N with
  | zero => intro a b limit d w h; omega
  | succ N ih =>
    intro a b limit d w hN hR hab hb hlimit hBl
    have hO := C.swo
    (have hn := C.small; have eg := C.eg; have hB : blk ≠ w.heap.size := (by (have := hR.le; have := C.lt0; omega)); (go_enter Try.func65, Try.ntmps65); go_wp2; (obtain ⟨w1, hw1⟩ : ∃ w1, w1 = w.alloc (.cells #[.func (.func g) #[] lb, .func (.func sf) #[] sb] 99) := ⟨_, rfl⟩); (have hR1 : Row enc k blk off n w0 d w1 := by (subst hw1; exact hR.alloc _)); (have n1 : New w w1 := by (subst hw1; (repeat (first | (with_reducible exact New.refl _) | (with_reducible assumption) | ((with_reducible refine New.setB ?_ ?_ _); focus (first | omega | (simp; omega) | (simp; done))) | (with_reducible refine New.alloc ?_ _) | (with_reducible refine New.drew ?_) | (with_reducible refine New.drewN ?_ _) | (with_reducible refine New.hat ?_ _) | ((with_reducible apply New.snart); (with_reducible assumption)))))); (have b0 : w1.cell? ⟨w.heap.size, 0, none⟩ = some (.func (.func g) #[] lb) := by (subst hw1; go_simp)); (have b1 : w1.cell? ⟨w.heap.size, 1, none⟩ = some (.func (.func sf) #[] sb) := by (subst hw1; go_simp)); rw [← hw1]; clear hw1)
    go_loopg [1, 2, 3, 8, 9] (b - a) (fun kx s1 s2 s3 s8 s9 wr => ∃ (a' b' lim : Nat) (wb wp : Bool) (dk : Array α), s1 = .int .i64 a' ∧ s2 = .int .i64 b' ∧ s3 = .int .i64 lim ∧ s8 = .bool wb ∧ s9 = .bool wp ∧ a ≤ a' ∧ a' ≤ b' ∧ b' ≤ b ∧ b' - a' ≤ kx ∧ lim ≤ limit ∧ But blk w1 wr ∧ Row enc k blk off n w0 dk wr ∧ Hid (Go.Sort.Below lt a' b' dk ∧ Owed lt a b d a' b' dk))
    case atStart => exact ⟨a, b, limit, true, true, d, rfl, rfl, rfl, rfl, rfl, Nat.le_refl _, hab, Nat.le_refl _, Nat.le_refl _, Nat.le_refl _, But.refl _ _, hR1, hBl, fun R p s => ⟨p, s⟩⟩
    case round =>
      obtain ⟨a', b', lim, wb, wp, dk, rfl, rfl, rfl, rfl, rfl, haa, hab', hbb, hkx, hlim, hBw, hRk, HO⟩ := hrel
      have hsz := hRk.size
      have c0 := hBw.keep b0 hB.symm
      have c1 := hBw.keep b1 hB.symm
      by_cases h12 : b' - a' ≤ 12
      · have h12z : (b' : Int) - (a' : Int) ≤ 12 := by omega
        go_wp2_with (go_at_call 88; refine (s_ins C a' b' dk wr hRk hab' (by omega)).mono ?_; rintro e w2 ⟨rfl, p2, r2⟩)
        ((try simp only [Exit.inBlock, Exit.then]); refine bodyPost_ret (results_none rfl _ _ _) rfl ?_)
        have hi := insertionSort_holds hO dk a' b' hab' (by omega)
        exact ⟨rfl, (hBw.snd n1).trans p2, _, (HO.out.2.perm hi.1).done hi.2, r2⟩
      · have h12z : ¬ ((b' : Int) - (a' : Int) ≤ 12) := by omega
        by_cases hl0 : lim = 0
        · subst hl0
          go_wp2_with (go_at_call 89; refine (s_heap C a' b' dk wr hRk hab' (by omega)).mono ?_; rintro e w2 ⟨rfl, p2, r2⟩)
          ((try simp only [Exit.inBlock, Exit.then]); refine bodyPost_ret (results_none rfl _ _ _) rfl ?_)
          have hi := heapSort_holds hO dk a' b' hab' (by omega)
          exact ⟨rfl, (hBw.snd n1).trans p2, _, (HO.out.2.perm hi.1).done hi.2, r2⟩
        · have hl0z : ((lim : Int) == 0) = false := by rw [beq_eq_false_iff_ne]; omega
          go_upto_if 35 with fail
          go_cut [3] (fun s3 wc => ∃ lim' : Nat, s3 = .int .i64 lim' ∧ lim' ≤ limit ∧ But blk w1 wc ∧ ∃ d1 : Array α, Row enc k blk off n w0 d1 wc ∧ Hid (Go.Sort.Below lt a' b' d1 ∧ Owed lt a b d a' b' d1))
          case first =>
            cases wb with
            | true =>
              go_wp2_with fail
              go_meet
              exact ⟨lim, rfl, hlim, hBw, dk, hRk, HO⟩
            | false =>
              go_wp2_with (go_at_call 90; refine (s_brk C a' b' dk wr hRk hab' (by omega)).mono ?_; rintro e w2 ⟨rfl, p2, d2, q2, r2⟩)
              go_meet
              exact ⟨lim - 1, by congr 1; omega, by omega, hBw.trans p2, d2, r2, HO.out.1.permA permIn_all (by omega) q2, HO.out.2.perm q2⟩
          case rest =>
            clear hBw hRk HO c0 c1 hl0 hl0z hlim hsz
            obtain ⟨lim', rfl, hlim, hBw, d1, hRk, HO⟩ := hcut
            have hsz := hRk.size
            have c0 := hBw.keep b0 hB.symm
            have c1 := hBw.keep b1 hB.symm
            go_upto_if 50 with (go_at_call 91; refine (s_pivot C a' b' d1 _ hRk (by omega) (by omega)).mono ?_; rintro e w2 ⟨m, h, rfl, hm1, hm2, hh2, n2⟩; have c0 := n2.keep c0; have c1 := n2.keep c1)
            have hB2 := hBw.new n2
            have hR2 := hRk.new n2
            clear hBw hRk
            go_cut [11, 12] (fun s11 s12 wc => ∃ m' h' : Nat, s11 = .int .i64 m' ∧ s12 = .int .i64 h' ∧ a' ≤ m' ∧ m' < b' ∧ h' ≤ 2 ∧ But blk w1 wc ∧ ∃ d2 : Array α, Row enc k blk off n w0 d2 wc ∧ Hid (Go.Sort.Below lt a' b' d2 ∧ Owed lt a b d a' b' d2))
            case first =>
              by_cases hh : h = 2
              · subst hh
                go_wp2_with (go_at_call 92; refine (s_rev C a' b' d1 w2 hR2 hab' (by omega)).mono ?_; rintro e w3 ⟨rfl, p3, d3, q3, r3⟩)
                go_meet
                exact ⟨b' - 1 - (m - a'), 1, by congr 1; omega, rfl, by omega, by omega, by omega, hB2.trans p3, d3, r3, HO.out.1.permA permIn_all (by omega) q3, HO.out.2.perm q3⟩
              · have hhz : ((h : Int) == 2) = false := by rw [beq_eq_false_iff_ne]; omega
                go_wp2_with fail
                go_meet
                exact ⟨m, h, rfl, rfl, hm1, hm2, hh2, hB2, d1, hR2, HO⟩
            case rest =>
              clear hB2 hR2 HO c0 c1 hm1 hm2 hh2 hsz n2
              obtain ⟨m', h', rfl, rfl, hm1, hm2, hh2, hBw, d2, hRk, HO⟩ := hcut
              have hsz := hRk.size
              have c0 := hBw.keep b0 hB.symm
              have c1 := hBw.keep b1 hB.symm
              go_upto_region 16 with fail
              go_cut [68] (fun s68 wx => ∃ t : Bool, s68 = .bool t ∧ wx = wc)
              case first =>
                by_cases hh1 : h' = 1
                · subst hh1
                  cases wb <;> cases wp <;> (go_wp2_with fail; go_meet; exact ⟨_, rfl, rfl⟩)
                · have hhz : ((h' : Int) == 1) = false := by rw [beq_eq_false_iff_ne]; omega
                  cases wb <;> cases wp <;> (go_wp2_with fail; go_meet; exact ⟨_, rfl, rfl⟩)
              case rest =>
                obtain ⟨t, rfl, rfl⟩ := hcut
                go_upto_if 68 with fail
                go_cut [] (fun wx => But blk w1 wx ∧ ∃ d3 : Array α, Row enc k blk off n w0 d3 wx ∧ Hid (Go.Sort.Below lt a' b' d3 ∧ Owed lt a b d a' b' d3))
                case first =>
                  cases t with
                  | false =>
                    go_wp2_with fail
                    go_meet
                    exact ⟨hBw, d2, hRk, HO⟩
                  | true =>
                    have hp := partialInsertionSort_holds hO d2 a' b' (by omega) (by omega) HO.out.1
                    have hc := s_pins C a' b' d2 _ hRk (by omega) (by omega)
                    cases hv : (partialInsertionSort lt d2 a' b').2 with
                    | false =>
                      rw [hv] at hc
                      have HP : Hid _ := hp
                      clear hp
                      go_wp2_with (go_at_call 93; refine hc.mono ?_; rintro e w3 ⟨rfl, p3, r3⟩)
                      go_meet
                      exact ⟨hBw.trans p3, _, r3, HO.out.1.permA permIn_all (by omega) HP.out.1, HO.out.2.perm HP.out.1⟩
                    | true =>
                      rw [hv] at hc
                      have HP : Hid _ := And.intro hp.1 (hp.2 hv)
                      clear hp
                      go_wp2_with (go_at_call 93; refine hc.mono ?_; rintro e w3 ⟨rfl, p3, r3⟩)
                      ((try simp only [Exit.inBlock, Exit.then]); refine bodyPost_ret (results_none rfl _ _ _) rfl ?_)
                      exact ⟨rfl, (hBw.snd n1).trans p3, _, (HO.out.2.perm HP.out.1).done HP.out.2, r3⟩
                case rest =>
                  clear hBw hRk HO c0 c1 hsz
                  obtain ⟨hBw, d3, hRk, HO⟩ := hcut
                  have hsz := hRk.size
                  have c0 := hBw.keep b0 hB.symm
                  have c1 := hBw.keep b1 hB.symm
                  go_upto_region 18 with fail
                  go_cut [83] (fun s83 wx => ∃ t : Bool, s83 = .bool t ∧ But blk w1 wx ∧ Row enc k blk off n w0 d3 wx ∧ Hid (t = true → 0 < a' ∧ lt d3[a' - 1]! d3[m']! = false))
                  case first =>
                    rcases Nat.eq_zero_or_pos a' with ha0 | ha0
                    · have ha0z : decide ((a' : Int) > 0) = false := decide_eq_false (by omega)
                      subst ha0
                      go_wp2_with fail
                      go_meet
                      exact ⟨false, rfl, hBw, hRk, fun h => by cases h⟩
                    · have ha0z : (a' : Int) > 0 := by omega
                      cases hlv : lt d3[a' - 1]! d3[m']! with
                      | false =>
                        have hl := C.at hRk (a' - 1) m' (by omega) (by omega) hlv
                        rw [show ((a' - 1 : Nat) : Int) = (a' : Int) - 1 by omega] at hl
                        go_wp2_with (go_at_fn g; refine hl.mono ?_; rintro e w3 ⟨rfl, n3⟩)
                        go_meet
                        exact ⟨true, rfl, hBw.new n3, hRk.new n3, fun _ => ⟨ha0, hlv⟩⟩
                      | true =>
                        have hl := C.at hRk (a' - 1) m' (by omega) (by omega) hlv
                        rw [show ((a' - 1 : Nat) : Int) = (a' : Int) - 1 by omega] at hl
                        go_wp2_with (go_at_fn g; refine hl.mono ?_; rintro e w3 ⟨rfl, n3⟩)
                        go_meet
                        exact ⟨false, rfl, hBw.new n3, hRk.new n3, fun h => by cases h⟩
                  case rest =>
                    clear hBw hRk c0 c1
                    obtain ⟨t, rfl, hBw, hRk, HT⟩ := hcut
                    have c0 := hBw.keep b0 hB.symm
                    have c1 := hBw.keep b1 hB.symm
                    cases t with
                    | true =>
                      have hc := s_peq C a' b' m' d3 _ hRk hm1 hm2 (by omega)
                      have hx : Hid _ := round_eq hO (partitionEqual_holds lt) (HT.out rfl).1 hm1 hm2 (show b' ≤ d3.size by omega) HO.out.1 (HT.out rfl).2 (mid := (partitionEqual lt d3 a' b' m').1) (d4 := (partitionEqual lt d3 a' b' m').2) rfl
                      have hb1 := hx.out.1
                      have hb2 := hx.out.2.1
                      generalize (partitionEqual lt d3 a' b' m').1 = mid at hc hx hb1 hb2
                      generalize (partitionEqual lt d3 a' b' m').2 = d4 at hc hx
                      go_wp2_with (go_at_call 94; refine hc.mono ?_; rintro e w3 ⟨rfl, p3, r3⟩)
                      go_roundg (b' - mid)
                      case measure => omega
                      case rel => exact ⟨mid, b', lim', wb, wp, d4, rfl, rfl, rfl, rfl, rfl, by omega, hb2, hbb, Nat.le_refl _, hlim, hBw.trans p3, r3, hx.out.2.2.2.1, fun R p s => HO.out.2 R (hx.out.2.2.2.2 R p s).1 (hx.out.2.2.2.2 R p s).2⟩
                    | false =>
                      have hc := s_part C a' b' m' d3 _ hRk hm1 hm2 (by omega)
                      have hx : Hid _ := round_part hO (partition_holds lt) hm1 hm2 (show b' ≤ d3.size by omega) HO.out.1 (mid := (partition lt d3 a' b' m').1) (ap := (partition lt d3 a' b' m').2.1) (d4 := (partition lt d3 a' b' m').2.2) rfl
                      have hb1 := hx.out.1
                      have hb2 := hx.out.2.1
                      generalize (partition lt d3 a' b' m').1 = mid at hc hx hb1 hb2
                      generalize (partition lt d3 a' b' m').2.1 = ap at hc
                      generalize (partition lt d3 a' b' m').2.2 = d4 at hc hx
                      go_upto_if 109 with (go_at_call 95; refine hc.mono ?_; rintro e w3 ⟨rfl, p3, r3⟩; have c0 := p3.keep c0 hB.symm; have c1 := p3.keep c1 hB.symm)
                      have hB3 := hBw.trans p3
                      by_cases h4 : mid - a' < b' - mid
                      · have h4z : (mid : Int) - (a' : Int) < (b' : Int) - (mid : Int) := by omega
                        have hih := ih a' mid lim' d4 w3 (by omega) r3 (by omega) (by omega) (by omega) hx.out.2.2.2.1
                        go_wp2_with (go_at_call 65; refine hih.mono ?_; rintro e w4 ⟨rfl, p4, d5, q5, r5⟩)
                        go_roundg (b' - (mid + 1))
                        case measure => omega
                        case rel =>
                          have hz := hx.out.2.2.2.2.2.1 d5 q5.1 q5.2
                          exact ⟨mid + 1, b', lim', _, ap, d5, by congr 1, rfl, rfl, rfl, rfl, by omega, by omega, hbb, Nat.le_refl _, hlim, hB3.trans p4, r5, hz.1, fun R p s => HO.out.2 R (hz.2 R p s).1 (hz.2 R p s).2⟩
                      · have h4z : ¬ ((mid : Int) - (a' : Int) < (b' : Int) - (mid : Int)) := by omega
                        have hih := ih (mid + 1) b' lim' d4 w3 (by omega) r3 (by omega) (by omega) (by omega) hx.out.2.2.2.2.1
                        rw [show ((mid + 1 : Nat) : Int) = (mid : Int) + 1 by omega] at hih
                        go_wp2_with (go_at_call 65; refine hih.mono ?_; rintro e w4 ⟨rfl, p4, d5, q5, r5⟩)
                        go_roundg (mid - a')
                        case measure => omega
                        case rel =>
                          have hz := hx.out.2.2.2.2.2.2 d5 q5.1 q5.2
                          exact ⟨a', mid, lim', _, ap, d5, rfl, rfl, rfl, rfl, rfl, by omega, by omega, by omega, Nat.le_refl _, hlim, hB3.trans p4, r5, hz.1, fun R p s => HO.out.2 R (hz.2 R p s).1 (hz.2 R p s).2⟩

end Go.Proofs.Ytmpkciidhopckaa
