/- The law OpenHigh. -/
import Derived.Test.YtklopjbpfddgfaaOgD
import Derived.Test.YtklopjbpfddgfaaSpRd
namespace Go.Proofs.Ytklopjbpfddgfaa
open Go.RowKit
set_option linter.unusedVariables false

/-! Plain. -/
theorem opX_sub {C : CfgR} {l : List Sn} {i : Nat} (h : i < (opX C l).length) : ∃ h2 : (opX C l)[i] < l.length, opnB C l (opX C l)[i] = true := by
  obtain ⟨h0, h1⟩ := opX_in h
  have he : opX C l = opL C l := by unfold opX; rw [if_pos h0]
  have hm : (opX C l)[i] ∈ opL C l := by
    have := List.getElem_mem h
    generalize hx : (opX C l)[i] = x at *
    rw [he] at this
    exact this
  unfold opL at hm
  exact ⟨h1, (List.mem_filter.1 hm).2⟩
theorem opX_rise {C : CfgR} {l : List Sn} {i j : Nat} (hij : i < j) (hj : j < (opX C l).length) : (opX C l)[i]'(by omega) < (opX C l)[j] := by
  have hp : (opX C l).Pairwise (· < ·) := by
    unfold opX
    split
    · exact List.Pairwise.filter _ (List.pairwise_lt_range)
    · exact List.Pairwise.nil
  exact List.pairwise_iff_getElem.1 hp i j (by omega) hj hij
theorem flX_is {C : CfgR} {l : List Sn} {i : Nat} (h : i < (flX C l).length) : ∃ (k : Nat) (hk : k < l.length), k = (opX C l)[i]'(by rw [← flX_len]; exact h) ∧ l[k].wk = true ∧ (flX C l)[i] = ⟨l[k].hi, roofF l k, 1⟩ := by
  have h' : i < (opX C l).length := by rw [← flX_len]; exact h
  obtain ⟨h2, h3⟩ := opX_sub h'
  refine ⟨_, h2, rfl, ?_, by rw [flX_at, flOf_at h2]⟩
  rw [opnB_at C h2] at h3
  exact (Bool.and_eq_true _ _ ▸ h3).1
theorem sep_lt {l : List Sn} (h : Sep l) {i j : Nat} (hij : i < j) (hj : j < l.length) : (l[i]'(by omega)).hi < l[j].lo := List.pairwise_iff_getElem.1 h i j (by omega) hj hij
/-- Nothing solid in a floor's room. -/
theorem flX_free {C : CfgR} {l : List Sn} (hs : spE l = 0) {k j : Nat} (hk : k < l.length) (hj : j < l.length) : ¬ (l[k].hi < l[j].hi ∧ l[j].lo < roofF l k) := by
  obtain ⟨-, hp, hS⟩ := chkE_zero hs
  rintro ⟨h1, h2⟩
  have hpk := hp _ (List.getElem_mem hk)
  have hpj := hp _ (List.getElem_mem hj)
  rcases Nat.lt_trichotomy k j with q | q | q
  · by_cases e : j = k + 1
    · subst e
      rw [roofF_mid hj] at h2
      omega
    · have hk1 : k + 1 < l.length := by omega
      rw [roofF_mid hk1] at h2
      have h3 := sep_lt hS (show k + 1 < j by omega) hj
      have hp1 := hp _ (List.getElem_mem hk1)
      omega
  · subst q; omega
  · have := sep_lt hS q hk
    omega
theorem flX_up {C : CfgR} {l : List Sn} (hs : spE l = 0) {i : Nat} (h : i + 1 < (flX C l).length) : (flX C l)[i].top ≤ (flX C l)[i + 1].y := by
  obtain ⟨-, hp, hS⟩ := chkE_zero hs
  obtain ⟨a, ha, ea, -, e1⟩ := flX_is (show i < (flX C l).length by omega)
  obtain ⟨b, hb, eb, -, e2⟩ := flX_is h
  rw [e1, e2]
  have hab : a < b := by
    rw [ea, eb]
    exact opX_rise (by omega) (by rw [← flX_len]; exact h)
  show roofF l a ≤ l[b].hi
  have hpb := hp _ (List.getElem_mem hb)
  by_cases e : b = a + 1
  · subst e
    rw [roofF_mid hb]
    omega
  · have h1 : a + 1 < l.length := by omega
    rw [roofF_mid h1]
    have h3 := sep_lt hS (show a + 1 < b by omega) hb
    have hp1 := hp _ (List.getElem_mem h1)
    omega

set_option maxHeartbeats 4000000 in
set_option maxRecDepth 100000 in
theorem l_openHigh (C : CfgR) (at0 : Option Addr) (l : List Sn) (c : Nat) (w : World) (h : Sl Sn.enc 3 w (.slice at0 l.length c) l) :
    Calls Try.prog 4 #[.agg #[.int .i64 C.cl, .int .i64 C.cb, .int .i64 C.ht, .int .i64 C.ri, .int .i64 C.ru, .int .i64 C.wd, .int .i64 C.dp], .slice at0 l.length c] w fun e w' => e = .returned (.bool true) ∧ New w w' := by
  have hlm : l.length ≤ maxLen := by obtain ⟨_, h1, h2, _⟩ := h.row'; omega
  have KW := Lib.hid (fun W => og_wakes W)
  have KO := Lib.hid (fun W n => og_Floors C at0 l c W (h.keep (n : New w W)))
  have KC := Lib.hid (fun W n => rs_check at0 l c hlm W ((h.keep (n : New w W)).row'.2.2.2.2))
  have HH := Lib.hid (h.row'.2.2.2.2)
  have hfi : fiE C l = 0 → spE l = 0 := fun q => (fiE_ok q).2
  have h3 := fiE_three C l
  have HB := Lib.hid (fun q => flX_bad (C := C) (l := l) q)
  obtain ⟨r, hr⟩ : ∃ r, r = fiE C l := ⟨_, rfl⟩
  rw [← hr] at KO hfi h3 HB
  have HFI := Lib.hid hfi
  obtain ⟨m, hm⟩ : ∃ m, m = l.length := ⟨_, rfl⟩
  rw [← hm] at KO KC ⊢
  have HM := Lib.hid hm
  obtain ⟨F, hF⟩ : ∃ F, F = flX C l := ⟨_, rfl⟩
  rw [← hF] at KO HB
  have HFX := Lib.hid hF
  obtain ⟨n, hn⟩ : ∃ n, n = F.length := ⟨_, rfl⟩
  rw [← hn] at KO
  have HN := Lib.hid hn
  have hN8 : n ≤ 8 := by rw [hn, hF]; exact flX_len8 C l
  clear h hlm hr hm hF hn hfi
  by_cases h8 : 40 < m
  · have hd : decide (40 < m) = true := decide_eq_true h8
    go_enter Try.func4, Try.ntmps4
    go_wp2_with fail
    refine (KW.out _).mono ?_
    rintro e w1 ⟨rfl, n1⟩
    go_wp2_with fail
    go_ret
    exact ⟨rfl, New.trans (by (repeat (first | (with_reducible exact New.refl _) | (with_reducible assumption) | ((with_reducible refine New.setB ?_ ?_ _); focus (first | omega | (simp; omega) | (simp; done))) | (with_reducible refine New.alloc ?_ _) | (with_reducible refine New.drew ?_) | (with_reducible refine New.drewN ?_ _) | (with_reducible refine New.hat ?_ _) | ((with_reducible apply New.snart); (with_reducible assumption))))) n1⟩
  have hd : decide (40 < m) = false := decide_eq_false h8
  go_enter Try.func4, Try.ntmps4
  go_wp2_with fail
  refine Calls.at (fun W0 hW => ?_)
  have n0 : New w W0 := by subst hW; (repeat (first | (with_reducible exact New.refl _) | (with_reducible assumption) | ((with_reducible refine New.setB ?_ ?_ _); focus (first | omega | (simp; omega) | (simp; done))) | (with_reducible refine New.alloc ?_ _) | (with_reducible refine New.drew ?_) | (with_reducible refine New.drewN ?_ _) | (with_reducible refine New.hat ?_ _) | ((with_reducible apply New.snart); (with_reducible assumption))))
  clear hW
  refine (KO.out _ n0).mono ?_
  rintro e W1 ⟨v, rfl, ho, n1⟩
  obtain ⟨av, cv, N, hN, rfl⟩ := own_shape2 ho
  subst hN
  have hsl : Sl Fl.enc 3 W1 (.slice av F.length cv) F := by have := ho; rw [HN.out] at this; exact own_sl Fl.enc_len this
  have HA := Lib.hid (hsl.row'.2.2.2.2)
  have hn1 := n0.trans n1
  clear n0 n1 ho hsl
  rcases h3 with rfl | h3
  rotate_left
  · have hne : (r != 0) = true := by rcases h3 with rfl | rfl <;> rfl
    have hn0 : N = 0 := by rw [HN.out, HB.out (by rcases h3 with rfl | rfl <;> decide)]; rfl
    subst hn0
    clear h3
    go_wp2_with fail
    refine (KW.out _).mono ?_
    rintro e w1 ⟨rfl, n2⟩
    have hn2 := hn1.trans n2
    go_wp2_with fail
    go_ret
    exact ⟨rfl, hn2⟩
  have hs0 := HFI.out rfl
  rw [hs0] at KC
  have HS0 := Lib.hid hs0
  clear hs0 HB HFI KO
  go_wp2_with fail
  refine (KC.out _ hn1).mono ?_
  rintro e W2 ⟨rfl, n2⟩
  have hn2 := Lib.hid (hn1.trans n2)
  have HA2 := Lib.hid (HA.out.keep n2)
  have HL2 := Lib.hid (HH.out.keep (hn1.trans n2))
  clear hn1 n2 HA HH KC
  go_wp2_with fail
  go_loopg [41] N (fun gk s41 wr => ∃ i : Nat, s41 = .int .i64 i ∧ i ≤ N ∧ N - i ≤ gk ∧ Hid (New W2 wr))
  case atStart => exact ⟨0, rfl, by omega, by omega, Lib.hid (New.refl _)⟩
  case round =>
    obtain ⟨i, rfl, hi, hgk, hnr⟩ := hrel
    by_cases hlt : i < N
    · have hiF : i < F.length := by rw [← HN.out]; exact hlt
      have hex : ∃ (k : Nat) (hk : k < l.length), l[k].wk = true ∧ F[i] = ⟨l[k].hi, roofF l k, 1⟩ := by
        have hfx := HFX.out
        subst hfx
        obtain ⟨k, hk, -, h1, h2⟩ := flX_is hiF
        exact ⟨k, hk, h1, h2⟩
      obtain ⟨k, hk, hwk, hfe⟩ := hex
      obtain ⟨b0, off, rfl, hA⟩ := HA2.out (by omega)
      obtain ⟨c0, c1, c2⟩ := Fl.cells (hA.keep hnr.out) i hiF
      have hup : Hid (∀ q, i = q + 1 → ∃ hq : q < F.length, F[q].top ≤ F[i].y) := Lib.hid (fun q e => by
        subst e
        refine ⟨by omega, ?_⟩
        have hfx := HFX.out
        subst hfx
        exact flX_up HS0.out hiF)
      obtain ⟨f, hf⟩ : ∃ f, f = F[i] := ⟨_, rfl⟩
      rw [← hf] at c0 c1 c2 hfe hup
      have HFree : Hid (∀ j (hj : j < l.length), ¬ (f.y < l[j].hi ∧ l[j].lo < f.top)) := Lib.hid (fun j hj => by rw [hfe]; exact flX_free (C := C) HS0.out hk hj)
      have HK : Hid (∃ hk : k < l.length, l[k].wk = true ∧ l[k].hi = f.y) := Lib.hid ⟨hk, hwk, by rw [hfe]⟩
      have HROW := Lib.hid (hA.keep hnr.out)
      clear hfe hf hwk hk hA
      rename World => wA
      have HGK := Lib.hid hgk
      clear hgk
      go_upto_region 10 with fail
      refine Code.at (fun W3 hW => ?_)
      have nn := hnr.out.trans (show New wA W3 by subst hW; (repeat (first | (with_reducible exact New.refl _) | (with_reducible assumption) | ((with_reducible refine New.setB ?_ ?_ _); focus (first | omega | (simp; omega) | (simp; done))) | (with_reducible refine New.alloc ?_ _) | (with_reducible refine New.drew ?_) | (with_reducible refine New.drewN ?_ _) | (with_reducible refine New.hat ?_ _) | ((with_reducible apply New.snart); (with_reducible assumption)))))
      obtain ⟨Bf, hBf⟩ : ∃ B, B = wA.heap.size := ⟨_, rfl⟩
      rw [← hBf]
      have f0 : W3.cell? ⟨Bf, 0, none⟩ = some (.int .i64 f.y) := by subst hBf; subst hW; go_simp
      have f1 : W3.cell? ⟨Bf, 1, none⟩ = some (.int .i64 f.top) := by subst hBf; subst hW; go_simp
      clear hW hBf c0 c1 c2
      have HNN := Lib.hid nn
      clear nn hnr
      clear HROW
      clear wA
      go_wp2_with fail
      go_loopg [48, 9] m (fun gk s48 s9 wr => ∃ (j : Nat) (b : Bool), s48 = .int .i64 j ∧ s9 = .bool b ∧ j ≤ m ∧ m - j ≤ gk ∧ Hid (∀ (hk : k < l.length), l[k].wk = true ∧ l[k].hi = f.y → k < j → b = true) ∧ Hid (New W3 wr))
      case atStart => exact ⟨0, false, rfl, rfl, by omega, by omega, Lib.hid (fun _ _ q => by omega), Lib.hid (New.refl _)⟩
      case round =>
        obtain ⟨j, b, rfl, rfl, hj, hgk, hfd, hnr⟩ := hrel
        by_cases hjt : j < m
        · have hjl : j < l.length := by rw [← HM.out]; exact hjt
          obtain ⟨b1, off1, rfl, hA⟩ := HL2.out (by omega)
          obtain ⟨d0, d1, d2⟩ := Sn.cells (hA.keep (HNN.out.trans hnr.out)) j hjl
          replace f0 := hnr.out.keep f0
          replace f1 := hnr.out.keep f1
          have hfree := HFree.out j hjl
          obtain ⟨s, hs⟩ : ∃ s, s = l[j] := ⟨_, rfl⟩
          rw [← hs] at d0 d1 d2 hfree
          have HSS := Lib.hid hs
          clear hA hs
          have hnext : Hid (∀ (b2 : Bool), (b = true → b2 = true) → (s.hi = f.y → s.wk = true → b2 = true) → ∀ (hk : k < l.length), l[k].wk = true ∧ l[k].hi = f.y → k < j + 1 → b2 = true) := Lib.hid (fun b2 h1 h2 hk h3 h4 => by
            by_cases q : k < j
            · exact h1 (hfd.out hk h3 q)
            · have : k = j := by omega
              subst this
              have e := HSS.out
              exact h2 (by rw [e]; exact h3.2) (by rw [e]; exact h3.1))
          have nr := hnr.out
          clear hnr
          have zf : Bf < wr.heap.size := World.block_lt_of_cell? _ _ f0
          by_cases q1 : f.y < s.hi
          · have q1d : decide (f.y < s.hi) = true := decide_eq_true q1
            have q2d : decide (s.lo < f.top) = false := decide_eq_false (fun q => hfree ⟨q1, q⟩)
            have q3 : (s.hi == f.y) = false := by rw [beq_eq_false_iff_ne]; omega
            have HQ1 := Lib.hid q1
            clear hfree q1
            cases b
            · go_wp2_with fail
              go_roundg (m - (j + 1))
              case measure => omega
              case rel => exact ⟨j + 1, false, by go_num, rfl, by omega, by omega, Lib.hid (hnext.out false (fun h => by cases h) (fun h => by have := HQ1.out; omega)), Lib.hid (by (repeat (first | (with_reducible exact New.refl _) | (with_reducible assumption) | ((with_reducible refine New.setB ?_ ?_ _); focus (first | omega | (simp; omega) | (simp; done))) | (with_reducible refine New.alloc ?_ _) | (with_reducible refine New.drew ?_) | (with_reducible refine New.drewN ?_ _) | (with_reducible refine New.hat ?_ _) | ((with_reducible apply New.snart); (with_reducible assumption)))))⟩
            · go_wp2_with fail
              go_roundg (m - (j + 1))
              case measure => omega
              case rel => exact ⟨j + 1, true, by go_num, rfl, by omega, by omega, Lib.hid (hnext.out true (fun _ => rfl) (fun _ _ => rfl)), Lib.hid (by (repeat (first | (with_reducible exact New.refl _) | (with_reducible assumption) | ((with_reducible refine New.setB ?_ ?_ _); focus (first | omega | (simp; omega) | (simp; done))) | (with_reducible refine New.alloc ?_ _) | (with_reducible refine New.drew ?_) | (with_reducible refine New.drewN ?_ _) | (with_reducible refine New.hat ?_ _) | ((with_reducible apply New.snart); (with_reducible assumption)))))⟩
          · have q1d : decide (f.y < s.hi) = false := decide_eq_false q1
            clear hfree q1
            cases b
            · cases q3 : (s.hi == f.y)
              · have HQ1 := Lib.hid (beq_eq_false_iff_ne.1 q3)
                go_wp2_with fail
                go_roundg (m - (j + 1))
                case measure => omega
                case rel => exact ⟨j + 1, false, by go_num, rfl, by omega, by omega, Lib.hid (hnext.out false (fun h => by cases h) (fun h => absurd h HQ1.out)), Lib.hid (by (repeat (first | (with_reducible exact New.refl _) | (with_reducible assumption) | ((with_reducible refine New.setB ?_ ?_ _); focus (first | omega | (simp; omega) | (simp; done))) | (with_reducible refine New.alloc ?_ _) | (with_reducible refine New.drew ?_) | (with_reducible refine New.drewN ?_ _) | (with_reducible refine New.hat ?_ _) | ((with_reducible apply New.snart); (with_reducible assumption)))))⟩
              · cases q4 : s.wk
                · rw [q4] at d2
                  have HQ1 := Lib.hid q4
                  clear q4
                  go_wp2_with fail
                  go_roundg (m - (j + 1))
                  case measure => omega
                  case rel => exact ⟨j + 1, false, by go_num, rfl, by omega, by omega, Lib.hid (hnext.out false (fun h => by cases h) (fun _ h => by rw [HQ1.out] at h; cases h)), Lib.hid (by (repeat (first | (with_reducible exact New.refl _) | (with_reducible assumption) | ((with_reducible refine New.setB ?_ ?_ _); focus (first | omega | (simp; omega) | (simp; done))) | (with_reducible refine New.alloc ?_ _) | (with_reducible refine New.drew ?_) | (with_reducible refine New.drewN ?_ _) | (with_reducible refine New.hat ?_ _) | ((with_reducible apply New.snart); (with_reducible assumption)))))⟩
                · rw [q4] at d2
                  clear q4
                  go_wp2_with fail
                  go_roundg (m - (j + 1))
                  case measure => omega
                  case rel => exact ⟨j + 1, true, by go_num, rfl, by omega, by omega, Lib.hid (hnext.out _ (fun _ => rfl) (fun _ _ => rfl)), Lib.hid (by (repeat (first | (with_reducible exact New.refl _) | (with_reducible assumption) | ((with_reducible refine New.setB ?_ ?_ _); focus (first | omega | (simp; omega) | (simp; done))) | (with_reducible refine New.alloc ?_ _) | (with_reducible refine New.drew ?_) | (with_reducible refine New.drewN ?_ _) | (with_reducible refine New.hat ?_ _) | ((with_reducible apply New.snart); (with_reducible assumption)))))⟩
            · go_wp2_with fail
              go_roundg (m - (j + 1))
              case measure => omega
              case rel => exact ⟨j + 1, true, by go_num, rfl, by omega, by omega, Lib.hid (hnext.out _ (fun _ => rfl) (fun _ _ => rfl)), Lib.hid (by (repeat (first | (with_reducible exact New.refl _) | (with_reducible assumption) | ((with_reducible refine New.setB ?_ ?_ _); focus (first | omega | (simp; omega) | (simp; done))) | (with_reducible refine New.alloc ?_ _) | (with_reducible refine New.drew ?_) | (with_reducible refine New.drewN ?_ _) | (with_reducible refine New.hat ?_ _) | ((with_reducible apply New.snart); (with_reducible assumption)))))⟩
        · obtain rfl : j = m := by omega
          have hb : b = true := by
            obtain ⟨hk, h1⟩ := HK.out
            exact hfd.out hk h1 (by rw [HM.out]; exact hk)
          subst hb
          clear hfd
          replace f0 := hnr.out.keep f0
          replace f1 := hnr.out.keep f1
          by_cases hi0 : i = 0
          · have hgt : decide (0 < i) = false := decide_eq_false (by omega)
            have HI0 := Lib.hid hi0
            clear hi0
            go_upto_region 17 with fail
            (refine wp_region_hat (by kernel_rfl) (by kernel_rfl) ?_; intro hatc hatf; (repeat (go_big_quiet_step ((fail)))); refine wpQuiet_nil ?_; rintro _ ⟨X, rfl⟩)
            clear hatc hatf
            have n2 := Lib.hid (HNN.out.trans (hnr.out.trans X.h))
            generalize X.w = W4 at *
            clear X f0 f1
            go_wp2_with fail
            go_roundg (N - (i + 1))
            case measure => have := HGK.out; omega
            case rel => exact ⟨i + 1, by go_num, by omega, by omega, n2⟩
          · obtain ⟨hq, hle⟩ := hup.out (i - 1) (by omega)
            obtain ⟨b0', off', e0, hA⟩ := HA2.out (by omega)
            injection e0 with e0
            injection e0 with e0 e1
            subst e0 e1
            obtain ⟨-, d1, -⟩ := Fl.cells (hA.keep (HNN.out.trans hnr.out)) (i - 1) hq
            obtain ⟨y, hy⟩ : ∃ y, y = F[i - 1].top := ⟨_, rfl⟩
            rw [← hy] at d1 hle
            have hz : IntKind.i64.wrap ((i : Int) - 1) = ((i - 1 : Nat) : Int) := by rw [IntWalk.i64_in _ (by omega)]; omega
            have hgt : decide (0 < i) = true := decide_eq_true (by omega)
            have hlt2 : i - 1 < N := by omega
            have hle2 : decide (f.y < y) = false := decide_eq_false (by omega)
            clear hy hA hle
            go_upto_region 17 with fail
            (refine wp_region_hat (by kernel_rfl) (by kernel_rfl) ?_; intro hatc hatf; (repeat (go_big_quiet_step ((fail)))); refine wpQuiet_nil ?_; rintro _ ⟨X, rfl⟩)
            clear hatc hatf
            have n2 := Lib.hid (HNN.out.trans (hnr.out.trans X.h))
            generalize X.w = W4 at *
            clear X f0 f1 d1
            go_wp2_with fail
            go_roundg (N - (i + 1))
            case measure => have := HGK.out; omega
            case rel => exact ⟨i + 1, by go_num, by omega, by omega, n2⟩
    · obtain rfl : i = N := by omega
      go_wp2_with fail
      refine (KW.out _).mono ?_
      rintro e w1 ⟨rfl, n3⟩
      have hn3 := hn2.out.trans (hnr.out.trans n3)
      go_wp2_with fail
      go_ret
      exact ⟨rfl, hn3⟩

end Go.Proofs.Ytklopjbpfddgfaa
