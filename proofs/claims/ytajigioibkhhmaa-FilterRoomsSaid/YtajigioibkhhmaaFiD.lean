/- Package filter: is a span open? has it room? -/
import Derived.Test.YtajigioibkhhmaaFiC
namespace Go.Proofs.Ytajigioibkhhmaa
open Go.RowKit
set_option linter.unusedVariables false

set_option maxHeartbeats 1000000 in
set_option maxRecDepth 100000 in
theorem fi_isOpen (C : CfgR) (at0 : Option Addr) (l : List Sn) (cap Bo Bc k : Nat) (hk : k < l.length) (hl : l.length ≤ 1000) (top : Int) (w : World) (R : RowBox w Bo at0 cap l) (hc : CellsAt w Bc 0 C.enc) :
    Calls Try.prog 30 #[.int .i64 k, .int .i64 top, .pointer (some ⟨Bo, 0, none⟩), .pointer (some ⟨Bc, 0, none⟩)] w fun e w' => e = .returned (.bool (l[k].wk && decide (C.ht ≤ wrap64 (top - l[k].hi)))) ∧ New w w' := by
  have KH := Lib.hid (fun s W => fi_hasRoom C s top W)
  obtain ⟨b0, off, rfl, hA⟩ := R.row (by omega)
  obtain ⟨d0, d1, d2⟩ := Sn.cells hA k hk
  have o0 := R.cell
  obtain ⟨c0, c1, c2, c3, c4, c5, c6⟩ := CfgR.at hc
  obtain ⟨s, hs⟩ : ∃ s, s = l[k] := ⟨_, rfl⟩
  rw [← hs] at d0 d1 d2 ⊢
  clear hs hA hc R
  generalize hn : l.length = n at *
  cases hw : s.wk
  · rw [hw] at d2
    go_enter Try.func30, Try.ntmps30
    go_wp2_with fail
    (refine wp_region_hat (by kernel_rfl) (by kernel_rfl) ?_; intro hatc hatf; (repeat (go_big_quiet_step ((fail)))); refine wpQuiet_nil ?_; rintro _ ⟨X, rfl⟩)
    go_wp2_with fail
    go_ret
    exact ⟨rfl, X.h⟩
  · rw [hw] at d2
    have KC := Lib.hid (fun W => by have := KH.out s W; rw [hw] at this; exact this : ∀ W, Calls Try.prog 23 #[.agg #[.int .i64 C.cl, .int .i64 C.cb, .int .i64 C.ht, .int .i64 C.ri, .int .i64 C.ru, .int .i64 C.wd, .int .i64 C.dp], .agg #[.int .i64 s.lo, .int .i64 s.hi, .bool true], .int .i64 top] W fun e w' => e = .returned (.bool (decide (C.ht ≤ wrap64 (top - s.hi)))) ∧ New W w')
    generalize decide (C.ht ≤ wrap64 (top - s.hi)) = b at *
    clear KH
    go_enter Try.func30, Try.ntmps30
    go_wp2_with fail
    (refine wp_region_hat (by kernel_rfl) (by kernel_rfl) ?_; intro hatc hatf; (repeat (go_big_quiet_step ((go_at_call 23; exact Calls.hat (KC.out _))))); refine wpQuiet_nil ?_; rintro _ ⟨X, rfl⟩)
    cases b
    all_goals
      go_wp2_with fail
      go_ret
      exact ⟨rfl, X.h⟩

/-- Has the k-th span room? -/
def fitB (C : CfgR) (l : List Sn) (k : Int) : Bool := rOk l k && (decide (C.err = 0) && decide (C.ht ≤ wrap64 (rTop l k - (l[k.toNat]?.map (·.hi)).getD 0)))

set_option maxHeartbeats 2000000 in
set_option maxRecDepth 100000 in
theorem fi_fits (C : CfgR) (at0 : Option Addr) (l : List Sn) (c : Nat) (hl : l.length ≤ maxLen) (k : Int) (w : World) (H : RowIn Sn.enc 3 w at0 l) :
    Calls Try.prog 10 #[.agg #[.int .i64 C.cl, .int .i64 C.cb, .int .i64 C.ht, .int .i64 C.ri, .int .i64 C.ru, .int .i64 C.wd, .int .i64 C.dp], .slice at0 l.length c, .int .i64 k] w fun e w' => e = .returned (.bool (fitB C l k)) ∧ New w w' := by
  obtain ⟨fb, hfb⟩ : ∃ fb, fb = fitB C l k := ⟨_, rfl⟩
  rw [← hfb]
  unfold fitB at hfb
  have KR := Lib.hid (fun W n => fi_room at0 l c hl k W (H.keep (n : New w W)))
  have KC := Lib.hid (fun W => check_any C.cl C.cb C.ht C.ri C.ru C.wd C.dp W)
  have KH := Lib.hid (fun s W => fi_hasRoom C s (rTop l k) W)
  have h2 := fi_err_two C
  obtain ⟨r, hr⟩ : ∃ r, r = C.err := ⟨_, rfl⟩
  rw [show checkE C.cl C.cb C.ht C.ri C.ru C.wd C.dp = r from hr.symm] at KC
  rw [← hr] at h2 hfb
  clear hr
  obtain ⟨tt, ht⟩ : ∃ tt, tt = rTop l k := ⟨_, rfl⟩
  rw [← ht] at KR KH hfb
  clear ht
  have HH := Lib.hid H
  have HO := Lib.hid (fun h => (rOk_iff l k).1 h)
  clear H hl
  obtain ⟨bb, hb⟩ : ∃ bb, bb = rOk l k := ⟨_, rfl⟩
  rw [← hb] at KR HO hfb
  have HB := Lib.hid hb
  have HF := Lib.hid hfb
  clear hb hfb
  obtain ⟨n, hn⟩ : ∃ n, n = l.length := ⟨_, rfl⟩
  rw [← hn] at KR ⊢
  have HN := Lib.hid hn
  clear hn
  go_enter Try.func10, Try.ntmps10
  go_wp2_with fail
  refine Calls.at (fun W0 hW => ?_)
  have n0 : New w W0 := by subst hW; (repeat (first | (with_reducible exact New.refl _) | (with_reducible assumption) | ((with_reducible refine New.setB ?_ ?_ _); focus (first | omega | (simp; omega) | (simp; done))) | (with_reducible refine New.alloc ?_ _) | (with_reducible refine New.drew ?_) | (with_reducible refine New.drewN ?_ _) | (with_reducible refine New.hat ?_ _) | ((with_reducible apply New.snart); (with_reducible assumption))))
  have hc : CellsAt W0 w.heap.size 0 C.enc := by subst hW; exact cells_new _ _ _
  clear hW
  refine (KR.out _ n0).mono ?_
  rintro e w1 ⟨rfl, n1⟩
  replace hc := hc.keep n1
  have hn1 : New w w1 := n0.trans n1
  clear n1 n0
  obtain ⟨c0, c1, c2, c3, c4, c5, c6⟩ := CfgR.at hc
  clear hc KR
  cases bb
  · have HE : Hid (fb = false) := Lib.hid (by rw [HF.out]; rfl)
    go_wp2_with fail
    (refine wp_region_hat (by kernel_rfl) (by kernel_rfl) ?_; intro hatc hatf; (repeat (go_big_quiet_step ((fail)))); refine wpQuiet_nil ?_; rintro _ ⟨X, rfl⟩)
    go_wp2_with fail
    go_ret
    exact ⟨by rw [HE.out]; rfl, hn1.trans X.h⟩
  · obtain ⟨h0, h3, h4⟩ := HO.out rfl
    obtain ⟨m, rfl⟩ : ∃ m : Nat, k = m := ⟨k.toNat, by omega⟩
    have hm : m < l.length := by omega
    obtain ⟨b0, off, rfl, hA⟩ := HH.out (by omega)
    obtain ⟨d0, d1, d2⟩ := Sn.cells (hA.keep hn1) m hm
    have es : ((l[(m : Int).toNat]?.map (·.hi)).getD 0) = l[m].hi := by simp [hm]
    have hf := HF.out
    rw [es] at hf
    clear HF
    obtain ⟨s, hs⟩ : ∃ s, s = l[m] := ⟨_, rfl⟩
    rw [← hs] at d0 d1 d2 hf
    have hmn : m < n := by rw [HN.out]; exact hm
    clear hs hA es hm h4 h0 h3
    rcases h2 with rfl | rfl
    · have KK := Lib.hid (fun W => KH.out s W)
      have KC2 : Hid (∀ W, Calls Try.prog 22 #[.agg #[.int .i64 C.cl, .int .i64 C.cb, .int .i64 C.ht, .int .i64 C.ri, .int .i64 C.ru, .int .i64 C.wd, .int .i64 C.dp]] W fun e w' => e = .returned (.int .i64 0) ∧ New W w') := Lib.hid (fun W => (KC.out W).mono fun e w' h => ⟨h.1, h.2.1⟩)
      generalize decide (C.ht ≤ wrap64 (tt - s.hi)) = b at *
      have HF := Lib.hid hf
      clear KH KC hf
      go_wp2_with fail
      (refine wp_region_hat (by kernel_rfl) (by kernel_rfl) ?_; intro hatc hatf; (repeat (go_big_quiet_step ((first | (go_at_call 22; exact Calls.hat (KC2.out _)) | (go_at_call 23; exact Calls.hat (KK.out _)))))); refine wpQuiet_nil ?_; rintro _ ⟨X, rfl⟩)
      cases b
      all_goals
        go_wp2_with fail
        go_ret
        exact ⟨by rw [HF.out]; rfl, hn1.trans X.h⟩
    · have KC2 : Hid (∀ W, Calls Try.prog 22 #[.agg #[.int .i64 C.cl, .int .i64 C.cb, .int .i64 C.ht, .int .i64 C.ri, .int .i64 C.ru, .int .i64 C.wd, .int .i64 C.dp]] W fun e w' => e = .returned (.int .i64 20) ∧ New W w') := Lib.hid (fun W => (KC.out W).mono fun e w' h => ⟨h.1, h.2.1⟩)
      have HE : Hid (fb = false) := Lib.hid (by rw [hf]; rfl)
      clear KH KC hf
      go_wp2_with fail
      (refine wp_region_hat (by kernel_rfl) (by kernel_rfl) ?_; intro hatc hatf; (repeat (go_big_quiet_step ((go_at_call 22; exact Calls.hat (KC2.out _))))); refine wpQuiet_nil ?_; rintro _ ⟨X, rfl⟩)
      go_wp2_with fail
      go_ret
      exact ⟨by rw [HE.out]; rfl, hn1.trans X.h⟩

end Go.Proofs.Ytajigioibkhhmaa
