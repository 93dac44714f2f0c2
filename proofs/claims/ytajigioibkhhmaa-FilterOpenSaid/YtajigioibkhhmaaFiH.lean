/- The document's own Room, Fits. -/
import Derived.Test.YtajigioibkhhmaaFiD
import Derived.Test.YtajigioibkhhmaaSpRd
import Derived.Test.YtajigioibkhhmaaWholeJ
import Derived.Deep.LoopGhost
namespace Go.Proofs.Ytajigioibkhhmaa
open Go.RowKit
set_option linter.unusedVariables false

set_option maxHeartbeats 2000000 in
set_option maxRecDepth 100000 in
theorem rf_room (at0 : Option Addr) (l : List Sn) (c : Nat) (hl : l.length ≤ maxLen) (k : Int) (w : World) (H : RowIn Sn.enc 3 w at0 l) :
    Calls Try.prog 7 #[.slice at0 l.length c, .int .i64 k] w fun e w' => e = .returned (.tuple #[.int .i64 (rTop l k), .bool (rOk l k)]) ∧ New w w' := by
  have KS := Lib.hid (fun W n => rs_check at0 l c hl W (H.keep (n : New w W)))
  have HH := Lib.hid H
  have h2 := chkE_two l
  obtain ⟨r, hr⟩ : ∃ r, r = spE l := ⟨_, rfl⟩
  rw [← hr] at KS h2
  have HR := Lib.hid hr
  obtain ⟨tt, ht⟩ : ∃ tt, tt = rTop l k := ⟨_, rfl⟩
  obtain ⟨bb, hb⟩ : ∃ bb, bb = rOk l k := ⟨_, rfl⟩
  rw [← ht, ← hb]
  have HT := Lib.hid (And.intro ht hb)
  clear hr H ht hb
  by_cases hok : r = 0 ∧ 0 ≤ k ∧ k < l.length
  · obtain ⟨rfl, hk0, hk1⟩ := hok
    have hl8 := (chkE_zero HR.out.symm).1
    obtain ⟨m, rfl⟩ : ∃ m : Nat, k = m := ⟨k.toNat, by omega⟩
    have hm : m < l.length := by omega
    obtain ⟨q1, q2⟩ := rTop_at (l := l) HR.out.symm hm
    have HE : Hid (tt = roofF l m ∧ bb = true) := Lib.hid (by rw [HT.out.1, HT.out.2]; exact ⟨q2, q1⟩)
    obtain ⟨b0, off, rfl, hA⟩ := HH.out (by omega)
    have HA := Lib.hid hA
    clear q1 q2 hA h2 hl
    by_cases h1 : m + 1 < l.length
    · have HM : Hid (roofF l m = l[m + 1].lo) := Lib.hid (roofF_mid h1)
      have hz : IntKind.i64.wrap ((m : Int) + 1) = (m : Int) + 1 := by rw [IntWalk.i64_in _ (by omega)]
      go_enter Try.func7, Try.ntmps7
      go_wp2_with fail
      refine (KS.out _ (by (repeat (first | (with_reducible exact New.refl _) | (with_reducible assumption) | ((with_reducible refine New.setB ?_ ?_ _); focus (first | omega | (simp; omega) | (simp; done))) | (with_reducible refine New.alloc ?_ _) | (with_reducible refine New.drew ?_) | (with_reducible refine New.drewN ?_ _) | (with_reducible refine New.hat ?_ _) | ((with_reducible apply New.snart); (with_reducible assumption)))))).mono ?_
      rintro e w1 ⟨rfl, n1⟩
      have hn1 : New w w1 := New.trans (by (repeat (first | (with_reducible exact New.refl _) | (with_reducible assumption) | ((with_reducible refine New.setB ?_ ?_ _); focus (first | omega | (simp; omega) | (simp; done))) | (with_reducible refine New.alloc ?_ _) | (with_reducible refine New.drew ?_) | (with_reducible refine New.drewN ?_ _) | (with_reducible refine New.hat ?_ _) | ((with_reducible apply New.snart); (with_reducible assumption))))) n1
      obtain ⟨d0, -, -⟩ := Sn.cells (HA.out.keep hn1) (m + 1) h1
      clear n1
      go_wp2_with fail
      rw [HE.out.1, HE.out.2, HM.out]
      refine bodyPost_ret (v := .tuple #[.int .i64 l[m + 1].lo, .bool true]) (by simp [results, Try.results7, go_sem, *]) rfl ?_
      exact ⟨rfl, hn1⟩
    · have HM : Hid (roofF l m = 1048576) := Lib.hid (roofF_last (by omega))
      have hz : IntKind.i64.wrap ((m : Int) + 1) = (m : Int) + 1 := by rw [IntWalk.i64_in _ (by omega)]
      go_enter Try.func7, Try.ntmps7
      go_wp2_with fail
      refine (KS.out _ (by (repeat (first | (with_reducible exact New.refl _) | (with_reducible assumption) | ((with_reducible refine New.setB ?_ ?_ _); focus (first | omega | (simp; omega) | (simp; done))) | (with_reducible refine New.alloc ?_ _) | (with_reducible refine New.drew ?_) | (with_reducible refine New.drewN ?_ _) | (with_reducible refine New.hat ?_ _) | ((with_reducible apply New.snart); (with_reducible assumption)))))).mono ?_
      rintro e w1 ⟨rfl, n1⟩
      have hn1 : New w w1 := New.trans (by (repeat (first | (with_reducible exact New.refl _) | (with_reducible assumption) | ((with_reducible refine New.setB ?_ ?_ _); focus (first | omega | (simp; omega) | (simp; done))) | (with_reducible refine New.alloc ?_ _) | (with_reducible refine New.drew ?_) | (with_reducible refine New.drewN ?_ _) | (with_reducible refine New.hat ?_ _) | ((with_reducible apply New.snart); (with_reducible assumption))))) n1
      clear n1
      go_wp2_with fail
      rw [HE.out.1, HE.out.2, HM.out]
      refine bodyPost_ret (v := .tuple #[.int .i64 1048576, .bool true]) (by simp [results, Try.results7, go_sem, *]) rfl ?_
      exact ⟨rfl, hn1⟩
  · obtain ⟨q1, q2⟩ := rTop_no (l := l) (k := k) (fun h => hok ⟨HR.out.trans h.1, h.2⟩)
    have HE : Hid (tt = 0 ∧ bb = false) := Lib.hid (by rw [HT.out.1, HT.out.2]; exact ⟨q2, q1⟩)
    clear q1 q2
    obtain ⟨n, hn⟩ : ∃ n : Nat, n = l.length := ⟨_, rfl⟩
    rw [← hn] at KS hl hok ⊢
    clear hn
    go_enter Try.func7, Try.ntmps7
    go_wp2_with fail
    refine (KS.out _ (by (repeat (first | (with_reducible exact New.refl _) | (with_reducible assumption) | ((with_reducible refine New.setB ?_ ?_ _); focus (first | omega | (simp; omega) | (simp; done))) | (with_reducible refine New.alloc ?_ _) | (with_reducible refine New.drew ?_) | (with_reducible refine New.drewN ?_ _) | (with_reducible refine New.hat ?_ _) | ((with_reducible apply New.snart); (with_reducible assumption)))))).mono ?_
    rintro e w1 ⟨rfl, n1⟩
    have hn1 : New w w1 := New.trans (by (repeat (first | (with_reducible exact New.refl _) | (with_reducible assumption) | ((with_reducible refine New.setB ?_ ?_ _); focus (first | omega | (simp; omega) | (simp; done))) | (with_reducible refine New.alloc ?_ _) | (with_reducible refine New.drew ?_) | (with_reducible refine New.drewN ?_ _) | (with_reducible refine New.hat ?_ _) | ((with_reducible apply New.snart); (with_reducible assumption))))) n1
    clear n1
    by_cases hr : r = 0
    · subst hr
      by_cases h0 : k < 0
      · have hd : decide (k < 0) = true := decide_eq_true h0
        go_wp2_with fail
        rw [HE.out.1, HE.out.2]
        refine bodyPost_ret (v := .tuple #[.int .i64 0, .bool false]) (by simp [results, Try.results7, go_sem, *]) rfl ?_
        exact ⟨rfl, hn1⟩
      · have hd : decide (k < 0) = false := decide_eq_false h0
        have h1 : (n : Int) ≤ k := by omega
        have hd1 : decide ((n : Int) ≤ k) = true := decide_eq_true h1
        clear h0 hok
        go_wp2_with fail
        rw [HE.out.1, HE.out.2]
        refine bodyPost_ret (v := .tuple #[.int .i64 0, .bool false]) (by simp [results, Try.results7, go_sem, *]) rfl ?_
        exact ⟨rfl, hn1⟩
    · obtain rfl : r = 2 := by omega
      go_wp2_with fail
      rw [HE.out.1, HE.out.2]
      refine bodyPost_ret (v := .tuple #[.int .i64 0, .bool false]) (by simp [results, Try.results7, go_sem, *]) rfl ?_
      exact ⟨rfl, hn1⟩

set_option maxHeartbeats 2000000 in
set_option maxRecDepth 100000 in
theorem rf_fits (C : CfgR) (at0 : Option Addr) (l : List Sn) (c : Nat) (hl : l.length ≤ maxLen) (k : Int) (w : World) (H : RowIn Sn.enc 3 w at0 l) :
    Calls Try.prog 11 #[.agg #[.int .i64 C.cl, .int .i64 C.cb, .int .i64 C.ht, .int .i64 C.ri, .int .i64 C.ru, .int .i64 C.wd, .int .i64 C.dp], .slice at0 l.length c, .int .i64 k] w fun e w' => e = .returned (.bool (fitB C l k)) ∧ New w w' := by
  obtain ⟨fb, hfb⟩ : ∃ fb, fb = fitB C l k := ⟨_, rfl⟩
  rw [← hfb]
  unfold fitB at hfb
  have KR := Lib.hid (fun W n => rf_room at0 l c hl k W (H.keep (n : New w W)))
  have KC := Lib.hid (fun W => rcheck_any C.cl C.cb C.ht C.ri C.ru C.wd C.dp W)
  have h2 := fi_err_two C
  obtain ⟨r, hr⟩ : ∃ r, r = C.err := ⟨_, rfl⟩
  rw [show checkE C.cl C.cb C.ht C.ri C.ru C.wd C.dp = r from hr.symm] at KC
  rw [← hr] at h2 hfb
  clear hr
  obtain ⟨tt, ht⟩ : ∃ tt, tt = rTop l k := ⟨_, rfl⟩
  rw [← ht] at KR hfb
  clear ht
  have HH := Lib.hid H
  have HO := Lib.hid (fun h => (rOk_iff l k).1 h)
  clear H hl
  obtain ⟨bb, hb⟩ : ∃ bb, bb = rOk l k := ⟨_, rfl⟩
  rw [← hb] at KR HO hfb
  have HB := Lib.hid hb
  have HF := Lib.hid hfb
  clear hb hfb
  obtain ⟨n, hn⟩ : ∃ n, n = l.length := ⟨_, rfl⟩
  rw [← hn] at KR ⊢
  have HN := Lib.hid hn
  clear hn
  go_enter Try.func11, Try.ntmps11
  go_wp2_with fail
  refine Calls.at (fun W0 hW => ?_)
  have n0 : New w W0 := by subst hW; (repeat (first | (with_reducible exact New.refl _) | (with_reducible assumption) | ((with_reducible refine New.setB ?_ ?_ _); focus (first | omega | (simp; omega) | (simp; done))) | (with_reducible refine New.alloc ?_ _) | (with_reducible refine New.drew ?_) | (with_reducible refine New.drewN ?_ _) | (with_reducible refine New.hat ?_ _) | ((with_reducible apply New.snart); (with_reducible assumption))))
  have hc : CellsAt W0 w.heap.size 0 C.enc := by subst hW; exact cells_new _ _ _
  clear hW
  refine (KR.out _ n0).mono ?_
  rintro e w1 ⟨rfl, n1⟩
  replace hc := hc.keep n1
  have hn1 : New w w1 := n0.trans n1
  clear n1 n0
  obtain ⟨c0, c1, c2, c3, c4, c5, c6⟩ := CfgR.at hc
  clear hc KR
  cases bb
  · have HE : Hid (fb = false) := Lib.hid (by rw [HF.out]; rfl)
    go_wp2_with fail
    (refine wp_region_hat (by kernel_rfl) (by kernel_rfl) ?_; intro hatc hatf; (repeat (go_big_quiet_step ((fail)))); refine wpQuiet_nil ?_; rintro _ ⟨X, rfl⟩)
    go_wp2_with fail
    go_ret
    exact ⟨by rw [HE.out]; rfl, hn1.trans X.h⟩
  · obtain ⟨h0, h3, h4⟩ := HO.out rfl
    obtain ⟨m, rfl⟩ : ∃ m : Nat, k = m := ⟨k.toNat, by omega⟩
    have hm : m < l.length := by omega
    obtain ⟨b0, off, rfl, hA⟩ := HH.out (by omega)
    obtain ⟨d0, d1, d2⟩ := Sn.cells (hA.keep hn1) m hm
    have es : ((l[(m : Int).toNat]?.map (·.hi)).getD 0) = l[m].hi := by simp [hm]
    have hf := HF.out
    rw [es] at hf
    clear HF
    obtain ⟨s, hs⟩ : ∃ s, s = l[m] := ⟨_, rfl⟩
    rw [← hs] at d0 d1 d2 hf
    have hmn : m < n := by rw [HN.out]; exact hm
    clear hs hA es hm h4 h0 h3 d0 d2
    rcases h2 with rfl | rfl
    · have KC2 : Hid (∀ W, Calls Try.prog 21 #[.agg #[.int .i64 C.cl, .int .i64 C.cb, .int .i64 C.ht, .int .i64 C.ri, .int .i64 C.ru, .int .i64 C.wd, .int .i64 C.dp]] W fun e w' => e = .returned (.int .i64 0) ∧ New W w') := Lib.hid (fun W => (KC.out W).mono fun e w' h => ⟨h.1, h.2.1⟩)
      have HF := Lib.hid hf
      clear KC hf
      go_wp2_with fail
      (refine wp_region_hat (by kernel_rfl) (by kernel_rfl) ?_; intro hatc hatf; (repeat (go_big_quiet_step ((go_at_call 21; exact Calls.hat (KC2.out _))))); refine wpQuiet_nil ?_; rintro _ ⟨X, rfl⟩)
      go_wp2_with fail
      refine bodyPost_ret (v := .bool (decide (C.ht ≤ wrap64 (tt - s.hi)))) (by simp [results, Try.results11, go_sem, *]) rfl ?_
      exact ⟨by rw [HF.out]; simp, hn1.trans X.h⟩
    · have KC2 : Hid (∀ W, Calls Try.prog 21 #[.agg #[.int .i64 C.cl, .int .i64 C.cb, .int .i64 C.ht, .int .i64 C.ri, .int .i64 C.ru, .int .i64 C.wd, .int .i64 C.dp]] W fun e w' => e = .returned (.int .i64 20) ∧ New W w') := Lib.hid (fun W => (KC.out W).mono fun e w' h => ⟨h.1, h.2.1⟩)
      have HE : Hid (fb = false) := Lib.hid (by rw [hf]; rfl)
      clear KC hf
      go_wp2_with fail
      (refine wp_region_hat (by kernel_rfl) (by kernel_rfl) ?_; intro hatc hatf; (repeat (go_big_quiet_step ((go_at_call 21; exact Calls.hat (KC2.out _))))); refine wpQuiet_nil ?_; rintro _ ⟨X, rfl⟩)
      go_wp2_with fail
      go_ret
      exact ⟨by rw [HE.out]; rfl, hn1.trans X.h⟩

end Go.Proofs.Ytajigioibkhhmaa
