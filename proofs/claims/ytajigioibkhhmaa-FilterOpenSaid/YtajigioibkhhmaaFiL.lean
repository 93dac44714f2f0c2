/- The law FilterOpen. -/
import Derived.Test.YtajigioibkhhmaaFiI
import Derived.Test.YtajigioibkhhmaaFiJ
import Derived.Test.YtajigioibkhhmaaFiK
namespace Go.Proofs.Ytajigioibkhhmaa
open Go.RowKit
set_option linter.unusedVariables false

theorem Sl.shape {w : World} {v : Value} {l : List Int} (h : Sl iE 1 w v l) : ∃ a d, v = .slice a l.length d := by
  obtain ⟨a, d, e, _⟩ := h
  exact ⟨a, d, e⟩

set_option maxHeartbeats 4000000 in
set_option maxRecDepth 100000 in
theorem l_filterOpen (C : CfgR) (at0 : Option Addr) (l : List Sn) (c : Nat) (k leave : Int) (w : World) (h : Sl Sn.enc 3 w (.slice at0 l.length c) l) :
    Calls Try.prog 3 #[.agg #[.int .i64 C.cl, .int .i64 C.cb, .int .i64 C.ht, .int .i64 C.ri, .int .i64 C.ru, .int .i64 C.wd, .int .i64 C.dp], .slice at0 l.length c, .int .i64 k, .int .i64 leave] w fun e w' => e = .returned (.bool true) ∧ New w w' := by
  have hlm : l.length ≤ maxLen := by obtain ⟨_, h1, h2, _⟩ := h.row'; omega
  have KW := Lib.hid (fun W => fi_wakes W)
  have K1 := Lib.hid (fun W n => fi_room at0 l c hlm k W ((h.keep (n : New w W)).row'.2.2.2.2))
  have K2 := Lib.hid (fun W n => rf_room at0 l c hlm k W ((h.keep (n : New w W)).row'.2.2.2.2))
  have K3 := Lib.hid (fun W n => fi_open C at0 l c W (h.keep (n : New w W)))
  have K4 := Lib.hid (fun W n => rf_open C at0 l c hlm W ((h.keep (n : New w W)).row'.2.2.2.2))
  have K5 := Lib.hid (fun W n => fi_fits C at0 l c hlm k W ((h.keep (n : New w W)).row'.2.2.2.2))
  have K6 := Lib.hid (fun W n => rf_fits C at0 l c hlm k W ((h.keep (n : New w W)).row'.2.2.2.2))
  have K7 := Lib.hid (fun u W n q => fi_goes C at0 l c u leave W (h.keep (n : New w W)) q)
  clear h hlm
  generalize rTop l k = tt at *
  generalize rOk l k = bb at *
  generalize fitB C l k = fb at *
  generalize fiE C l = ee at *
  generalize opI C l = R at *
  generalize l.length = n at *
  by_cases h8 : 100 < n
  · have hd : decide (100 < n) = true := decide_eq_true h8
    go_enter Try.func3, Try.ntmps3
    go_wp2_with fail
    refine (KW.out _).mono ?_
    rintro e w1 ⟨rfl, n1⟩
    go_wp2_with fail
    go_ret
    exact ⟨rfl, New.trans (by (repeat (first | (with_reducible exact New.refl _) | (with_reducible assumption) | ((with_reducible refine New.setB ?_ ?_ _); focus (first | omega | (simp; omega) | (simp; done))) | (with_reducible refine New.alloc ?_ _) | (with_reducible refine New.drew ?_) | (with_reducible refine New.drewN ?_ _) | (with_reducible refine New.hat ?_ _) | ((with_reducible apply New.snart); (with_reducible assumption))))) n1⟩
  · have hd : decide (100 < n) = false := decide_eq_false h8
    go_enter Try.func3, Try.ntmps3
    go_wp2_with fail
    refine Calls.at (fun W0 hW => ?_)
    have n0 : New w W0 := by subst hW; (repeat (first | (with_reducible exact New.refl _) | (with_reducible assumption) | ((with_reducible refine New.setB ?_ ?_ _); focus (first | omega | (simp; omega) | (simp; done))) | (with_reducible refine New.alloc ?_ _) | (with_reducible refine New.drew ?_) | (with_reducible refine New.drewN ?_ _) | (with_reducible refine New.hat ?_ _) | ((with_reducible apply New.snart); (with_reducible assumption))))
    have hc : CellsAt W0 w.heap.size 0 C.enc := by subst hW; exact cells_new _ _ _
    clear hW
    refine (K1.out _ n0).mono ?_
    rintro e w1 ⟨rfl, n1⟩
    have hn1 := Lib.hid (n0.trans n1)
    have hc1 := Lib.hid (hc.keep n1)
    clear n1 n0 hc
    go_wp2_with fail
    refine (K2.out _ hn1.out).mono ?_
    rintro e w2 ⟨rfl, n2⟩
    have hn2 := Lib.hid (hn1.out.trans n2)
    have hc2 := Lib.hid (hc1.out.keep n2)
    obtain ⟨c0, c1, c2, c3, c4, c5, c6⟩ := CfgR.at hc2.out
    clear n2 hn1 hc1
    go_wp2_with fail
    refine (K3.out _ hn2.out).mono ?_
    rintro e w3 ⟨v3, rfl, s3, n3⟩
    have hn3 := Lib.hid (hn2.out.trans n3)
    have hc3 := Lib.hid (hc2.out.keep n3)
    clear c0 c1 c2 c3 c4 c5 c6
    obtain ⟨c0, c1, c2, c3, c4, c5, c6⟩ := CfgR.at hc3.out
    obtain ⟨a3, d3, rfl⟩ := s3.shape
    have S3 := Lib.hid s3
    clear n3 hn2 hc2 s3
    go_wp2_with fail
    refine (K4.out _ hn3.out).mono ?_
    rintro e w4 ⟨v4, rfl, s4, n4⟩
    have hn4 := Lib.hid (hn3.out.trans n4)
    have hc4 := Lib.hid (hc3.out.keep n4)
    clear c0 c1 c2 c3 c4 c5 c6
    obtain ⟨c0, c1, c2, c3, c4, c5, c6⟩ := CfgR.at hc4.out
    obtain ⟨a4, d4, rfl⟩ := s4.shape
    have S4 := Lib.hid s4
    have T3 := Lib.hid (S3.out.keep n4)
    clear n4 hn3 hc3 s4 S3
    have KI := Lib.hid (fun W q => by have := rInts_any _ _ _ _ W (T3.out.keep (q : New w4 W)) (S4.out.keep q); rw [decide_eq_true rfl] at this; exact this : ∀ W, New w4 W → Calls Try.prog 12 #[.slice a3 R.length d3, .slice a4 R.length d4] W fun e w' => e = .returned (.bool true) ∧ New W w')
    have KG := Lib.hid (fun W (q : New w4 W) => K7.out _ W (hn4.out.trans q) (S4.out.keep q))
    have KF := Lib.hid (fun W (q : New w4 W) => K5.out W (hn4.out.trans q))
    have KR := Lib.hid (fun W (q : New w4 W) => K6.out W (hn4.out.trans q))
    clear K1 K2 K3 K4 K5 K6 K7 T3 S4
    have hN := hn4.out
    clear hn4 hc4
    generalize R.length = m at *
    cases bb <;> cases fb
    all_goals
      go_wp2_with fail
      (refine wp_region_hat (by kernel_rfl) (by kernel_rfl) ?_; intro hatc hatf; (repeat (go_big_quiet_step ((first | (go_at_call 10; exact Calls.hat (KF.out _ (Hat.h _))) | (go_at_call 11; exact Calls.hat (KR.out _ (Hat.h _))) | (go_at_call 12; exact Calls.hat (KI.out _ (Hat.h _))) | (go_at_call 13; exact Calls.hat (KG.out _ (Hat.h _))) | (go_at_call 5; exact Calls.hat (KW.out _)))))); refine wpQuiet_nil ?_; rintro _ ⟨X, rfl⟩)
      go_wp2_with fail
      go_ret
      exact ⟨rfl, hN.trans X.h⟩

end Go.Proofs.Ytajigioibkhhmaa
