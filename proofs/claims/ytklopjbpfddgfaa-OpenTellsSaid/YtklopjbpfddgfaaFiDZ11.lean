import Derived.Test.YtklopjbpfddgfaaFiCZ11

/- Package filter: is a span open? has it room? -/
namespace Go.Proofs.Ytklopjbpfddgfaa
open Go.RowKit
set_option linter.unusedVariables false

set_option maxHeartbeats 1000000 in
set_option maxRecDepth 100000 in
theorem fi_isOpen (C : CfgR) (at0 : Option Addr) (l : List Sn) (cap Bo Bc k : Nat) (hk : k < l.length) (hl : l.length ≤ 1000) (top : Int) (w : World) (R : RowBox w Bo at0 cap l) (hc : CellsAt w Bc 0 C.enc) :
    Calls Try.prog 43 #[.int .i64 k, .int .i64 top, .pointer (some ⟨Bo, 0, none⟩), .pointer (some ⟨Bc, 0, none⟩)] w fun e w' => e = .returned (.bool (l[k].wk && decide (C.ht ≤ wrap64 (top - l[k].hi)))) ∧ New w w' := by
  have KH := Lib.hid (fun s W => fi_hasRoom C s top W)
  obtain ⟨b0, off, rfl, hA⟩ := R.row (by omega)
  obtain ⟨d0, d1, d2⟩ := Sn.cells hA k hk
  have o0 := R.cell
  obtain ⟨c0, c1, c2, c3, c4, c5, c6⟩ := CfgR.at hc
  obtain ⟨s, hs⟩ : ∃ s, s = l[k] := ⟨_, rfl⟩
  rw [← hs] at d0 d1 d2 ⊢
  clear hs hA hc R
  generalize hn : l.length = n at *
  cases hw : s.wk
  · rw [hw] at d2
    go_enter Try.func43, Try.ntmps43
    go_wp2_with fail
    (refine wp_region_hat (by kernel_rfl) (by kernel_rfl) ?_; intro hatc hatf; (repeat (go_big_quiet_step ((fail)))); refine wpQuiet_nil ?_; rintro _ ⟨X, rfl⟩)
    go_wp2_with fail
    go_ret
    exact ⟨rfl, X.h⟩
  · rw [hw] at d2
    have KC := Lib.hid (fun W => by have := KH.out s W; rw [hw] at this; exact this : ∀ W, Calls Try.prog 44 #[.agg #[.int .i64 C.cl, .int .i64 C.cb, .int .i64 C.ht, .int .i64 C.ri, .int .i64 C.ru, .int .i64 C.wd, .int .i64 C.dp], .agg #[.int .i64 s.lo, .int .i64 s.hi, .bool true], .int .i64 top] W fun e w' => e = .returned (.bool (decide (C.ht ≤ wrap64 (top - s.hi)))) ∧ New W w')
    generalize decide (C.ht ≤ wrap64 (top - s.hi)) = b at *
    clear KH
    go_enter Try.func43, Try.ntmps43
    go_wp2_with fail
    (refine wp_region_hat (by kernel_rfl) (by kernel_rfl) ?_; intro hatc hatf; (repeat (go_big_quiet_step ((go_at_call 44; exact Calls.hat (KC.out _))))); refine wpQuiet_nil ?_; rintro _ ⟨X, rfl⟩)
    cases b
    all_goals
      go_wp2_with fail
      go_ret
      exact ⟨rfl, X.h⟩

/-- Has the k-th span room? -/
def fitB (C : CfgR) (l : List Sn) (k : Int) : Bool := rOk l k && (decide (C.err = 0) && decide (C.ht ≤ wrap64 (rTop l k - (l[k.toNat]?.map (·.hi)).getD 0)))

end Go.Proofs.Ytklopjbpfddgfaa
