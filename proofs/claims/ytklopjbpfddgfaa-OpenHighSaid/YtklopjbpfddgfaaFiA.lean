/- Package filter: has it room, check, a row cloned. -/
import Derived.Test.YtklopjbpfddgfaaSpP
import Derived.Test.YtklopjbpfddgfaaSoC
import Derived.Test.YtklopjbpfddgfaaSlApp
import Derived.Test.YtklopjbpfddgfaaSoLS
import Derived.Test.YtklopjbpfddgfaaSoS
import Derived.Test.YtklopjbpfddgfaaWholeI
import Derived.Deep.DeepCutAuto
import Derived.Lib.SliceRun
namespace Go.Proofs.Ytklopjbpfddgfaa
open Go.RowKit
set_option linter.unusedVariables false

set_option maxHeartbeats 1000000 in
theorem fi_hasRoom (C : CfgR) (s : Sn) (top : Int) (w : World) :
    Calls Try.prog 44 #[.agg #[.int .i64 C.cl, .int .i64 C.cb, .int .i64 C.ht, .int .i64 C.ri, .int .i64 C.ru, .int .i64 C.wd, .int .i64 C.dp], .agg #[.int .i64 s.lo, .int .i64 s.hi, .bool s.wk], .int .i64 top] w fun e w' => e = .returned (.bool (decide (C.ht ≤ wrap64 (top - s.hi)))) ∧ New w w' := by
  go_enter Try.func44, Try.ntmps44
  go_wp2_with fail
  refine bodyPost_ret (v := .bool (decide (C.ht ≤ wrap64 (top - s.hi)))) (by simp [results, Try.results44, go_sem, *]) rfl ?_
  exact ⟨rfl, by (repeat (first | (with_reducible exact New.refl _) | (with_reducible assumption) | ((with_reducible refine New.setB ?_ ?_ _); focus (first | omega | (simp; omega) | (simp; done))) | (with_reducible refine New.alloc ?_ _) | (with_reducible refine New.drew ?_) | (with_reducible refine New.drewN ?_ _) | (with_reducible refine New.hat ?_ _) | ((with_reducible apply New.snart); (with_reducible assumption))))⟩

/-- What is wrong with a config and spans. -/
def fiE (C : CfgR) (l : List Sn) : Int := if C.err = 0 then spE l else C.err
theorem fiE_ok {C : CfgR} {l : List Sn} (h : fiE C l = 0) : C.err = 0 ∧ spE l = 0 := by
  unfold fiE at h
  split at h
  · rename_i h1; exact ⟨h1, h⟩
  · rename_i h1; exact absurd h h1
theorem fi_err_two (C : CfgR) : C.err = 0 ∨ C.err = 20 := by unfold CfgR.err checkE; split <;> simp
theorem fiE_three (C : CfgR) (l : List Sn) : fiE C l = 0 ∨ fiE C l = 2 ∨ fiE C l = 20 := by
  unfold fiE
  rcases fi_err_two C with h | h <;> rcases chkE_two l with k | k <;> rw [h] <;> simp [k]

set_option maxHeartbeats 1000000 in
theorem fi_check (C : CfgR) (at0 : Option Addr) (l : List Sn) (c : Nat) (hl : l.length ≤ maxLen) (w : World) (H : RowIn Sn.enc 3 w at0 l) :
    Calls Try.prog 35 #[.agg #[.int .i64 C.cl, .int .i64 C.cb, .int .i64 C.ht, .int .i64 C.ri, .int .i64 C.ru, .int .i64 C.wd, .int .i64 C.dp], .slice at0 l.length c] w fun e w' => e = .returned (.int .i64 (fiE C l)) ∧ New w w' := by
  have KS := Lib.hid (fun W n => sp_check at0 l c hl W (H.keep (n : New w W)))
  have KC := Lib.hid (fun W => check_any C.cl C.cb C.ht C.ri C.ru C.wd C.dp W)
  obtain ⟨n, hn⟩ : ∃ n, n = l.length := ⟨_, rfl⟩
  rw [← hn] at KS ⊢
  have h2 := fi_err_two C
  obtain ⟨r, hr⟩ : ∃ r, r = C.err := ⟨_, rfl⟩
  have HR : Hid (fiE C l = if r = 0 then spE l else r) := Lib.hid (by rw [hr]; rfl)
  rw [show checkE C.cl C.cb C.ht C.ri C.ru C.wd C.dp = r from hr.symm] at KC
  rw [← hr] at h2
  clear hr hn H hl
  go_enter Try.func35, Try.ntmps35
  go_wp2_with fail
  refine (KC.out _).mono ?_
  rintro e w1 ⟨rfl, n1, -⟩
  have hn1 : New w w1 := New.trans (by (repeat (first | (with_reducible exact New.refl _) | (with_reducible assumption) | ((with_reducible refine New.setB ?_ ?_ _); focus (first | omega | (simp; omega) | (simp; done))) | (with_reducible refine New.alloc ?_ _) | (with_reducible refine New.drew ?_) | (with_reducible refine New.drewN ?_ _) | (with_reducible refine New.hat ?_ _) | ((with_reducible apply New.snart); (with_reducible assumption))))) n1
  clear n1
  rcases h2 with rfl | rfl
  · go_wp2_with fail
    refine (KS.out _ hn1).mono ?_
    rintro e w2 ⟨rfl, n2⟩
    go_wp2_with fail
    go_ret
    exact ⟨by rw [HR.out]; rfl, hn1.trans n2⟩
  · go_wp2_with fail
    go_ret
    exact ⟨by rw [HR.out]; rfl, hn1⟩

set_option maxHeartbeats 1000000 in
theorem fi_rooms (at0 : Option Addr) (len c : Nat) (n : Nat) (w : World) :
    CallsIn Fence.wide n Try.prog 46 #[.slice at0 len c] w fun e w' => e = .returned (.func (.func 49) #[] #[.pointer (some ⟨w.heap.size, 0, none⟩)]) ∧ w' = w.alloc (.cells #[.slice at0 len c] 49) := by
  refine callsIn_wide.2 ?_
  go_enter Try.func46, Try.ntmps46
  go_wp2_with fail
  go_ret
  exact ⟨rfl, rfl⟩

set_option maxHeartbeats 1000000 in
theorem fi_clone (at0 : Option Addr) (l : List Sn) (c : Nat) (hl : l.length ≤ 1000) (w : World) (h : Sl Sn.enc 3 w (.slice at0 l.length c) l) :
    Calls Try.prog 42 #[.slice at0 l.length c] w fun e w' => ∃ a d, e = .returned (.slice a l.length d) ∧ Sl Sn.enc 3 w' (.slice a l.length d) l ∧ New w w' ∧ ∀ ad, a = some ad → w.heap.size ≤ ad.block ∧ ∃ cs fr, w'.heap[ad.block]? = some (.cells cs 54 fr) := by
  obtain ⟨i0, hi, hz0, hz1, hz2⟩ := info_parts sn_info
  cases at0 with
  | none =>
    obtain ⟨-, h1, h2, h3, -⟩ := h.row'
    have hc0 := h3 rfl
    have hm0 : l = [] := List.eq_nil_of_length_eq_zero (by omega)
    subst hm0
    subst hc0
    have e1 : ∀ W, (binOp .eql 49 (.slice none 0 0) (.slice none 0 0)).run Try.prog W = .ok (.bool true) W := fun W => (Lib.run_eql_slice_nil W _ _ _ _ _ _ _ Try.underlying49).trans rfl
    go_enter Try.func42, Try.ntmps42
    go_wp2_with fail
    go_ret
    exact ⟨none, 0, rfl, Sl.nil, by (repeat (first | (with_reducible exact New.refl _) | (with_reducible assumption) | ((with_reducible refine New.setB ?_ ?_ _); focus (first | omega | (simp; omega) | (simp; done))) | (with_reducible refine New.alloc ?_ _) | (with_reducible refine New.drew ?_) | (with_reducible refine New.drewN ?_ _) | (with_reducible refine New.hat ?_ _) | ((with_reducible apply New.snart); (with_reducible assumption)))), fun ad h => by cases h⟩
  | some ad =>
    go_enter Try.func42, Try.ntmps42
    have e2 : ∀ W n d, (binOp .eql 49 (.slice (some ad) n d) (.slice none 0 0)).run Try.prog W = .ok (.bool false) W := fun W n d => (Lib.run_eql_slice_nil W _ _ _ _ _ _ _ Try.underlying49).trans rfl
    go_wp2_with (at_builtin; refine wpList_append_sl rfl _ _ 49 rfl Sn.enc_len Sn.enc_one w.heap.size 54 i0 _ 24 Try.underlying49 hi hz0 hz1 hz2 rfl (by decide) _ ([] : List Sn) rfl ⟨rfl, .inr ⟨w.heap.size, 0, #[], rfl, Nat.le_refl _, heap_new _ _, Nat.le_refl _, Nat.zero_le _, rfl, rfl⟩⟩ _ l rfl (h.keep (by (repeat (first | (with_reducible exact New.refl _) | (with_reducible assumption) | ((with_reducible refine New.setB ?_ ?_ _); focus (first | omega | (simp; omega) | (simp; done))) | (with_reducible refine New.alloc ?_ _) | (with_reducible refine New.drew ?_) | (with_reducible refine New.drewN ?_ _) | (with_reducible refine New.hat ?_ _) | ((with_reducible apply New.snart); (with_reducible assumption)))))) (by unfold maxLen; simp; omega) (by simp; omega) (by simp) ?_; intro v' w1 hown hnew _; obtain ⟨a, d, N, hN, rfl⟩ := own_shape2 hown)
    go_ret
    rw [List.nil_append] at hN hown
    subst hN
    refine ⟨a, d, rfl, own_sl Sn.enc_len hown, hnew _ (by (repeat (first | (with_reducible exact New.refl _) | (with_reducible assumption) | ((with_reducible refine New.setB ?_ ?_ _); focus (first | omega | (simp; omega) | (simp; done))) | (with_reducible refine New.alloc ?_ _) | (with_reducible refine New.drew ?_) | (with_reducible refine New.drewN ?_ _) | (with_reducible refine New.hat ?_ _) | ((with_reducible apply New.snart); (with_reducible assumption))))) (Nat.le_refl _), fun ad h => ⟨own_block hown _ (by rw [h]; rfl), ?_⟩⟩
    rcases hown.2 with ⟨q, -⟩ | ⟨g, cap', cur, q, -, hg, -⟩
    · injection q with q; rw [h] at q; cases q
    · injection q with q; rw [h] at q; cases q; exact ⟨_, _, hg⟩

end Go.Proofs.Ytklopjbpfddgfaa
