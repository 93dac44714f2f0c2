import Derived.Test.YtdbhlepbaepngaaGreatDoorSoRZ15
import Derived.Test.YtdbhlepbaepngaaGreatDoorHatS
import Derived.Deep.LoopGhost
import Derived.Shelf.Abstract
import Derived.Test.YtdbhlepbaepngaaGreatDoorTriCZ15
import Derived.Test.YtdbhlepbaepngaaGreatDoorWholeIZ15

/- Package soup: what is in order; rows of tests. -/
namespace Go.Proofs.YtdbhlepbaepngaaGreatDoor
open Go.RowKit
set_option linter.unusedVariables false

theorem retBo {a b : Bool} (h : a = b) : Ending.returned (.bool a) = .returned (.bool b) := by rw [h]

theorem l_nan (x : Int) (w : World) : Calls Tryz.prog 102 #[.int .i64 x] w fun e w' => e = .returned (.bool false) ∧ w = w' := by
  go_enter Tryz.func102, Tryz.ntmps102
  go_wp2
  go_ret
  exact ⟨rfl, rfl⟩

set_option maxHeartbeats 400000 in
theorem l_less (x y : Int) (w : World) : Calls Tryz.prog 99 #[.int .i64 x, .int .i64 y] w fun e w' => e = .returned (.bool (decide (x < y))) ∧ w = w' := by
  go_enter Tryz.func99, Tryz.ntmps99
  go_wp2_with (go_at_call 102; refine (l_nan _ _).mono ?_; rintro e w' ⟨rfl, rfl⟩)
  all_goals
    go_ret
    exact ⟨rfl, rfl⟩

/-- None is above the one behind it. -/
def ordB : List Int → Bool
  | a :: b :: l => decide (a ≤ b) && ordB (b :: l)
  | _ => true
theorem ordB_drop : ∀ (l : List Int) (j : Nat), ordB l = true → ordB (l.drop j) = true
  | l, 0, h => h
  | [], _ + 1, _ => rfl
  | [a], j + 1, _ => by simp [ordB]
  | a :: b :: l, j + 1, h => by
    simp only [ordB, Bool.and_eq_true] at h
    exact ordB_drop (b :: l) j h.2
theorem ordB_step (l : List Int) (j : Nat) (h : j + 1 < l.length) : ordB (l.drop j) = (decide (l[j] ≤ l[j + 1]) && ordB (l.drop (j + 1))) := by
  rw [List.drop_eq_getElem_cons (show j < l.length by omega), List.drop_eq_getElem_cons h]
  rfl

/-- A row of numbers at a block's head. -/
def IntsAt (w : World) (b : Nat) (l : List Int) : Prop := ∀ j (h : j < l.length), w.cell? ⟨b, j, none⟩ = some (.int .i64 l[j])
theorem IntsAt.keep {w w' : World} {b : Nat} {l : List Int} (h : IntsAt w b l) (hn : New w w') : IntsAt w' b l := fun j hj => hn.keep (h j hj)

set_option maxHeartbeats 2000000 in
theorem l_sorted (b c : Nat) (l : List Int) (hl : l.length ≤ 100) (h0 : 0 < l.length) (w : World) (H : IntsAt w b l) :
    Calls Tryz.prog 94 #[.slice (some ⟨b, 0, none⟩) l.length c] w fun e w' => e = .returned (.bool (ordB l)) ∧ New w w' := by
  go_enter Tryz.func94, Tryz.ntmps94
  go_wp2_with fail
  go_loopg [3] l.length (fun k s wr => ∃ i : Nat, s = .int .i64 i ∧ i < l.length ∧ i ≤ k ∧ ordB (l.drop i) = true ∧ New w wr)
  case atStart =>
    refine ⟨l.length - 1, by congr 1; omega, by omega, by omega, ?_, New.refl _⟩
    rw [List.drop_eq_getElem_cons (by omega), show l.length - 1 + 1 = l.length by omega, List.drop_length]
    rfl
  case round =>
    obtain ⟨i, rfl, hi, hik, hord, hn⟩ := hrel
    have HO := Lib.hid hord
    clear hord
    cases i with
    | zero =>
      go_wp2_with fail
      go_ret
      exact ⟨retBo HO.out.symm, hn⟩
    | succ i =>
      have c0 := hn.keep (H i (by omega))
      have c1 := hn.keep (H (i + 1) hi)
      have hst := ordB_step l i hi
      rw [HO.out, Bool.and_true] at hst
      have HS := Lib.hid hst
      clear hst
      cases hlt : decide (l[i + 1] < l[i])
      · have HL := Lib.hid hlt
        have hc := Lib.hid (fun W => by have q := l_less l[i + 1] l[i] W; rw [hlt] at q; exact q : ∀ W, Calls Tryz.prog 99 #[.int .i64 l[i + 1], .int .i64 l[i]] W fun e w' => e = .returned (.bool false) ∧ W = w')
        clear hlt
        go_wp2_with fail
        (refine wp_region_hat (by kernel_rfl) (by kernel_rfl) ?_; intro hatc hatf; (repeat (go_big_quiet_step ((go_at_call 99; exact Calls.hat_same (hc.out _))))); refine wpQuiet_nil ?_; rintro _ ⟨x, rfl⟩)
        go_wp2_with fail
        go_roundg (gk - 1)
        case measure => omega
        case rel =>
          refine ⟨i, by first | rfl | go_num, by omega, by omega, ?_, hn.hat x⟩
          rw [HS.out]
          have := HL.out
          simp at this ⊢
          first | done | omega
      · have HL := Lib.hid hlt
        have hc := Lib.hid (fun W => by have q := l_less l[i + 1] l[i] W; rw [hlt] at q; exact q : ∀ W, Calls Tryz.prog 99 #[.int .i64 l[i + 1], .int .i64 l[i]] W fun e w' => e = .returned (.bool true) ∧ W = w')
        clear hlt
        go_wp2_with fail
        (refine wp_region_hat (by kernel_rfl) (by kernel_rfl) ?_; intro hatc hatf; (repeat (go_big_quiet_step ((go_at_call 99; exact Calls.hat_same (hc.out _))))); refine wpQuiet_nil ?_; rintro _ ⟨x, rfl⟩)
        go_wp2_with fail
        go_ret
        refine ⟨retBo ?_, hn.hat x⟩
        cases ho : ordB l with
        | false => rfl
        | true =>
          have h1 := ordB_drop l i ho
          rw [HS.out] at h1
          have := HL.out
          simp at this h1
          first | done | omega

set_option maxHeartbeats 400000 in
theorem l_inOrder (b c : Nat) (l : List Int) (hl : l.length ≤ 100) (h0 : 0 < l.length) (w : World) (H : IntsAt w b l) :
    Calls Tryz.prog 73 #[.slice (some ⟨b, 0, none⟩) l.length c] w fun e w' => e = .returned (.bool (ordB l)) ∧ New w w' := by
  have hc := Lib.hid (l_sorted b c l hl h0 w H)
  go_enter Tryz.func73, Tryz.ntmps73
  go_wp2_with fail
  refine hc.out.mono ?_
  rintro e w1 ⟨rfl, n1⟩
  go_wp2_with fail
  go_ret
  exact ⟨rfl, n1⟩

/-! Rows of tests. -/
structure Fn where
  g : Nat
  bnd : Array Value
  b : Bool
def FnAt (w : World) (b : Nat) (l : List Fn) : Prop := ∀ j (h : j < l.length), w.cell? ⟨b, j, none⟩ = some (.func (.func l[j].g) #[] l[j].bnd)
/-- A test: what it answers in every world above w0. -/
structure Good (w0 : World) (f : Fn) : Prop where
  eg : ∀ args w, (callFunc f.g args).run Tryz.prog w = .ok (.enter f.g args) w
  run : ∀ W, New w0 W → Calls Tryz.prog f.g f.bnd W fun e w' => e = .returned (.bool f.b) ∧ New W w'

set_option maxHeartbeats 400000 in
theorem l_not (w0 : World) (f : Fn) (hf : Good w0 f) (w : World) (hn : New w0 w) :
    Calls Tryz.prog 87 #[.func (.func f.g) #[] f.bnd] w fun e w' => e = .returned (.bool (!f.b)) ∧ New w w' := by
  have hc := Lib.hid (hf.run w hn)
  obtain ⟨g, bnd, b⟩ := f
  have eg := hf.eg
  clear hf
  simp only at hc eg ⊢
  go_enter Tryz.func87, Tryz.ntmps87
  go_wp2_with (go_at_fn g; refine hc.out.mono ?_; rintro e w1 ⟨rfl, n1⟩)
  go_ret
  exact ⟨rfl, n1⟩

def FnPost (l : List Fn) (w : World) (e : Ending) (w' : World) : Prop := ∃ i : Int, l.all (·.b) = decide (i < 0) ∧ e = .returned (.int .i64 i) ∧ New w w'

set_option maxHeartbeats 2000000 in
theorem l_index (w0 : World) (b c : Nat) (l : List Fn) (hl : l.length ≤ 100) (hg : ∀ j (h : j < l.length), Good w0 l[j]) (w : World) (hn0 : New w0 w) (H : FnAt w b l) :
    Calls Tryz.prog 95 #[.slice (some ⟨b, 0, none⟩) l.length c, .func (.func 87) #[] #[]] w (FnPost l w) := by
  go_enter Tryz.func95, Tryz.ntmps95
  go_wp2_with fail
  go_loopg [8] l.length (fun k s wr => ∃ i : Nat, s = .int .i64 i ∧ i + k = l.length ∧ (l.take i).all (·.b) = true ∧ New w wr)
  case atStart => exact ⟨0, by simp, by omega, by simp, New.refl _⟩
  case round =>
    obtain ⟨i, rfl, hik, hall, hn⟩ := hrel
    have HA := Lib.hid hall
    clear hall
    by_cases hlt : i < l.length
    · have c0 := hn.keep (H i hlt)
      have hgi := hg i hlt
      have hcc := Lib.hid (l_not w0 l[i] hgi wr (hn0.trans hn))
      have hta := List.take_succ_eq_append_getElem hlt
      have HT := Lib.hid hta
      clear hta hgi
      cases hb : l[i].b
      · rw [hb] at hcc
        have HB := Lib.hid hb
        clear hb
        go_wp2_with (go_at_call 87; refine hcc.out.mono ?_; rintro e w1 ⟨rfl, n1⟩)
        go_ret
        refine ⟨i, ?_, rfl, hn.trans n1⟩
        rw [decide_eq_false (by omega)]
        rw [List.all_eq_false]
        exact ⟨l[i], List.getElem_mem hlt, by rw [HB.out]; simp⟩
      · rw [hb] at hcc
        have HB := Lib.hid hb
        clear hb
        go_wp2_with (go_at_call 87; refine hcc.out.mono ?_; rintro e w1 ⟨rfl, n1⟩)
        go_roundg (gk - 1)
        case measure => omega
        case rel => exact ⟨i + 1, by go_num, by omega, by rw [HT.out, List.all_append, HA.out]; simp [HB.out], hn.trans n1⟩
    · go_wp2_with fail
      go_ret
      refine ⟨-1, ?_, rfl, hn⟩
      have := HA.out
      rw [List.take_of_length_le (by omega)] at this
      rw [this]; rfl

set_option maxHeartbeats 400000 in
theorem l_contains (w0 : World) (b c : Nat) (l : List Fn) (hl : l.length ≤ 100) (hg : ∀ j (h : j < l.length), Good w0 l[j]) (w : World) (hn0 : New w0 w) (H : FnAt w b l) :
    Calls Tryz.prog 86 #[.slice (some ⟨b, 0, none⟩) l.length c, .func (.func 87) #[] #[]] w fun e w' => e = .returned (.bool (!l.all (·.b))) ∧ New w w' := by
  have hc := Lib.hid (l_index w0 b c l hl hg w hn0 H)
  obtain ⟨v, hv⟩ : ∃ v, v = l.all (·.b) := ⟨_, rfl⟩
  rw [← hv]
  have HV := Lib.hid hv
  clear hv
  go_enter Tryz.func86, Tryz.ntmps86
  go_wp2_with fail
  refine hc.out.mono ?_
  rintro e w1 ⟨i, hi, rfl, n1⟩
  have HI := Lib.hid hi
  clear hi
  go_wp2_with fail
  go_ret
  refine ⟨retBo ?_, n1⟩
  rw [HV.out, HI.out]
  by_cases h : i < 0
  · simp [h]
  · simp [h]; omega

set_option maxHeartbeats 400000 in
theorem l_all (w0 : World) (b c : Nat) (l : List Fn) (hl : l.length ≤ 100) (hg : ∀ j (h : j < l.length), Good w0 l[j]) (w : World) (hn0 : New w0 w) (H : FnAt w b l) :
    Calls Tryz.prog 56 #[.slice (some ⟨b, 0, none⟩) l.length c] w fun e w' => e = .returned (.bool (l.all (·.b))) ∧ New w w' := by
  have hc := Lib.hid (l_contains w0 b c l hl hg w hn0 H)
  obtain ⟨v, hv⟩ : ∃ v, v = l.all (·.b) := ⟨_, rfl⟩
  rw [← hv] at hc ⊢
  clear hv
  go_enter Tryz.func56, Tryz.ntmps56
  go_wp2_with fail
  refine hc.out.mono ?_
  rintro e w1 ⟨rfl, n1⟩
  go_wp2_with fail
  go_ret
  exact ⟨retBo (by simp), n1⟩

end Go.Proofs.YtdbhlepbaepngaaGreatDoor

/- Package tri: Normal of whatever comes, Check, Walk. -/
namespace Go.Proofs.YtdbhlepbaepngaaGreatDoor
open Go.RowKit
set_option linter.unusedVariables false

set_option maxHeartbeats 2000000 in
set_option maxRecDepth 100000 in
theorem t_normal (i x0 y0 z0 x1 y1 z1 x2 y2 z2 : Int) (w : World) :
    Calls Tryz.prog 93 #[.agg #[.int .i64 i, .int .i64 x0, .int .i64 y0, .int .i64 z0, .int .i64 x1, .int .i64 y1, .int .i64 z1, .int .i64 x2, .int .i64 y2, .int .i64 z2]] w fun e w' => e = .returned (.tuple #[.int .i64 (normX x0 y0 z0 x1 y1 z1 x2 y2 z2), .int .i64 (normY x0 y0 z0 x1 y1 z1 x2 y2 z2), .int .i64 (normZ x0 y0 z0 x1 y1 z1 x2 y2 z2), .int .i64 (normE x0 y0 z0 x1 y1 z1 x2 y2 z2)]) ∧ New w w' := by
  cases hs : stB 32 32 x0 y0 z0 x1 y1 z1 x2 y2 z2
  · have hk : okB x0 y0 z0 x1 y1 z1 x2 y2 z2 = false := by unfold okB; rw [hs]; rfl
    obtain ⟨h1, h2, h3, h4⟩ := norm_no hk
    rw [h1, h2, h3, h4]
    have hst := fun W => t_stands i x0 y0 z0 x1 y1 z1 x2 y2 z2 32 32 W
    rw [hs] at hst
    clear h1 h2 h3 h4 hk hs
    go_enter Tryz.func93, Tryz.ntmps93
    go_wp2_with fail
    refine (hst _).mono ?_
    rintro e W0 ⟨rfl, n1⟩
    have hn : New w W0 := New.trans (by (repeat (first | (with_reducible exact New.refl _) | (with_reducible assumption) | ((with_reducible refine New.setB ?_ ?_ _); focus (first | omega | (simp; omega) | (simp; done))) | (with_reducible refine New.alloc ?_ _) | (with_reducible refine New.drew ?_) | (with_reducible refine New.drewN ?_ _) | (with_reducible refine New.hat ?_ _) | ((with_reducible apply New.snart); (with_reducible assumption))))) n1
    clear n1 hst
    go_wp2_with fail
    refine bodyPost_ret (v := .tuple #[.int .i64 0, .int .i64 0, .int .i64 0, .int .i64 40]) (by simp [results, Tryz.results93, go_sem]) rfl ?_
    exact ⟨rfl, hn⟩
  · exact t_normal_ok i _ _ _ _ _ _ _ _ _ w hs

def tCheckE (cl cb ht ri ru wd dp i x0 y0 z0 x1 y1 z1 x2 y2 z2 : Int) : Int := if checkE cl cb ht ri ru wd dp ≠ 0 then 20 else if (1 ≤ i ∧ i ≤ 1073741824) ∧ stB wd dp x0 y0 z0 x1 y1 z1 x2 y2 z2 = true ∧ okB x0 y0 z0 x1 y1 z1 x2 y2 z2 = true then 0 else 40

theorem checkE_two (cl cb ht ri ru wd dp : Int) : checkE cl cb ht ri ru wd dp = 0 ∨ checkE cl cb ht ri ru wd dp = 20 := by unfold checkE; split <;> simp

set_option maxHeartbeats 2000000 in
set_option maxRecDepth 100000 in
theorem t_check (cl cb ht ri ru wd dp i x0 y0 z0 x1 y1 z1 x2 y2 z2 : Int) (w : World) :
    Calls Tryz.prog 67 #[.agg #[.int .i64 cl, .int .i64 cb, .int .i64 ht, .int .i64 ri, .int .i64 ru, .int .i64 wd, .int .i64 dp], .agg #[.int .i64 i, .int .i64 x0, .int .i64 y0, .int .i64 z0, .int .i64 x1, .int .i64 y1, .int .i64 z1, .int .i64 x2, .int .i64 y2, .int .i64 z2]] w fun e w' => e = .returned (.int .i64 (tCheckE cl cb ht ri ru wd dp i x0 y0 z0 x1 y1 z1 x2 y2 z2)) ∧ New w w' := by
  obtain ⟨v, hv⟩ : ∃ v, v = tCheckE cl cb ht ri ru wd dp i x0 y0 z0 x1 y1 z1 x2 y2 z2 := ⟨_, rfl⟩
  rw [← hv]
  unfold tCheckE at hv
  have hcc := fun W => check_any cl cb ht ri ru wd dp W
  have htwo := checkE_two cl cb ht ri ru wd dp
  generalize checkE cl cb ht ri ru wd dp = ce at *
  rcases htwo with rfl | rfl
  rotate_left
  · have hv1 : Hid (v = 20) := by show v = 20; rw [hv]; simp
    clear hv
    go_enter Tryz.func67, Tryz.ntmps67
    go_wp2_with fail
    refine (hcc _).mono ?_
    rintro e W0 ⟨rfl, n1, -⟩
    have hn : New w W0 := New.trans (by (repeat (first | (with_reducible exact New.refl _) | (with_reducible assumption) | ((with_reducible refine New.setB ?_ ?_ _); focus (first | omega | (simp; omega) | (simp; done))) | (with_reducible refine New.alloc ?_ _) | (with_reducible refine New.drew ?_) | (with_reducible refine New.drewN ?_ _) | (with_reducible refine New.hat ?_ _) | ((with_reducible apply New.snart); (with_reducible assumption))))) n1
    clear n1 hcc
    go_wp2_with fail
    go_ret
    rw [hv1.out]
    exact ⟨rfl, hn⟩
  have hst := fun W => t_stands i x0 y0 z0 x1 y1 z1 x2 y2 z2 wd dp W
  by_cases hi : 1 ≤ i ∧ i ≤ 1073741824
  rotate_left
  · have hv1 : Hid (v = 40) := by show v = 40; rw [hv]; simp [hi]
    have hid : decide (1 ≤ i ∧ i ≤ 1073741824) = false := by simpa using hi
    clear hv hi
    have hwi := fun W => t_within i 1 1073741824 W
    rw [hid] at hwi
    go_enter Tryz.func67, Tryz.ntmps67
    go_wp2_with fail
    refine (hcc _).mono ?_
    rintro e W0 ⟨rfl, n1, -⟩
    have d0 : W0.cell? ⟨w.heap.size + 1, 0, none⟩ = some (.int .i64 i) := New.keep n1 (by go_simp)
    have hn : New w W0 := New.trans (by (repeat (first | (with_reducible exact New.refl _) | (with_reducible assumption) | ((with_reducible refine New.setB ?_ ?_ _); focus (first | omega | (simp; omega) | (simp; done))) | (with_reducible refine New.alloc ?_ _) | (with_reducible refine New.drew ?_) | (with_reducible refine New.drewN ?_ _) | (with_reducible refine New.hat ?_ _) | ((with_reducible apply New.snart); (with_reducible assumption))))) n1
    clear n1 hcc
    go_wp2_with fail
    refine (hwi _).mono ?_
    rintro e w' ⟨rfl, rfl⟩
    go_wp2_with fail
    go_ret
    rw [hv1.out]
    exact ⟨rfl, hn⟩
  have hid : decide (1 ≤ i ∧ i ≤ 1073741824) = true := by simpa using hi
  have hwi := fun W => t_within i 1 1073741824 W
  rw [hid] at hwi
  cases hs : stB wd dp x0 y0 z0 x1 y1 z1 x2 y2 z2
  · have hv1 : Hid (v = 40) := by show v = 40; rw [hv, hs]; simp
    rw [hs] at hst
    clear hv hi
    go_enter Tryz.func67, Tryz.ntmps67
    go_wp2_with fail
    generalize hW : World.alloc _ _ = W
    (have c0 : (W).cell? ⟨w.heap.size + 1, 0, none⟩ = some (.int .i64 i) := (by subst hW; go_simp)); (have c1 : (W).cell? ⟨w.heap.size + 1, 1, none⟩ = some (.int .i64 x0) := (by subst hW; go_simp)); (have c2 : (W).cell? ⟨w.heap.size + 1, 2, none⟩ = some (.int .i64 y0) := (by subst hW; go_simp)); (have c3 : (W).cell? ⟨w.heap.size + 1, 3, none⟩ = some (.int .i64 z0) := (by subst hW; go_simp)); (have c4 : (W).cell? ⟨w.heap.size + 1, 4, none⟩ = some (.int .i64 x1) := (by subst hW; go_simp)); (have c5 : (W).cell? ⟨w.heap.size + 1, 5, none⟩ = some (.int .i64 y1) := (by subst hW; go_simp)); (have c6 : (W).cell? ⟨w.heap.size + 1, 6, none⟩ = some (.int .i64 z1) := (by subst hW; go_simp)); (have c7 : (W).cell? ⟨w.heap.size + 1, 7, none⟩ = some (.int .i64 x2) := (by subst hW; go_simp)); (have c8 : (W).cell? ⟨w.heap.size + 1, 8, none⟩ = some (.int .i64 y2) := (by subst hW; go_simp)); (have c9 : (W).cell? ⟨w.heap.size + 1, 9, none⟩ = some (.int .i64 z2) := (by subst hW; go_simp))
    have b5 : W.cell? ⟨w.heap.size, 5, none⟩ = some (.int .i64 wd) := by subst hW; go_simp
    have b6 : W.cell? ⟨w.heap.size, 6, none⟩ = some (.int .i64 dp) := by subst hW; go_simp
    have hn : New w W := by subst hW; (repeat (first | (with_reducible exact New.refl _) | (with_reducible assumption) | ((with_reducible refine New.setB ?_ ?_ _); focus (first | omega | (simp; omega) | (simp; done))) | (with_reducible refine New.alloc ?_ _) | (with_reducible refine New.drew ?_) | (with_reducible refine New.drewN ?_ _) | (with_reducible refine New.hat ?_ _) | ((with_reducible apply New.snart); (with_reducible assumption))))
    clear hW
    refine (hcc _).mono ?_
    rintro e W0 ⟨rfl, n1, -⟩
    ((replace c0 := New.keep n1 c0); (replace c1 := New.keep n1 c1); (replace c2 := New.keep n1 c2); (replace c3 := New.keep n1 c3); (replace c4 := New.keep n1 c4); (replace c5 := New.keep n1 c5); (replace c6 := New.keep n1 c6); (replace c7 := New.keep n1 c7); (replace c8 := New.keep n1 c8); (replace c9 := New.keep n1 c9))
    replace b5 := New.keep n1 b5
    replace b6 := New.keep n1 b6
    replace hn : New w W0 := New.trans hn n1
    clear n1 hcc
    go_wp2_with fail
    refine (hwi _).mono ?_
    rintro e w' ⟨rfl, rfl⟩
    go_wp2_with fail
    refine (hst _).mono ?_
    rintro e W1 ⟨rfl, n1⟩
    replace hn : New w W1 := New.trans hn n1
    clear n1
    go_wp2_with fail
    go_ret
    rw [hv1.out]
    exact ⟨rfl, hn⟩
  · have hv1 : Hid (v = normE x0 y0 z0 x1 y1 z1 x2 y2 z2) := by
      show v = _
      rw [hv, hs]
      unfold normE
      cases okB x0 y0 z0 x1 y1 z1 x2 y2 z2 <;> simp [hi]
    rw [hs] at hst
    clear hv hi
    have hno := fun W => t_normal i x0 y0 z0 x1 y1 z1 x2 y2 z2 W
    go_enter Tryz.func67, Tryz.ntmps67
    go_wp2_with fail
    generalize hW : World.alloc _ _ = W
    (have c0 : (W).cell? ⟨w.heap.size + 1, 0, none⟩ = some (.int .i64 i) := (by subst hW; go_simp)); (have c1 : (W).cell? ⟨w.heap.size + 1, 1, none⟩ = some (.int .i64 x0) := (by subst hW; go_simp)); (have c2 : (W).cell? ⟨w.heap.size + 1, 2, none⟩ = some (.int .i64 y0) := (by subst hW; go_simp)); (have c3 : (W).cell? ⟨w.heap.size + 1, 3, none⟩ = some (.int .i64 z0) := (by subst hW; go_simp)); (have c4 : (W).cell? ⟨w.heap.size + 1, 4, none⟩ = some (.int .i64 x1) := (by subst hW; go_simp)); (have c5 : (W).cell? ⟨w.heap.size + 1, 5, none⟩ = some (.int .i64 y1) := (by subst hW; go_simp)); (have c6 : (W).cell? ⟨w.heap.size + 1, 6, none⟩ = some (.int .i64 z1) := (by subst hW; go_simp)); (have c7 : (W).cell? ⟨w.heap.size + 1, 7, none⟩ = some (.int .i64 x2) := (by subst hW; go_simp)); (have c8 : (W).cell? ⟨w.heap.size + 1, 8, none⟩ = some (.int .i64 y2) := (by subst hW; go_simp)); (have c9 : (W).cell? ⟨w.heap.size + 1, 9, none⟩ = some (.int .i64 z2) := (by subst hW; go_simp))
    have b5 : W.cell? ⟨w.heap.size, 5, none⟩ = some (.int .i64 wd) := by subst hW; go_simp
    have b6 : W.cell? ⟨w.heap.size, 6, none⟩ = some (.int .i64 dp) := by subst hW; go_simp
    have hn : New w W := by subst hW; (repeat (first | (with_reducible exact New.refl _) | (with_reducible assumption) | ((with_reducible refine New.setB ?_ ?_ _); focus (first | omega | (simp; omega) | (simp; done))) | (with_reducible refine New.alloc ?_ _) | (with_reducible refine New.drew ?_) | (with_reducible refine New.drewN ?_ _) | (with_reducible refine New.hat ?_ _) | ((with_reducible apply New.snart); (with_reducible assumption))))
    clear hW
    refine (hcc _).mono ?_
    rintro e W0 ⟨rfl, n1, -⟩
    ((replace c0 := New.keep n1 c0); (replace c1 := New.keep n1 c1); (replace c2 := New.keep n1 c2); (replace c3 := New.keep n1 c3); (replace c4 := New.keep n1 c4); (replace c5 := New.keep n1 c5); (replace c6 := New.keep n1 c6); (replace c7 := New.keep n1 c7); (replace c8 := New.keep n1 c8); (replace c9 := New.keep n1 c9))
    replace b5 := New.keep n1 b5
    replace b6 := New.keep n1 b6
    replace hn : New w W0 := New.trans hn n1
    clear n1 hcc
    go_wp2_with fail
    refine (hwi _).mono ?_
    rintro e w' ⟨rfl, rfl⟩
    go_wp2_with fail
    refine (hst _).mono ?_
    rintro e W1 ⟨rfl, n1⟩
    ((replace c0 := New.keep n1 c0); (replace c1 := New.keep n1 c1); (replace c2 := New.keep n1 c2); (replace c3 := New.keep n1 c3); (replace c4 := New.keep n1 c4); (replace c5 := New.keep n1 c5); (replace c6 := New.keep n1 c6); (replace c7 := New.keep n1 c7); (replace c8 := New.keep n1 c8); (replace c9 := New.keep n1 c9))
    replace hn : New w W1 := New.trans hn n1
    clear n1
    go_wp2_with fail
    refine (hno _).mono ?_
    rintro e W2 ⟨rfl, n1⟩
    replace hn : New w W2 := New.trans hn n1
    clear n1
    go_wp2_with fail
    go_ret
    rw [hv1.out]
    exact ⟨rfl, hn⟩

end Go.Proofs.YtdbhlepbaepngaaGreatDoor

/- Package soup: configs; what a box, a hop, a triangle is asked. -/
namespace Go.Proofs.YtdbhlepbaepngaaGreatDoor
open Go.RowKit
set_option linter.unusedVariables false

structure CfgR where
  (cl cb ht ri ru wd dp : Int)
def CfgR.enc (C : CfgR) : List Value := [.int .i64 C.cl, .int .i64 C.cb, .int .i64 C.ht, .int .i64 C.ri, .int .i64 C.ru, .int .i64 C.wd, .int .i64 C.dp]
def CfgR.err (C : CfgR) : Int := checkE C.cl C.cb C.ht C.ri C.ru C.wd C.dp
structure CfgR.fine (C : CfgR) : Prop where
  err : C.err = 0
  w1 : 1 ≤ C.wd
  w2 : C.wd ≤ 32
  d1 : 1 ≤ C.dp
  d2 : C.dp ≤ 32
theorem CfgR.fine_of {C : CfgR} (h : C.err = 0) : C.fine := by
  have h1 := h
  unfold CfgR.err checkE checkB at h1
  split at h1
  · rename_i h2
    simp only [Bool.and_eq_true, decide_eq_true_eq] at h2
    exact ⟨h, h2.1.2.1, h2.1.2.2, h2.2.1, h2.2.2⟩
  · cases h1
theorem CfgR.at {C : CfgR} {w : World} {b : Nat} (H : CellsAt w b 0 C.enc) :
    w.cell? ⟨b, 0, none⟩ = some (.int .i64 C.cl) ∧ w.cell? ⟨b, 1, none⟩ = some (.int .i64 C.cb) ∧ w.cell? ⟨b, 2, none⟩ = some (.int .i64 C.ht) ∧ w.cell? ⟨b, 3, none⟩ = some (.int .i64 C.ri) ∧ w.cell? ⟨b, 4, none⟩ = some (.int .i64 C.ru) ∧ w.cell? ⟨b, 5, none⟩ = some (.int .i64 C.wd) ∧ w.cell? ⟨b, 6, none⟩ = some (.int .i64 C.dp) :=
  ⟨H 0 (by simp [CfgR.enc]), H 1 (by simp [CfgR.enc]), H 2 (by simp [CfgR.enc]), H 3 (by simp [CfgR.enc]), H 4 (by simp [CfgR.enc]), H 5 (by simp [CfgR.enc]), H 6 (by simp [CfgR.enc])⟩
theorem cells_new (w : World) (cs : Array Value) (T : TypeId) : CellsAt (w.alloc (.cells cs T)) w.heap.size 0 cs.toList := fun i hi => by
  have h1 : (w.alloc (.cells cs T)).heap[w.heap.size]? = some (.cells cs T) := heap_new _ _
  rw [Nat.zero_add]
  exact cell_of_heap h1 (by rw [Array.getElem?_eq_getElem (by simpa using hi)]; simp)
theorem ints_new (w : World) (l : List Int) (T : TypeId) : IntsAt (w.alloc (.cells (l.map (Value.int .i64)).toArray T)) w.heap.size l := fun j hj => by
  have := cells_new w (l.map (Value.int .i64)).toArray T j (by simpa using hj)
  rw [Nat.zero_add] at this
  rw [this]
  simp

theorem TriR.at {x : TriR} {w : World} {b : Nat} (H : CellsAt w b 0 x.enc) : w.cell? ⟨b, 0, none⟩ = some (.int .i64 x.i) ∧ w.cell? ⟨b, 1, none⟩ = some (.int .i64 x.x0) ∧ w.cell? ⟨b, 2, none⟩ = some (.int .i64 x.y0) ∧ w.cell? ⟨b, 3, none⟩ = some (.int .i64 x.z0) ∧ w.cell? ⟨b, 4, none⟩ = some (.int .i64 x.x1) ∧ w.cell? ⟨b, 5, none⟩ = some (.int .i64 x.y1) ∧ w.cell? ⟨b, 6, none⟩ = some (.int .i64 x.z1) ∧ w.cell? ⟨b, 7, none⟩ = some (.int .i64 x.x2) ∧ w.cell? ⟨b, 8, none⟩ = some (.int .i64 x.y2) ∧ w.cell? ⟨b, 9, none⟩ = some (.int .i64 x.z2) :=
  ⟨H 0 (by rw [TriR.enc_len]; omega), H 1 (by rw [TriR.enc_len]; omega), H 2 (by rw [TriR.enc_len]; omega), H 3 (by rw [TriR.enc_len]; omega), H 4 (by rw [TriR.enc_len]; omega), H 5 (by rw [TriR.enc_len]; omega), H 6 (by rw [TriR.enc_len]; omega), H 7 (by rw [TriR.enc_len]; omega), H 8 (by rw [TriR.enc_len]; omega), H 9 (by rw [TriR.enc_len]; omega)⟩

theorem BoxR.at {x : BoxR} {w : World} {b : Nat} (H : CellsAt w b 0 x.enc) : w.cell? ⟨b, 0, none⟩ = some (.int .i64 x.i) ∧ w.cell? ⟨b, 1, none⟩ = some (.int .i64 x.x0) ∧ w.cell? ⟨b, 2, none⟩ = some (.int .i64 x.z0) ∧ w.cell? ⟨b, 3, none⟩ = some (.int .i64 x.x1) ∧ w.cell? ⟨b, 4, none⟩ = some (.int .i64 x.z1) ∧ w.cell? ⟨b, 5, none⟩ = some (.int .i64 x.y0) ∧ w.cell? ⟨b, 6, none⟩ = some (.int .i64 x.y1) ∧ w.cell? ⟨b, 7, none⟩ = some (.int .i64 x.ar) :=
  ⟨H 0 (by rw [BoxR.enc_len]; omega), H 1 (by rw [BoxR.enc_len]; omega), H 2 (by rw [BoxR.enc_len]; omega), H 3 (by rw [BoxR.enc_len]; omega), H 4 (by rw [BoxR.enc_len]; omega), H 5 (by rw [BoxR.enc_len]; omega), H 6 (by rw [BoxR.enc_len]; omega), H 7 (by rw [BoxR.enc_len]; omega)⟩

theorem HopR.at {x : HopR} {w : World} {b : Nat} (H : CellsAt w b 0 x.enc) : w.cell? ⟨b, 0, none⟩ = some (.int .i64 x.i) ∧ w.cell? ⟨b, 1, none⟩ = some (.int .i64 x.fx) ∧ w.cell? ⟨b, 2, none⟩ = some (.int .i64 x.fz) ∧ w.cell? ⟨b, 3, none⟩ = some (.int .i64 x.fy) ∧ w.cell? ⟨b, 4, none⟩ = some (.int .i64 x.tx) ∧ w.cell? ⟨b, 5, none⟩ = some (.int .i64 x.tz) ∧ w.cell? ⟨b, 6, none⟩ = some (.int .i64 x.ty) ∧ w.cell? ⟨b, 7, none⟩ = some (.bool x.bo) ∧ w.cell? ⟨b, 8, none⟩ = some (.int .i64 x.ar) ∧ w.cell? ⟨b, 9, none⟩ = some (.int .i64 x.co) :=
  ⟨H 0 (by rw [HopR.enc_len]; omega), H 1 (by rw [HopR.enc_len]; omega), H 2 (by rw [HopR.enc_len]; omega), H 3 (by rw [HopR.enc_len]; omega), H 4 (by rw [HopR.enc_len]; omega), H 5 (by rw [HopR.enc_len]; omega), H 6 (by rw [HopR.enc_len]; omega), H 7 (by rw [HopR.enc_len]; omega), H 8 (by rw [HopR.enc_len]; omega), H 9 (by rw [HopR.enc_len]; omega)⟩
set_option maxHeartbeats 400000 in
theorem b_t1 (C : CfgR) (hC : C.fine) (x : BoxR) (Bc Bx : Nat) (w : World) (hc : CellsAt w Bc 0 C.enc) (hx : CellsAt w Bx 0 x.enc) :
    Calls Tryz.prog 72 #[.pointer (some ⟨Bx, 0, none⟩), .pointer (some ⟨Bc, 0, none⟩)] w fun e w' => e = .returned (.bool (ordB [0, x.x0, x.x1, C.wd - 1])) ∧ New w w' := by
  have w1 := hC.w1
  have w2 := hC.w2
  have d1 := hC.d1
  have d2 := hC.d2
  have c0 : w.cell? ⟨Bx, 1, none⟩ = some (.int .i64 x.x0) := hx 1 (by rw [BoxR.enc_len]; omega)
  have c1 : w.cell? ⟨Bx, 3, none⟩ = some (.int .i64 x.x1) := hx 3 (by rw [BoxR.enc_len]; omega)
  have c2 : w.cell? ⟨Bc, 5, none⟩ = some (.int .i64 C.wd) := hc 5 (by simp [CfgR.enc])
  clear hc hx hC
  go_enter Tryz.func72, Tryz.ntmps72
  go_wp2_with fail
  refine (l_inOrder _ 4 [0, x.x0, x.x1, C.wd - 1] (by simp) (by simp) _ (ints_new _ _ _)).mono ?_
  rintro e w1 ⟨rfl, n1⟩
  have hn : New w w1 := New.trans ((New.refl w).alloc _) n1
  clear n1
  go_wp2_with fail
  go_ret
  exact ⟨rfl, hn⟩

set_option maxHeartbeats 400000 in
theorem b_t2 (C : CfgR) (hC : C.fine) (x : BoxR) (Bc Bx : Nat) (w : World) (hc : CellsAt w Bc 0 C.enc) (hx : CellsAt w Bx 0 x.enc) :
    Calls Tryz.prog 74 #[.pointer (some ⟨Bx, 0, none⟩), .pointer (some ⟨Bc, 0, none⟩)] w fun e w' => e = .returned (.bool (ordB [0, x.z0, x.z1, C.dp - 1])) ∧ New w w' := by
  have w1 := hC.w1
  have w2 := hC.w2
  have d1 := hC.d1
  have d2 := hC.d2
  have c0 : w.cell? ⟨Bx, 2, none⟩ = some (.int .i64 x.z0) := hx 2 (by rw [BoxR.enc_len]; omega)
  have c1 : w.cell? ⟨Bx, 4, none⟩ = some (.int .i64 x.z1) := hx 4 (by rw [BoxR.enc_len]; omega)
  have c2 : w.cell? ⟨Bc, 6, none⟩ = some (.int .i64 C.dp) := hc 6 (by simp [CfgR.enc])
  clear hc hx hC
  go_enter Tryz.func74, Tryz.ntmps74
  go_wp2_with fail
  refine (l_inOrder _ 4 [0, x.z0, x.z1, C.dp - 1] (by simp) (by simp) _ (ints_new _ _ _)).mono ?_
  rintro e w1 ⟨rfl, n1⟩
  have hn : New w w1 := New.trans ((New.refl w).alloc _) n1
  clear n1
  go_wp2_with fail
  go_ret
  exact ⟨rfl, hn⟩

set_option maxHeartbeats 400000 in
theorem b_t3 (C : CfgR) (hC : C.fine) (x : BoxR) (Bc Bx : Nat) (w : World) (hc : CellsAt w Bc 0 C.enc) (hx : CellsAt w Bx 0 x.enc) :
    Calls Tryz.prog 75 #[.pointer (some ⟨Bx, 0, none⟩)] w fun e w' => e = .returned (.bool (ordB [-2048, x.y0, x.y1, 2048])) ∧ New w w' := by
  have w1 := hC.w1
  have w2 := hC.w2
  have d1 := hC.d1
  have d2 := hC.d2
  have c0 : w.cell? ⟨Bx, 5, none⟩ = some (.int .i64 x.y0) := hx 5 (by rw [BoxR.enc_len]; omega)
  have c1 : w.cell? ⟨Bx, 6, none⟩ = some (.int .i64 x.y1) := hx 6 (by rw [BoxR.enc_len]; omega)
  clear hc hx hC
  go_enter Tryz.func75, Tryz.ntmps75
  go_wp2_with fail
  refine (l_inOrder _ 4 [-2048, x.y0, x.y1, 2048] (by simp) (by simp) _ (ints_new _ _ _)).mono ?_
  rintro e w1 ⟨rfl, n1⟩
  have hn : New w w1 := New.trans ((New.refl w).alloc _) n1
  clear n1
  go_wp2_with fail
  go_ret
  exact ⟨rfl, hn⟩

set_option maxHeartbeats 400000 in
theorem b_t4 (C : CfgR) (hC : C.fine) (x : BoxR) (Bc Bx : Nat) (w : World) (hc : CellsAt w Bc 0 C.enc) (hx : CellsAt w Bx 0 x.enc) :
    Calls Tryz.prog 76 #[.pointer (some ⟨Bx, 0, none⟩)] w fun e w' => e = .returned (.bool (ordB [0, x.ar, 7])) ∧ New w w' := by
  have w1 := hC.w1
  have w2 := hC.w2
  have d1 := hC.d1
  have d2 := hC.d2
  have c0 : w.cell? ⟨Bx, 7, none⟩ = some (.int .i64 x.ar) := hx 7 (by rw [BoxR.enc_len]; omega)
  clear hc hx hC
  go_enter Tryz.func76, Tryz.ntmps76
  go_wp2_with fail
  refine (l_inOrder _ 3 [0, x.ar, 7] (by simp) (by simp) _ (ints_new _ _ _)).mono ?_
  rintro e w1 ⟨rfl, n1⟩
  have hn : New w w1 := New.trans ((New.refl w).alloc _) n1
  clear n1
  go_wp2_with fail
  go_ret
  exact ⟨rfl, hn⟩

set_option maxHeartbeats 400000 in
theorem h_t3 (C : CfgR) (hC : C.fine) (x : HopR) (Bc Bx : Nat) (w : World) (hc : CellsAt w Bc 0 C.enc) (hx : CellsAt w Bx 0 x.enc) :
    Calls Tryz.prog 84 #[.pointer (some ⟨Bx, 0, none⟩)] w fun e w' => e = .returned (.bool (ordB [1, x.ar, 7])) ∧ New w w' := by
  have w1 := hC.w1
  have w2 := hC.w2
  have d1 := hC.d1
  have d2 := hC.d2
  have c0 : w.cell? ⟨Bx, 8, none⟩ = some (.int .i64 x.ar) := hx 8 (by rw [HopR.enc_len]; omega)
  clear hc hx hC
  go_enter Tryz.func84, Tryz.ntmps84
  go_wp2_with fail
  refine (l_inOrder _ 3 [1, x.ar, 7] (by simp) (by simp) _ (ints_new _ _ _)).mono ?_
  rintro e w1 ⟨rfl, n1⟩
  have hn : New w w1 := New.trans ((New.refl w).alloc _) n1
  clear n1
  go_wp2_with fail
  go_ret
  exact ⟨rfl, hn⟩

set_option maxHeartbeats 400000 in
theorem h_t4 (C : CfgR) (hC : C.fine) (x : HopR) (Bc Bx : Nat) (w : World) (hc : CellsAt w Bc 0 C.enc) (hx : CellsAt w Bx 0 x.enc) :
    Calls Tryz.prog 85 #[.pointer (some ⟨Bx, 0, none⟩)] w fun e w' => e = .returned (.bool (ordB [0, x.co, 1048576])) ∧ New w w' := by
  have w1 := hC.w1
  have w2 := hC.w2
  have d1 := hC.d1
  have d2 := hC.d2
  have c0 : w.cell? ⟨Bx, 9, none⟩ = some (.int .i64 x.co) := hx 9 (by rw [HopR.enc_len]; omega)
  clear hc hx hC
  go_enter Tryz.func85, Tryz.ntmps85
  go_wp2_with fail
  refine (l_inOrder _ 3 [0, x.co, 1048576] (by simp) (by simp) _ (ints_new _ _ _)).mono ?_
  rintro e w1 ⟨rfl, n1⟩
  have hn : New w w1 := New.trans ((New.refl w).alloc _) n1
  clear n1
  go_wp2_with fail
  go_ret
  exact ⟨rfl, hn⟩

end Go.Proofs.YtdbhlepbaepngaaGreatDoor
