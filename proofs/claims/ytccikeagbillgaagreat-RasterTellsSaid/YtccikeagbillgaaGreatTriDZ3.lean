import Derived.Test.YtccikeagbillgaaGreatWholeMZ3
import Derived.Deep.LoopGhost
import Derived.Shelf.Abstract
import Derived.Test.YtccikeagbillgaaGreatWholeBZ3
import Derived.Test.YtccikeagbillgaaGreatTriCZ3
import Derived.Test.YtccikeagbillgaaGreatWholeIZ3

/- Package soup: what is in order; rows of tests. -/
namespace Go.Proofs.YtccikeagbillgaaGreat
open Go.RowKit
set_option linter.unusedVariables false

theorem retBo {a b : Bool} (h : a = b) : Ending.returned (.bool a) = .returned (.bool b) := by rw [h]

theorem l_nan (x : Int) (w : World) : Calls Tryz.prog 86 #[.int .i64 x] w fun e w' => e = .returned (.bool false) ∧ w = w' := by
  go_enter Tryz.func86, Tryz.ntmps86
  go_wp2
  go_ret
  exact ⟨rfl, rfl⟩

def cmpI (x y : Int) : Int := if x < y then -1 else if y < x then 1 else 0
set_option maxHeartbeats 400000 in
theorem l_cmp (x y : Int) (w : World) : Calls Tryz.prog 65 #[.int .i64 x, .int .i64 y] w fun e w' => e = .returned (.int .i64 (cmpI x y)) ∧ w = w' := by
  unfold cmpI
  by_cases h : x < y
  · rw [if_pos h]
    go_enter Tryz.func65, Tryz.ntmps65
    go_wp2_with (go_at_call 86; refine (l_nan _ _).mono ?_; rintro e w' ⟨rfl, rfl⟩)
    go_ret
    exact ⟨rfl, rfl⟩
  · rw [if_neg h]
    by_cases h' : y < x
    · rw [if_pos h']
      go_enter Tryz.func65, Tryz.ntmps65
      go_wp2_with (go_at_call 86; refine (l_nan _ _).mono ?_; rintro e w' ⟨rfl, rfl⟩)
      go_ret
      exact ⟨rfl, rfl⟩
    · rw [if_neg h']
      go_enter Tryz.func65, Tryz.ntmps65
      go_wp2_with (go_at_call 86; refine (l_nan _ _).mono ?_; rintro e w' ⟨rfl, rfl⟩)
      go_ret
      exact ⟨rfl, rfl⟩

/-- None is above the one behind it. -/
def ordB : List Int → Bool
  | a :: b :: l => decide (a ≤ b) && ordB (b :: l)
  | _ => true
theorem ordB_drop : ∀ (l : List Int) (j : Nat), ordB l = true → ordB (l.drop j) = true
  | l, 0, h => h
  | [], _ + 1, _ => rfl
  | [a], j + 1, _ => by simp [ordB]
  | a :: b :: l, j + 1, h => by
    simp only [ordB, Bool.and_eq_true] at h
    exact ordB_drop (b :: l) j h.2
theorem ordB_step (l : List Int) (j : Nat) (h : j + 1 < l.length) : ordB (l.drop j) = (decide (l[j] ≤ l[j + 1]) && ordB (l.drop (j + 1))) := by
  rw [List.drop_eq_getElem_cons (show j < l.length by omega), List.drop_eq_getElem_cons h]
  rfl

/-- A row of numbers at a block's head. -/
def IntsAt (w : World) (b : Nat) (l : List Int) : Prop := ∀ j (h : j < l.length), w.cell? ⟨b, j, none⟩ = some (.int .i64 l[j])
theorem IntsAt.keep {w w' : World} {b : Nat} {l : List Int} (h : IntsAt w b l) (hn : New w w') : IntsAt w' b l := fun j hj => hn.keep (h j hj)

/-! Rows of tests. -/
structure Fn where
  g : Nat
  bnd : Array Value
  b : Bool
def FnAt (w : World) (b : Nat) (l : List Fn) : Prop := ∀ j (h : j < l.length), w.cell? ⟨b, j, none⟩ = some (.func (.func l[j].g) #[] l[j].bnd)
/-- A test: what it answers in every world above w0. -/
structure Good (w0 : World) (f : Fn) : Prop where
  eg : ∀ args w, (callFunc f.g args).run Tryz.prog w = .ok (.enter f.g args) w
  run : ∀ W, New w0 W → Calls Tryz.prog f.g f.bnd W fun e w' => e = .returned (.bool f.b) ∧ New W w'

def FnPost (l : List Fn) (w : World) (e : Ending) (w' : World) : Prop := ∃ i : Int, l.all (·.b) = decide (i < 0) ∧ e = .returned (.int .i64 i) ∧ New w w'

end Go.Proofs.YtccikeagbillgaaGreat

/- append(s, x...), s an own row, x any slice that holds rows. No function of the program in sight. -/
namespace Go.Proofs.YtccikeagbillgaaGreat
open Go.RowKit
set_option linter.unusedVariables false

theorem wpList_append_sl {P : Program} {ops : Array Oper} {rest : List Oper} {o : Oper} {a : Act} {w : World} {Q : Exit → Act → World → Prop} (hgd : o.guard = none) (s x : Operand) (t : TypeId)
    (ho : o.op = .call { callee := .builtin .append, args := #[s, x], argTypes := #[t, t] })
    {α : Type} {enc : α → List Value} {k : Nat} (hk : ∀ a, (enc a).length = k) (h1 : ∀ a, ∀ u ∈ enc a, u.oneCell' = true)
    (base : Nat) (e : TypeId) (i : TypeInfo) (z : Value) (bytes : Nat) (ht : P.underlying t = some (.slice e)) (hi : P.info? e = some i) (hz : i.zero = some z)
    (hsize : i.size = k) (hby : i.bytes = bytes) (hzs : z.cells.size = k) (hsz : 0 < k)
    (v : Value) (l : List α) (hs : a.eval s = v) (hown : w.ownsRow base e k v l.length (l.flatMap enc))
    (u : Value) (m : List α) (hx : a.eval x = u) (hm : Sl enc k w u m)
    (h63 : l.length + m.length ≤ maxLen) (hbytes : (l.length + m.length) * bytes ≤ 140737488355328) (hbase : base ≤ w.heap.size)
    (h : ∀ v' w', w'.ownsRow base e k v' (l ++ m).length ((l ++ m).flatMap enc) → (∀ a0, New a0 w → a0.heap.size ≤ base → New a0 w') → (∀ b, b < base → w'.heap[b]? = w.heap[b]?) → wpList P ops Q rest (a.put o.dst v') w') : wpList P ops Q (o :: rest) a w := by
  obtain ⟨at0, c, rfl, hc, hcm, hnone, hrow⟩ := hm
  cases at0 with
  | none =>
    have hc0 := hnone rfl
    have hm0 : m = [] := List.eq_nil_of_length_eq_zero (by omega)
    subst hm0
    rw [hc0] at hx
    exact Lib.wpList_append_run w hgd s x t t ho _ _ hs hx _ _ (run_append_owned_none (P := P) w base t o.type e i k ht hi _ _ _ hown) (h _ _ (by simpa using hown) (fun _ h _ => h) (fun _ _ => rfl))
  | some ad =>
    refine wpList_append_own w hgd s x t ho base e i z k bytes ht hi hz hsize hby hzs hsz v l.length (l.flatMap enc) hs hown ad m.length c (m.flatMap enc) hx (flatMap_len hk m) (sl_news hk ⟨some ad, c, rfl, hc, hcm, hnone, hrow⟩) (by intro u hu; obtain ⟨y, _, hy⟩ := List.mem_flatMap.1 hu; exact h1 y u hy) h63 hbytes hbase (fun v' w' h2 h3 _ => ?_)
    refine h v' w' (by rw [List.length_append, List.flatMap_append]; exact h2) (fun a0 hn hb => newGrown hn h3 (fun j hj => Nat.le_trans hb (own_block hown j hj))) (fun b hb => h3.block b (by omega) (fun e => by have := own_block hown b e.symm; omega))

theorem cell_block {w w' : World} {b : Nat} (h : w'.heap[b]? = w.heap[b]?) {o : Nat} {v : Value} (hc : w.cell? ⟨b, o, none⟩ = some v) : w'.cell? ⟨b, o, none⟩ = some v := by
  unfold World.cell? at hc ⊢
  rw [h]; exact hc
theorem frozen_block {w w' : World} {b : Nat} (h : w'.heap[b]? = w.heap[b]?) {o : Nat} {f : Bool} (hc : w.frozen? ⟨b, o, none⟩ = f) : w'.frozen? ⟨b, o, none⟩ = f := by
  unfold World.frozen? at hc ⊢
  rw [h]; exact hc

/-- What is told of a region's operations: the first ones have these values, of the others P holds. -/
def fixV : List Value → (World → Value → Prop) → Nat → World → Value → Prop
  | [], P, _, w, v => P w v
  | c :: _, _, 0, _, v => v = c
  | _ :: cs, P, i + 1, w, v => fixV cs P i w v
theorem fixV_keep {P : World → Value → Prop} (hP : ∀ w w' v, P w v → New w w' → P w' v) : ∀ (cs : List Value) (i : Nat) (w w' : World) (v : Value), fixV cs P i w v → New w w' → fixV cs P i w' v
  | [], _, w, w', v, h, n => hP w w' v h n
  | _ :: _, 0, _, _, _, h, _ => h
  | _ :: cs, i + 1, w, w', v, h, n => fixV_keep hP cs i w w' v h n
theorem own_shape2 {w : World} {base size : Nat} {e : TypeId} {v : Value} {n : Nat} {xs : List Value} (h : w.ownsRow base e size v n xs) : ∃ a c N, N = n ∧ v = .slice a N c := by
  rcases h.2 with ⟨rfl, rfl⟩ | ⟨g, cap, cur, rfl, _⟩
  · exact ⟨_, _, _, rfl, rfl⟩
  · exact ⟨_, _, _, rfl, rfl⟩
theorem cell_lt {w : World} {b o : Nat} {v : Value} (h : w.cell? ⟨b, o, none⟩ = some v) : b < w.heap.size := World.block_lt_of_cell? _ _ h

section
variable {α : Type}
/-- A row on its way to having x put in at p. -/
def mid (l : List α) (p : Nat) (x : α) (m : Nat) : List α := if m ≤ p then l.take m else l.take p ++ [x] ++ (l.drop p).take (m - p)
theorem mid_zero (l : List α) (p : Nat) (x : α) : mid l p x 0 = [] := by unfold mid; simp
theorem mid_lo {l : List α} {p : Nat} {x : α} {m : Nat} (h : m < p) (hl : m < l.length) : mid l p x (m + 1) = mid l p x m ++ [l[m]] := by
  unfold mid
  rw [if_pos (by omega), if_pos (by omega), List.take_succ_eq_append_getElem hl]
theorem mid_at {l : List α} {p : Nat} {x : α} (hl : p < l.length) : mid l p x (p + 1) = mid l p x p ++ [x] ++ [l[p]] := by
  unfold mid
  rw [if_neg (by omega), if_pos (Nat.le_refl _), show p + 1 - p = 0 + 1 by omega, List.take_succ_eq_append_getElem (by simp; omega)]
  simp
theorem mid_hi {l : List α} {p : Nat} {x : α} {m : Nat} (h : p < m) (hl : m < l.length) : mid l p x (m + 1) = mid l p x m ++ [l[m]] := by
  unfold mid
  rw [if_neg (by omega), if_neg (by omega), show m + 1 - p = (m - p) + 1 by omega, List.take_succ_eq_append_getElem (by simp; omega)]
  simp only [List.append_assoc]
  congr 3
  rw [List.getElem_drop]
  congr 2
  omega
theorem mid_end {l : List α} {p : Nat} {x : α} (hl : p < l.length) : mid l p x l.length = l.take p ++ [x] ++ l.drop p := by
  unfold mid
  rw [if_neg (by omega)]
  congr 1
  exact List.take_of_length_le (by simp)
theorem mid_full {l : List α} {x : α} : mid l l.length x l.length = l := by
  unfold mid
  rw [if_pos (Nat.le_refl _), List.take_length]
theorem mid_len {l : List α} {p : Nat} {x : α} {m : Nat} : (mid l p x m).length ≤ m + 1 := by
  unfold mid
  split
  · simp; omega
  · simp; omega
end

end Go.Proofs.YtccikeagbillgaaGreat

/- Package tri: Normal of whatever comes, Check, Walk. -/
namespace Go.Proofs.YtccikeagbillgaaGreat
open Go.RowKit
set_option linter.unusedVariables false

set_option maxHeartbeats 2000000 in
set_option maxRecDepth 100000 in
theorem t_normal (i x0 y0 z0 x1 y1 z1 x2 y2 z2 : Int) (w : World) :
    Calls Tryz.prog 54 #[.agg #[.int .i64 i, .int .i64 x0, .int .i64 y0, .int .i64 z0, .int .i64 x1, .int .i64 y1, .int .i64 z1, .int .i64 x2, .int .i64 y2, .int .i64 z2]] w fun e w' => e = .returned (.tuple #[.int .i64 (normX x0 y0 z0 x1 y1 z1 x2 y2 z2), .int .i64 (normY x0 y0 z0 x1 y1 z1 x2 y2 z2), .int .i64 (normZ x0 y0 z0 x1 y1 z1 x2 y2 z2), .int .i64 (normE x0 y0 z0 x1 y1 z1 x2 y2 z2)]) ∧ New w w' := by
  cases hs : stB 32 32 x0 y0 z0 x1 y1 z1 x2 y2 z2
  · have hk : okB x0 y0 z0 x1 y1 z1 x2 y2 z2 = false := by unfold okB; rw [hs]; rfl
    obtain ⟨h1, h2, h3, h4⟩ := norm_no hk
    rw [h1, h2, h3, h4]
    have hst := fun W => t_stands i x0 y0 z0 x1 y1 z1 x2 y2 z2 32 32 W
    rw [hs] at hst
    clear h1 h2 h3 h4 hk hs
    go_enter Tryz.func54, Tryz.ntmps54
    go_wp2_with fail
    refine (hst _).mono ?_
    rintro e W0 ⟨rfl, n1⟩
    have hn : New w W0 := New.trans (by (repeat (first | (with_reducible exact New.refl _) | (with_reducible assumption) | ((with_reducible refine New.setB ?_ ?_ _); focus (first | omega | (simp; omega) | (simp; done))) | (with_reducible refine New.alloc ?_ _) | (with_reducible refine New.drew ?_) | (with_reducible refine New.drewN ?_ _) | (with_reducible refine New.hat ?_ _) | ((with_reducible apply New.snart); (with_reducible assumption))))) n1
    clear n1 hst
    go_wp2_with fail
    refine bodyPost_ret (v := .tuple #[.int .i64 0, .int .i64 0, .int .i64 0, .int .i64 40]) (by simp [results, Tryz.results54, go_sem]) rfl ?_
    exact ⟨rfl, hn⟩
  · exact t_normal_ok i _ _ _ _ _ _ _ _ _ w hs

def tCheckE (cl cb ht ri ru wd dp i x0 y0 z0 x1 y1 z1 x2 y2 z2 : Int) : Int := if checkE cl cb ht ri ru wd dp ≠ 0 then 20 else if (1 ≤ i ∧ i ≤ 1073741824) ∧ stB wd dp x0 y0 z0 x1 y1 z1 x2 y2 z2 = true ∧ okB x0 y0 z0 x1 y1 z1 x2 y2 z2 = true then 0 else 40

theorem checkE_two (cl cb ht ri ru wd dp : Int) : checkE cl cb ht ri ru wd dp = 0 ∨ checkE cl cb ht ri ru wd dp = 20 := by unfold checkE; split <;> simp

set_option maxHeartbeats 2000000 in
set_option maxRecDepth 100000 in
theorem t_check (cl cb ht ri ru wd dp i x0 y0 z0 x1 y1 z1 x2 y2 z2 : Int) (w : World) :
    Calls Tryz.prog 35 #[.agg #[.int .i64 cl, .int .i64 cb, .int .i64 ht, .int .i64 ri, .int .i64 ru, .int .i64 wd, .int .i64 dp], .agg #[.int .i64 i, .int .i64 x0, .int .i64 y0, .int .i64 z0, .int .i64 x1, .int .i64 y1, .int .i64 z1, .int .i64 x2, .int .i64 y2, .int .i64 z2]] w fun e w' => e = .returned (.int .i64 (tCheckE cl cb ht ri ru wd dp i x0 y0 z0 x1 y1 z1 x2 y2 z2)) ∧ New w w' := by
  obtain ⟨v, hv⟩ : ∃ v, v = tCheckE cl cb ht ri ru wd dp i x0 y0 z0 x1 y1 z1 x2 y2 z2 := ⟨_, rfl⟩
  rw [← hv]
  unfold tCheckE at hv
  have hcc := fun W => check_any cl cb ht ri ru wd dp W
  have htwo := checkE_two cl cb ht ri ru wd dp
  generalize checkE cl cb ht ri ru wd dp = ce at *
  rcases htwo with rfl | rfl
  rotate_left
  · have hv1 : Hid (v = 20) := by show v = 20; rw [hv]; simp
    clear hv
    go_enter Tryz.func35, Tryz.ntmps35
    go_wp2_with fail
    refine (hcc _).mono ?_
    rintro e W0 ⟨rfl, n1, -⟩
    have hn : New w W0 := New.trans (by (repeat (first | (with_reducible exact New.refl _) | (with_reducible assumption) | ((with_reducible refine New.setB ?_ ?_ _); focus (first | omega | (simp; omega) | (simp; done))) | (with_reducible refine New.alloc ?_ _) | (with_reducible refine New.drew ?_) | (with_reducible refine New.drewN ?_ _) | (with_reducible refine New.hat ?_ _) | ((with_reducible apply New.snart); (with_reducible assumption))))) n1
    clear n1 hcc
    go_wp2_with fail
    go_ret
    rw [hv1.out]
    exact ⟨rfl, hn⟩
  have hst := fun W => t_stands i x0 y0 z0 x1 y1 z1 x2 y2 z2 wd dp W
  by_cases hi : 1 ≤ i ∧ i ≤ 1073741824
  rotate_left
  · have hv1 : Hid (v = 40) := by show v = 40; rw [hv]; simp [hi]
    have hid : decide (1 ≤ i ∧ i ≤ 1073741824) = false := by simpa using hi
    clear hv hi
    have hwi := fun W => t_within i 1 1073741824 W
    rw [hid] at hwi
    go_enter Tryz.func35, Tryz.ntmps35
    go_wp2_with fail
    refine (hcc _).mono ?_
    rintro e W0 ⟨rfl, n1, -⟩
    have d0 : W0.cell? ⟨w.heap.size + 1, 0, none⟩ = some (.int .i64 i) := New.keep n1 (by go_simp)
    have hn : New w W0 := New.trans (by (repeat (first | (with_reducible exact New.refl _) | (with_reducible assumption) | ((with_reducible refine New.setB ?_ ?_ _); focus (first | omega | (simp; omega) | (simp; done))) | (with_reducible refine New.alloc ?_ _) | (with_reducible refine New.drew ?_) | (with_reducible refine New.drewN ?_ _) | (with_reducible refine New.hat ?_ _) | ((with_reducible apply New.snart); (with_reducible assumption))))) n1
    clear n1 hcc
    go_wp2_with fail
    refine (hwi _).mono ?_
    rintro e w' ⟨rfl, rfl⟩
    go_wp2_with fail
    go_ret
    rw [hv1.out]
    exact ⟨rfl, hn⟩
  have hid : decide (1 ≤ i ∧ i ≤ 1073741824) = true := by simpa using hi
  have hwi := fun W => t_within i 1 1073741824 W
  rw [hid] at hwi
  cases hs : stB wd dp x0 y0 z0 x1 y1 z1 x2 y2 z2
  · have hv1 : Hid (v = 40) := by show v = 40; rw [hv, hs]; simp
    rw [hs] at hst
    clear hv hi
    go_enter Tryz.func35, Tryz.ntmps35
    go_wp2_with fail
    generalize hW : World.alloc _ _ = W
    (have c0 : (W).cell? ⟨w.heap.size + 1, 0, none⟩ = some (.int .i64 i) := (by subst hW; go_simp)); (have c1 : (W).cell? ⟨w.heap.size + 1, 1, none⟩ = some (.int .i64 x0) := (by subst hW; go_simp)); (have c2 : (W).cell? ⟨w.heap.size + 1, 2, none⟩ = some (.int .i64 y0) := (by subst hW; go_simp)); (have c3 : (W).cell? ⟨w.heap.size + 1, 3, none⟩ = some (.int .i64 z0) := (by subst hW; go_simp)); (have c4 : (W).cell? ⟨w.heap.size + 1, 4, none⟩ = some (.int .i64 x1) := (by subst hW; go_simp)); (have c5 : (W).cell? ⟨w.heap.size + 1, 5, none⟩ = some (.int .i64 y1) := (by subst hW; go_simp)); (have c6 : (W).cell? ⟨w.heap.size + 1, 6, none⟩ = some (.int .i64 z1) := (by subst hW; go_simp)); (have c7 : (W).cell? ⟨w.heap.size + 1, 7, none⟩ = some (.int .i64 x2) := (by subst hW; go_simp)); (have c8 : (W).cell? ⟨w.heap.size + 1, 8, none⟩ = some (.int .i64 y2) := (by subst hW; go_simp)); (have c9 : (W).cell? ⟨w.heap.size + 1, 9, none⟩ = some (.int .i64 z2) := (by subst hW; go_simp))
    have b5 : W.cell? ⟨w.heap.size, 5, none⟩ = some (.int .i64 wd) := by subst hW; go_simp
    have b6 : W.cell? ⟨w.heap.size, 6, none⟩ = some (.int .i64 dp) := by subst hW; go_simp
    have hn : New w W := by subst hW; (repeat (first | (with_reducible exact New.refl _) | (with_reducible assumption) | ((with_reducible refine New.setB ?_ ?_ _); focus (first | omega | (simp; omega) | (simp; done))) | (with_reducible refine New.alloc ?_ _) | (with_reducible refine New.drew ?_) | (with_reducible refine New.drewN ?_ _) | (with_reducible refine New.hat ?_ _) | ((with_reducible apply New.snart); (with_reducible assumption))))
    clear hW
    refine (hcc _).mono ?_
    rintro e W0 ⟨rfl, n1, -⟩
    ((replace c0 := New.keep n1 c0); (replace c1 := New.keep n1 c1); (replace c2 := New.keep n1 c2); (replace c3 := New.keep n1 c3); (replace c4 := New.keep n1 c4); (replace c5 := New.keep n1 c5); (replace c6 := New.keep n1 c6); (replace c7 := New.keep n1 c7); (replace c8 := New.keep n1 c8); (replace c9 := New.keep n1 c9))
    replace b5 := New.keep n1 b5
    replace b6 := New.keep n1 b6
    replace hn : New w W0 := New.trans hn n1
    clear n1 hcc
    go_wp2_with fail
    refine (hwi _).mono ?_
    rintro e w' ⟨rfl, rfl⟩
    go_wp2_with fail
    refine (hst _).mono ?_
    rintro e W1 ⟨rfl, n1⟩
    replace hn : New w W1 := New.trans hn n1
    clear n1
    go_wp2_with fail
    go_ret
    rw [hv1.out]
    exact ⟨rfl, hn⟩
  · have hv1 : Hid (v = normE x0 y0 z0 x1 y1 z1 x2 y2 z2) := by
      show v = _
      rw [hv, hs]
      unfold normE
      cases okB x0 y0 z0 x1 y1 z1 x2 y2 z2 <;> simp [hi]
    rw [hs] at hst
    clear hv hi
    have hno := fun W => t_normal i x0 y0 z0 x1 y1 z1 x2 y2 z2 W
    go_enter Tryz.func35, Tryz.ntmps35
    go_wp2_with fail
    generalize hW : World.alloc _ _ = W
    (have c0 : (W).cell? ⟨w.heap.size + 1, 0, none⟩ = some (.int .i64 i) := (by subst hW; go_simp)); (have c1 : (W).cell? ⟨w.heap.size + 1, 1, none⟩ = some (.int .i64 x0) := (by subst hW; go_simp)); (have c2 : (W).cell? ⟨w.heap.size + 1, 2, none⟩ = some (.int .i64 y0) := (by subst hW; go_simp)); (have c3 : (W).cell? ⟨w.heap.size + 1, 3, none⟩ = some (.int .i64 z0) := (by subst hW; go_simp)); (have c4 : (W).cell? ⟨w.heap.size + 1, 4, none⟩ = some (.int .i64 x1) := (by subst hW; go_simp)); (have c5 : (W).cell? ⟨w.heap.size + 1, 5, none⟩ = some (.int .i64 y1) := (by subst hW; go_simp)); (have c6 : (W).cell? ⟨w.heap.size + 1, 6, none⟩ = some (.int .i64 z1) := (by subst hW; go_simp)); (have c7 : (W).cell? ⟨w.heap.size + 1, 7, none⟩ = some (.int .i64 x2) := (by subst hW; go_simp)); (have c8 : (W).cell? ⟨w.heap.size + 1, 8, none⟩ = some (.int .i64 y2) := (by subst hW; go_simp)); (have c9 : (W).cell? ⟨w.heap.size + 1, 9, none⟩ = some (.int .i64 z2) := (by subst hW; go_simp))
    have b5 : W.cell? ⟨w.heap.size, 5, none⟩ = some (.int .i64 wd) := by subst hW; go_simp
    have b6 : W.cell? ⟨w.heap.size, 6, none⟩ = some (.int .i64 dp) := by subst hW; go_simp
    have hn : New w W := by subst hW; (repeat (first | (with_reducible exact New.refl _) | (with_reducible assumption) | ((with_reducible refine New.setB ?_ ?_ _); focus (first | omega | (simp; omega) | (simp; done))) | (with_reducible refine New.alloc ?_ _) | (with_reducible refine New.drew ?_) | (with_reducible refine New.drewN ?_ _) | (with_reducible refine New.hat ?_ _) | ((with_reducible apply New.snart); (with_reducible assumption))))
    clear hW
    refine (hcc _).mono ?_
    rintro e W0 ⟨rfl, n1, -⟩
    ((replace c0 := New.keep n1 c0); (replace c1 := New.keep n1 c1); (replace c2 := New.keep n1 c2); (replace c3 := New.keep n1 c3); (replace c4 := New.keep n1 c4); (replace c5 := New.keep n1 c5); (replace c6 := New.keep n1 c6); (replace c7 := New.keep n1 c7); (replace c8 := New.keep n1 c8); (replace c9 := New.keep n1 c9))
    replace b5 := New.keep n1 b5
    replace b6 := New.keep n1 b6
    replace hn : New w W0 := New.trans hn n1
    clear n1 hcc
    go_wp2_with fail
    refine (hwi _).mono ?_
    rintro e w' ⟨rfl, rfl⟩
    go_wp2_with fail
    refine (hst _).mono ?_
    rintro e W1 ⟨rfl, n1⟩
    ((replace c0 := New.keep n1 c0); (replace c1 := New.keep n1 c1); (replace c2 := New.keep n1 c2); (replace c3 := New.keep n1 c3); (replace c4 := New.keep n1 c4); (replace c5 := New.keep n1 c5); (replace c6 := New.keep n1 c6); (replace c7 := New.keep n1 c7); (replace c8 := New.keep n1 c8); (replace c9 := New.keep n1 c9))
    replace hn : New w W1 := New.trans hn n1
    clear n1
    go_wp2_with fail
    refine (hno _).mono ?_
    rintro e W2 ⟨rfl, n1⟩
    replace hn : New w W2 := New.trans hn n1
    clear n1
    go_wp2_with fail
    go_ret
    rw [hv1.out]
    exact ⟨rfl, hn⟩

end Go.Proofs.YtccikeagbillgaaGreat
