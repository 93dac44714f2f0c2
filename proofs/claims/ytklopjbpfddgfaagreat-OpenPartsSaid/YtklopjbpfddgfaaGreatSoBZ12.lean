import Derived.Test.YtklopjbpfddgfaaGreatSpPZ12
import Derived.OwnWalk
import Derived.OneCell
import Derived.Lib.AppendZerosOnto
import Derived.Test.YtklopjbpfddgfaaGreatWholeCZ12
import Derived.Deep.LoopGhost
import Derived.Shelf.Abstract

/- Rows of structs that a call makes for itself. No function of the program in sight. -/
namespace Go.Proofs.YtklopjbpfddgfaaGreat
open Go.RowKit
set_option linter.unusedVariables false

theorem newGrown {a w w' : World} {row : Option Nat} (h : New a w) (hg : w.grownBy w' row) (hr : ∀ k, row = some k → a.heap.size ≤ k) : New a w' := Below.grown h hg h.size hr
theorem own_new {w w' : World} {base size : Nat} {e : TypeId} {v : Value} {n : Nat} {xs : List Value} (h : w.ownsRow base e size v n xs) (hn : New w w') : w'.ownsRow base e size v n xs := by
  obtain ⟨h1, h2⟩ := h
  refine ⟨h1, h2.imp id ?_⟩
  rintro ⟨g, cap, cur, rfl, hb, hg, r⟩
  exact ⟨g, cap, cur, rfl, hb, new_block' hn hg, r⟩
where
  new_block' {a w : World} (h : New a w) {b : Nat} {o : Obj} (hb : a.heap[b]? = some o) : w.heap[b]? = some o := by
    rw [h.block b (by rcases Nat.lt_or_ge b a.heap.size with q | q; exact q; rw [Array.getElem?_eq_none q] at hb; cases hb)]; exact hb
theorem own_block {w : World} {base size : Nat} {e : TypeId} {v : Value} {n : Nat} {xs : List Value} (h : w.ownsRow base e size v n xs) : ∀ k, v.ownBlock = some k → base ≤ k := by
  rintro k hk
  rcases h.2 with ⟨rfl, _⟩ | ⟨g, cap, cur, rfl, hb, _⟩
  · cases hk
  · have e1 : g = k := by simpa [Value.ownBlock] using hk
    omega

section
variable {α : Type}
theorem flatMap_len {enc : α → List Value} {k : Nat} (hk : ∀ a, (enc a).length = k) : ∀ l : List α, (l.flatMap enc).length = l.length * k
  | [] => by simp
  | a :: l => by rw [List.flatMap_cons, List.length_append, flatMap_len hk l, hk, List.length_cons, Nat.add_mul]; omega
theorem flatMap_get {enc : α → List Value} {k : Nat} (hk : ∀ a, (enc a).length = k) : ∀ (l : List α) (j : Nat) (h : j < l.length) (i : Nat), i < k → (l.flatMap enc)[j * k + i]? = (enc l[j])[i]?
  | a :: l, 0, _, i, hi => by
    rw [List.flatMap_cons, Nat.zero_mul, Nat.zero_add, List.getElem?_append_left (by rw [hk]; exact hi)]
    rfl
  | a :: l, j + 1, h, i, hi => by
    rw [List.flatMap_cons, List.getElem?_append_right (by rw [hk, Nat.add_mul]; omega), hk, show (j + 1) * k + i - k = j * k + i by rw [Nat.add_mul]; omega]
    exact flatMap_get hk l j (by simpa using h) i hi

theorem own_sl {enc : α → List Value} {k : Nat} (hk : ∀ a, (enc a).length = k) {w : World} {base : Nat} {e : TypeId} {v : Value} {l : List α} (h : w.ownsRow base e k v l.length (l.flatMap enc)) : Sl enc k w v l := by
  rcases h.2 with ⟨rfl, h0⟩ | ⟨g, cap, cur, rfl, hb, hg, hc, hm, _⟩
  · obtain rfl := List.eq_nil_of_length_eq_zero h0
    exact Sl.nil
  · refine ⟨some ⟨g, 0, none⟩, cap, rfl, hc, hm, fun h => (by cases h), fun _ => ⟨g, 0, rfl, fun j hj i hi => ?_⟩⟩
    have hik : i < k := by rw [← hk l[j]]; exact hi
    have hlt : j * k + i < l.length * k := by
      have := Nat.mul_le_mul_right k (show j + 1 ≤ l.length from hj)
      rw [Nat.add_mul] at this
      omega
    have a := World.ownsRow.cellAt h (j * k + i) (by omega)
    rw [flatMap_get hk l j hj i hik] at a
    rw [Nat.zero_add, a, List.getElem?_eq_getElem hi]

/-- The slices that are laid end to end. -/
structure Part (α : Type) where
  a : Option Addr
  l : List α
  c : Nat
def PartsAt (enc : α → List Value) (k : Nat) (w : World) (b : Nat) (ps : List (Part α)) : Prop := ∀ j (h : j < ps.length), w.cell? ⟨b, j, none⟩ = some (.slice ps[j].a ps[j].l.length ps[j].c) ∧ Sl enc k w (.slice ps[j].a ps[j].l.length ps[j].c) ps[j].l
theorem PartsAt.keep {enc : α → List Value} {k : Nat} {w w' : World} {b : Nat} {ps : List (Part α)} (h : PartsAt enc k w b ps) (hn : New w w') : PartsAt enc k w' b ps := fun j hj => ⟨hn.keep (h j hj).1, (h j hj).2.keep hn⟩
def cat (ps : List (Part α)) (i : Nat) : List α := (ps.take i).flatMap (·.l)
theorem cat_succ (ps : List (Part α)) (i : Nat) (h : i < ps.length) : cat ps (i + 1) = cat ps i ++ ps[i].l := by
  unfold cat
  rw [List.take_succ_eq_append_getElem h, List.flatMap_append]
  simp
theorem cat_all (ps : List (Part α)) : cat ps ps.length = ps.flatMap (·.l) := by unfold cat; rw [List.take_length]
theorem cat_le (ps : List (Part α)) : ∀ i, (cat ps i).length ≤ (ps.flatMap (·.l)).length := fun i => by
  unfold cat
  conv => rhs; rw [← List.take_append_drop i ps, List.flatMap_append, List.length_append]
  omega
theorem sl_news {enc : α → List Value} {k : Nat} (hk : ∀ a, (enc a).length = k) {w : World} {ad : Addr} {c : Nat} {l : List α} (h : Sl enc k w (.slice (some ad) l.length c) l) : ∀ j u, (l.flatMap enc)[j]? = some u → w.cell? (ad.add j) = some u := by
  intro j u hu
  have hj : j < l.length * k := by
    have := (List.getElem?_eq_some_iff.1 hu).1
    rwa [flatMap_len hk] at this
  have h0 : 0 < l.length := by
    rcases Nat.eq_zero_or_pos l.length with q | q
    · rw [q, Nat.zero_mul] at hj; omega
    · exact q
  obtain ⟨b, off, e, hA⟩ := h.row.2.2.2.2 h0
  injection e with e
  subst e
  have hk0 : 0 < k := by
    rcases Nat.eq_zero_or_pos k with q | q
    · rw [q, Nat.mul_zero] at hj; omega
    · exact q
  have hq : j / k < l.length := Nat.div_lt_of_lt_mul (by rw [Nat.mul_comm]; exact hj)
  have hr : j % k < k := Nat.mod_lt _ hk0
  have e1 : j = j / k * k + j % k := by rw [Nat.mul_comm]; exact (Nat.div_add_mod j k).symm
  have h1 := flatMap_get hk l (j / k) hq (j % k) hr
  rw [← e1, hu] at h1
  have h2 := hA (j / k) hq (j % k) (by rw [hk]; exact hr)
  rw [Addr.add_lit, show off + j = off + j / k * k + j % k by omega, h2, h1, List.getElem?_eq_getElem]
end
end Go.Proofs.YtklopjbpfddgfaaGreat

/- append(s, x...), s an own row, x any slice that holds rows. No function of the program in sight. -/
namespace Go.Proofs.YtklopjbpfddgfaaGreat
open Go.RowKit
set_option linter.unusedVariables false

theorem wpList_append_sl {P : Program} {ops : Array Oper} {rest : List Oper} {o : Oper} {a : Act} {w : World} {Q : Exit → Act → World → Prop} (hgd : o.guard = none) (s x : Operand) (t : TypeId)
    (ho : o.op = .call { callee := .builtin .append, args := #[s, x], argTypes := #[t, t] })
    {α : Type} {enc : α → List Value} {k : Nat} (hk : ∀ a, (enc a).length = k) (h1 : ∀ a, ∀ u ∈ enc a, u.oneCell' = true)
    (base : Nat) (e : TypeId) (i : TypeInfo) (z : Value) (bytes : Nat) (ht : P.underlying t = some (.slice e)) (hi : P.info? e = some i) (hz : i.zero = some z)
    (hsize : i.size = k) (hby : i.bytes = bytes) (hzs : z.cells.size = k) (hsz : 0 < k)
    (v : Value) (l : List α) (hs : a.eval s = v) (hown : w.ownsRow base e k v l.length (l.flatMap enc))
    (u : Value) (m : List α) (hx : a.eval x = u) (hm : Sl enc k w u m)
    (h63 : l.length + m.length ≤ maxLen) (hbytes : (l.length + m.length) * bytes ≤ 140737488355328) (hbase : base ≤ w.heap.size)
    (h : ∀ v' w', w'.ownsRow base e k v' (l ++ m).length ((l ++ m).flatMap enc) → (∀ a0, New a0 w → a0.heap.size ≤ base → New a0 w') → (∀ b, b < base → w'.heap[b]? = w.heap[b]?) → wpList P ops Q rest (a.put o.dst v') w') : wpList P ops Q (o :: rest) a w := by
  obtain ⟨at0, c, rfl, hc, hcm, hnone, hrow⟩ := hm
  cases at0 with
  | none =>
    have hc0 := hnone rfl
    have hm0 : m = [] := List.eq_nil_of_length_eq_zero (by omega)
    subst hm0
    rw [hc0] at hx
    exact Lib.wpList_append_run w hgd s x t t ho _ _ hs hx _ _ (run_append_owned_none (P := P) w base t o.type e i k ht hi _ _ _ hown) (h _ _ (by simpa using hown) (fun _ h _ => h) (fun _ _ => rfl))
  | some ad =>
    refine wpList_append_own w hgd s x t ho base e i z k bytes ht hi hz hsize hby hzs hsz v l.length (l.flatMap enc) hs hown ad m.length c (m.flatMap enc) hx (flatMap_len hk m) (sl_news hk ⟨some ad, c, rfl, hc, hcm, hnone, hrow⟩) (by intro u hu; obtain ⟨y, _, hy⟩ := List.mem_flatMap.1 hu; exact h1 y u hy) h63 hbytes hbase (fun v' w' h2 h3 _ => ?_)
    refine h v' w' (by rw [List.length_append, List.flatMap_append]; exact h2) (fun a0 hn hb => newGrown hn h3 (fun j hj => Nat.le_trans hb (own_block hown j hj))) (fun b hb => h3.block b (by omega) (fun e => by have := own_block hown b e.symm; omega))

theorem cell_block {w w' : World} {b : Nat} (h : w'.heap[b]? = w.heap[b]?) {o : Nat} {v : Value} (hc : w.cell? ⟨b, o, none⟩ = some v) : w'.cell? ⟨b, o, none⟩ = some v := by
  unfold World.cell? at hc ⊢
  rw [h]; exact hc
theorem frozen_block {w w' : World} {b : Nat} (h : w'.heap[b]? = w.heap[b]?) {o : Nat} {f : Bool} (hc : w.frozen? ⟨b, o, none⟩ = f) : w'.frozen? ⟨b, o, none⟩ = f := by
  unfold World.frozen? at hc ⊢
  rw [h]; exact hc

/-- What is told of a region's operations: the first ones have these values, of the others P holds. -/
def fixV : List Value → (World → Value → Prop) → Nat → World → Value → Prop
  | [], P, _, w, v => P w v
  | c :: _, _, 0, _, v => v = c
  | _ :: cs, P, i + 1, w, v => fixV cs P i w v
theorem fixV_keep {P : World → Value → Prop} (hP : ∀ w w' v, P w v → New w w' → P w' v) : ∀ (cs : List Value) (i : Nat) (w w' : World) (v : Value), fixV cs P i w v → New w w' → fixV cs P i w' v
  | [], _, w, w', v, h, n => hP w w' v h n
  | _ :: _, 0, _, _, _, h, _ => h
  | _ :: cs, i + 1, w, w', v, h, n => fixV_keep hP cs i w w' v h n
theorem own_shape2 {w : World} {base size : Nat} {e : TypeId} {v : Value} {n : Nat} {xs : List Value} (h : w.ownsRow base e size v n xs) : ∃ a c N, N = n ∧ v = .slice a N c := by
  rcases h.2 with ⟨rfl, rfl⟩ | ⟨g, cap, cur, rfl, _⟩
  · exact ⟨_, _, _, rfl, rfl⟩
  · exact ⟨_, _, _, rfl, rfl⟩
theorem cell_lt {w : World} {b o : Nat} {v : Value} (h : w.cell? ⟨b, o, none⟩ = some v) : b < w.heap.size := World.block_lt_of_cell? _ _ h

section
variable {α : Type}
/-- A row on its way to having x put in at p. -/
def mid (l : List α) (p : Nat) (x : α) (m : Nat) : List α := if m ≤ p then l.take m else l.take p ++ [x] ++ (l.drop p).take (m - p)
theorem mid_zero (l : List α) (p : Nat) (x : α) : mid l p x 0 = [] := by unfold mid; simp
theorem mid_lo {l : List α} {p : Nat} {x : α} {m : Nat} (h : m < p) (hl : m < l.length) : mid l p x (m + 1) = mid l p x m ++ [l[m]] := by
  unfold mid
  rw [if_pos (by omega), if_pos (by omega), List.take_succ_eq_append_getElem hl]
theorem mid_at {l : List α} {p : Nat} {x : α} (hl : p < l.length) : mid l p x (p + 1) = mid l p x p ++ [x] ++ [l[p]] := by
  unfold mid
  rw [if_neg (by omega), if_pos (Nat.le_refl _), show p + 1 - p = 0 + 1 by omega, List.take_succ_eq_append_getElem (by simp; omega)]
  simp
theorem mid_hi {l : List α} {p : Nat} {x : α} {m : Nat} (h : p < m) (hl : m < l.length) : mid l p x (m + 1) = mid l p x m ++ [l[m]] := by
  unfold mid
  rw [if_neg (by omega), if_neg (by omega), show m + 1 - p = (m - p) + 1 by omega, List.take_succ_eq_append_getElem (by simp; omega)]
  simp only [List.append_assoc]
  congr 3
  rw [List.getElem_drop]
  congr 2
  omega
theorem mid_end {l : List α} {p : Nat} {x : α} (hl : p < l.length) : mid l p x l.length = l.take p ++ [x] ++ l.drop p := by
  unfold mid
  rw [if_neg (by omega)]
  congr 1
  exact List.take_of_length_le (by simp)
theorem mid_full {l : List α} {x : α} : mid l l.length x l.length = l := by
  unfold mid
  rw [if_pos (Nat.le_refl _), List.take_length]
theorem mid_len {l : List α} {p : Nat} {x : α} {m : Nat} : (mid l p x m).length ≤ m + 1 := by
  unfold mid
  split
  · simp; omega
  · simp; omega
end

end Go.Proofs.YtklopjbpfddgfaaGreat

/- Package soup: what is in order; rows of tests. -/
namespace Go.Proofs.YtklopjbpfddgfaaGreat
open Go.RowKit
set_option linter.unusedVariables false

theorem retBo {a b : Bool} (h : a = b) : Ending.returned (.bool a) = .returned (.bool b) := by rw [h]

theorem l_nan (x : Int) (w : World) : Calls Tryz.prog 89 #[.int .i64 x] w fun e w' => e = .returned (.bool false) ∧ w = w' := by
  go_enter Tryz.func89, Tryz.ntmps89
  go_wp2
  go_ret
  exact ⟨rfl, rfl⟩

def cmpI (x y : Int) : Int := if x < y then -1 else if y < x then 1 else 0
set_option maxHeartbeats 400000 in
theorem l_cmp (x y : Int) (w : World) : Calls Tryz.prog 67 #[.int .i64 x, .int .i64 y] w fun e w' => e = .returned (.int .i64 (cmpI x y)) ∧ w = w' := by
  unfold cmpI
  by_cases h : x < y
  · rw [if_pos h]
    go_enter Tryz.func67, Tryz.ntmps67
    go_wp2_with (go_at_call 89; refine (l_nan _ _).mono ?_; rintro e w' ⟨rfl, rfl⟩)
    go_ret
    exact ⟨rfl, rfl⟩
  · rw [if_neg h]
    by_cases h' : y < x
    · rw [if_pos h']
      go_enter Tryz.func67, Tryz.ntmps67
      go_wp2_with (go_at_call 89; refine (l_nan _ _).mono ?_; rintro e w' ⟨rfl, rfl⟩)
      go_ret
      exact ⟨rfl, rfl⟩
    · rw [if_neg h']
      go_enter Tryz.func67, Tryz.ntmps67
      go_wp2_with (go_at_call 89; refine (l_nan _ _).mono ?_; rintro e w' ⟨rfl, rfl⟩)
      go_ret
      exact ⟨rfl, rfl⟩

/-- None is above the one behind it. -/
def ordB : List Int → Bool
  | a :: b :: l => decide (a ≤ b) && ordB (b :: l)
  | _ => true
theorem ordB_drop : ∀ (l : List Int) (j : Nat), ordB l = true → ordB (l.drop j) = true
  | l, 0, h => h
  | [], _ + 1, _ => rfl
  | [a], j + 1, _ => by simp [ordB]
  | a :: b :: l, j + 1, h => by
    simp only [ordB, Bool.and_eq_true] at h
    exact ordB_drop (b :: l) j h.2
theorem ordB_step (l : List Int) (j : Nat) (h : j + 1 < l.length) : ordB (l.drop j) = (decide (l[j] ≤ l[j + 1]) && ordB (l.drop (j + 1))) := by
  rw [List.drop_eq_getElem_cons (show j < l.length by omega), List.drop_eq_getElem_cons h]
  rfl

/-- A row of numbers at a block's head. -/
def IntsAt (w : World) (b : Nat) (l : List Int) : Prop := ∀ j (h : j < l.length), w.cell? ⟨b, j, none⟩ = some (.int .i64 l[j])
theorem IntsAt.keep {w w' : World} {b : Nat} {l : List Int} (h : IntsAt w b l) (hn : New w w') : IntsAt w' b l := fun j hj => hn.keep (h j hj)

/-! Rows of tests. -/
structure Fn where
  g : Nat
  bnd : Array Value
  b : Bool
def FnAt (w : World) (b : Nat) (l : List Fn) : Prop := ∀ j (h : j < l.length), w.cell? ⟨b, j, none⟩ = some (.func (.func l[j].g) #[] l[j].bnd)
/-- A test: what it answers in every world above w0. -/
structure Good (w0 : World) (f : Fn) : Prop where
  eg : ∀ args w, (callFunc f.g args).run Tryz.prog w = .ok (.enter f.g args) w
  run : ∀ W, New w0 W → Calls Tryz.prog f.g f.bnd W fun e w' => e = .returned (.bool f.b) ∧ New W w'

def FnPost (l : List Fn) (w : World) (e : Ending) (w' : World) : Prop := ∃ i : Int, l.all (·.b) = decide (i < 0) ∧ e = .returned (.int .i64 i) ∧ New w w'

end Go.Proofs.YtklopjbpfddgfaaGreat
