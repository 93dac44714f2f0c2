import Derived.Test.YtgoggogcbjfofaaDoorSoWY14

/- append(s, x...), s an own row, x any slice that holds rows. No function of the program in sight. -/
namespace Go.Proofs.YtgoggogcbjfofaaDoor
open Go.RowKit
set_option linter.unusedVariables false

theorem wpList_append_sl {P : Program} {ops : Array Oper} {rest : List Oper} {o : Oper} {a : Act} {w : World} {Q : Exit → Act → World → Prop} (hgd : o.guard = none) (s x : Operand) (t : TypeId)
    (ho : o.op = .call { callee := .builtin .append, args := #[s, x], argTypes := #[t, t] })
    {α : Type} {enc : α → List Value} {k : Nat} (hk : ∀ a, (enc a).length = k) (h1 : ∀ a, ∀ u ∈ enc a, u.oneCell' = true)
    (base : Nat) (e : TypeId) (i : TypeInfo) (z : Value) (bytes : Nat) (ht : P.underlying t = some (.slice e)) (hi : P.info? e = some i) (hz : i.zero = some z)
    (hsize : i.size = k) (hby : i.bytes = bytes) (hzs : z.cells.size = k) (hsz : 0 < k)
    (v : Value) (l : List α) (hs : a.eval s = v) (hown : w.ownsRow base e k v l.length (l.flatMap enc))
    (u : Value) (m : List α) (hx : a.eval x = u) (hm : Sl enc k w u m)
    (h63 : l.length + m.length ≤ maxLen) (hbytes : (l.length + m.length) * bytes ≤ 140737488355328) (hbase : base ≤ w.heap.size)
    (h : ∀ v' w', w'.ownsRow base e k v' (l ++ m).length ((l ++ m).flatMap enc) → (∀ a0, New a0 w → a0.heap.size ≤ base → New a0 w') → (∀ b, b < base → w'.heap[b]? = w.heap[b]?) → wpList P ops Q rest (a.put o.dst v') w') : wpList P ops Q (o :: rest) a w := by
  obtain ⟨at0, c, rfl, hc, hcm, hnone, hrow⟩ := hm
  cases at0 with
  | none =>
    have hc0 := hnone rfl
    have hm0 : m = [] := List.eq_nil_of_length_eq_zero (by omega)
    subst hm0
    rw [hc0] at hx
    exact Lib.wpList_append_run w hgd s x t t ho _ _ hs hx _ _ (run_append_owned_none (P := P) w base t o.type e i k ht hi _ _ _ hown) (h _ _ (by simpa using hown) (fun _ h _ => h) (fun _ _ => rfl))
  | some ad =>
    refine wpList_append_own w hgd s x t ho base e i z k bytes ht hi hz hsize hby hzs hsz v l.length (l.flatMap enc) hs hown ad m.length c (m.flatMap enc) hx (flatMap_len hk m) (sl_news hk ⟨some ad, c, rfl, hc, hcm, hnone, hrow⟩) (by intro u hu; obtain ⟨y, _, hy⟩ := List.mem_flatMap.1 hu; exact h1 y u hy) h63 hbytes hbase (fun v' w' h2 h3 _ => ?_)
    refine h v' w' (by rw [List.length_append, List.flatMap_append]; exact h2) (fun a0 hn hb => newGrown hn h3 (fun j hj => Nat.le_trans hb (own_block hown j hj))) (fun b hb => h3.block b (by omega) (fun e => by have := own_block hown b e.symm; omega))

theorem cell_block {w w' : World} {b : Nat} (h : w'.heap[b]? = w.heap[b]?) {o : Nat} {v : Value} (hc : w.cell? ⟨b, o, none⟩ = some v) : w'.cell? ⟨b, o, none⟩ = some v := by
  unfold World.cell? at hc ⊢
  rw [h]; exact hc
theorem frozen_block {w w' : World} {b : Nat} (h : w'.heap[b]? = w.heap[b]?) {o : Nat} {f : Bool} (hc : w.frozen? ⟨b, o, none⟩ = f) : w'.frozen? ⟨b, o, none⟩ = f := by
  unfold World.frozen? at hc ⊢
  rw [h]; exact hc

/-- What is told of a region's operations: the first ones have these values, of the others P holds. -/
def fixV : List Value → (World → Value → Prop) → Nat → World → Value → Prop
  | [], P, _, w, v => P w v
  | c :: _, _, 0, _, v => v = c
  | _ :: cs, P, i + 1, w, v => fixV cs P i w v
theorem fixV_keep {P : World → Value → Prop} (hP : ∀ w w' v, P w v → New w w' → P w' v) : ∀ (cs : List Value) (i : Nat) (w w' : World) (v : Value), fixV cs P i w v → New w w' → fixV cs P i w' v
  | [], _, w, w', v, h, n => hP w w' v h n
  | _ :: _, 0, _, _, _, h, _ => h
  | _ :: cs, i + 1, w, w', v, h, n => fixV_keep hP cs i w w' v h n
theorem own_shape2 {w : World} {base size : Nat} {e : TypeId} {v : Value} {n : Nat} {xs : List Value} (h : w.ownsRow base e size v n xs) : ∃ a c N, N = n ∧ v = .slice a N c := by
  rcases h.2 with ⟨rfl, rfl⟩ | ⟨g, cap, cur, rfl, _⟩
  · exact ⟨_, _, _, rfl, rfl⟩
  · exact ⟨_, _, _, rfl, rfl⟩
theorem cell_lt {w : World} {b o : Nat} {v : Value} (h : w.cell? ⟨b, o, none⟩ = some v) : b < w.heap.size := World.block_lt_of_cell? _ _ h

section
variable {α : Type}
/-- A row on its way to having x put in at p. -/
def mid (l : List α) (p : Nat) (x : α) (m : Nat) : List α := if m ≤ p then l.take m else l.take p ++ [x] ++ (l.drop p).take (m - p)
theorem mid_zero (l : List α) (p : Nat) (x : α) : mid l p x 0 = [] := by unfold mid; simp
theorem mid_lo {l : List α} {p : Nat} {x : α} {m : Nat} (h : m < p) (hl : m < l.length) : mid l p x (m + 1) = mid l p x m ++ [l[m]] := by
  unfold mid
  rw [if_pos (by omega), if_pos (by omega), List.take_succ_eq_append_getElem hl]
theorem mid_at {l : List α} {p : Nat} {x : α} (hl : p < l.length) : mid l p x (p + 1) = mid l p x p ++ [x] ++ [l[p]] := by
  unfold mid
  rw [if_neg (by omega), if_pos (Nat.le_refl _), show p + 1 - p = 0 + 1 by omega, List.take_succ_eq_append_getElem (by simp; omega)]
  simp
theorem mid_hi {l : List α} {p : Nat} {x : α} {m : Nat} (h : p < m) (hl : m < l.length) : mid l p x (m + 1) = mid l p x m ++ [l[m]] := by
  unfold mid
  rw [if_neg (by omega), if_neg (by omega), show m + 1 - p = (m - p) + 1 by omega, List.take_succ_eq_append_getElem (by simp; omega)]
  simp only [List.append_assoc]
  congr 3
  rw [List.getElem_drop]
  congr 2
  omega
theorem mid_end {l : List α} {p : Nat} {x : α} (hl : p < l.length) : mid l p x l.length = l.take p ++ [x] ++ l.drop p := by
  unfold mid
  rw [if_neg (by omega)]
  congr 1
  exact List.take_of_length_le (by simp)
theorem mid_full {l : List α} {x : α} : mid l l.length x l.length = l := by
  unfold mid
  rw [if_pos (Nat.le_refl _), List.take_length]
theorem mid_len {l : List α} {p : Nat} {x : α} {m : Nat} : (mid l p x m).length ≤ m + 1 := by
  unfold mid
  split
  · simp; omega
  · simp; omega
end

end Go.Proofs.YtgoggogcbjfofaaDoor
