import Derived.Test.YtgoggogcbjfofaaDoorSoRY14
import Derived.OwnWalk
import Derived.OneCell
import Derived.Lib.AppendZerosOnto

/- Rows of structs that a call makes for itself. No function of the program in sight. -/
namespace Go.Proofs.YtgoggogcbjfofaaDoor
open Go.RowKit
set_option linter.unusedVariables false

theorem newGrown {a w w' : World} {row : Option Nat} (h : New a w) (hg : w.grownBy w' row) (hr : ∀ k, row = some k → a.heap.size ≤ k) : New a w' := Below.grown h hg h.size hr
theorem own_new {w w' : World} {base size : Nat} {e : TypeId} {v : Value} {n : Nat} {xs : List Value} (h : w.ownsRow base e size v n xs) (hn : New w w') : w'.ownsRow base e size v n xs := by
  obtain ⟨h1, h2⟩ := h
  refine ⟨h1, h2.imp id ?_⟩
  rintro ⟨g, cap, cur, rfl, hb, hg, r⟩
  exact ⟨g, cap, cur, rfl, hb, new_block' hn hg, r⟩
where
  new_block' {a w : World} (h : New a w) {b : Nat} {o : Obj} (hb : a.heap[b]? = some o) : w.heap[b]? = some o := by
    rw [h.block b (by rcases Nat.lt_or_ge b a.heap.size with q | q; exact q; rw [Array.getElem?_eq_none q] at hb; cases hb)]; exact hb
theorem own_block {w : World} {base size : Nat} {e : TypeId} {v : Value} {n : Nat} {xs : List Value} (h : w.ownsRow base e size v n xs) : ∀ k, v.ownBlock = some k → base ≤ k := by
  rintro k hk
  rcases h.2 with ⟨rfl, _⟩ | ⟨g, cap, cur, rfl, hb, _⟩
  · cases hk
  · have e1 : g = k := by simpa [Value.ownBlock] using hk
    omega

section
variable {α : Type}
theorem flatMap_len {enc : α → List Value} {k : Nat} (hk : ∀ a, (enc a).length = k) : ∀ l : List α, (l.flatMap enc).length = l.length * k
  | [] => by simp
  | a :: l => by rw [List.flatMap_cons, List.length_append, flatMap_len hk l, hk, List.length_cons, Nat.add_mul]; omega
theorem flatMap_get {enc : α → List Value} {k : Nat} (hk : ∀ a, (enc a).length = k) : ∀ (l : List α) (j : Nat) (h : j < l.length) (i : Nat), i < k → (l.flatMap enc)[j * k + i]? = (enc l[j])[i]?
  | a :: l, 0, _, i, hi => by
    rw [List.flatMap_cons, Nat.zero_mul, Nat.zero_add, List.getElem?_append_left (by rw [hk]; exact hi)]
    rfl
  | a :: l, j + 1, h, i, hi => by
    rw [List.flatMap_cons, List.getElem?_append_right (by rw [hk, Nat.add_mul]; omega), hk, show (j + 1) * k + i - k = j * k + i by rw [Nat.add_mul]; omega]
    exact flatMap_get hk l j (by simpa using h) i hi

theorem own_sl {enc : α → List Value} {k : Nat} (hk : ∀ a, (enc a).length = k) {w : World} {base : Nat} {e : TypeId} {v : Value} {l : List α} (h : w.ownsRow base e k v l.length (l.flatMap enc)) : Sl enc k w v l := by
  rcases h.2 with ⟨rfl, h0⟩ | ⟨g, cap, cur, rfl, hb, hg, hc, hm, _⟩
  · obtain rfl := List.eq_nil_of_length_eq_zero h0
    exact Sl.nil
  · refine ⟨some ⟨g, 0, none⟩, cap, rfl, hc, hm, fun h => (by cases h), fun _ => ⟨g, 0, rfl, fun j hj i hi => ?_⟩⟩
    have hik : i < k := by rw [← hk l[j]]; exact hi
    have hlt : j * k + i < l.length * k := by
      have := Nat.mul_le_mul_right k (show j + 1 ≤ l.length from hj)
      rw [Nat.add_mul] at this
      omega
    have a := World.ownsRow.cellAt h (j * k + i) (by omega)
    rw [flatMap_get hk l j hj i hik] at a
    rw [Nat.zero_add, a, List.getElem?_eq_getElem hi]

/-- The slices that are laid end to end. -/
structure Part (α : Type) where
  a : Option Addr
  l : List α
  c : Nat
def PartsAt (enc : α → List Value) (k : Nat) (w : World) (b : Nat) (ps : List (Part α)) : Prop := ∀ j (h : j < ps.length), w.cell? ⟨b, j, none⟩ = some (.slice ps[j].a ps[j].l.length ps[j].c) ∧ Sl enc k w (.slice ps[j].a ps[j].l.length ps[j].c) ps[j].l
theorem PartsAt.keep {enc : α → List Value} {k : Nat} {w w' : World} {b : Nat} {ps : List (Part α)} (h : PartsAt enc k w b ps) (hn : New w w') : PartsAt enc k w' b ps := fun j hj => ⟨hn.keep (h j hj).1, (h j hj).2.keep hn⟩
def cat (ps : List (Part α)) (i : Nat) : List α := (ps.take i).flatMap (·.l)
theorem cat_succ (ps : List (Part α)) (i : Nat) (h : i < ps.length) : cat ps (i + 1) = cat ps i ++ ps[i].l := by
  unfold cat
  rw [List.take_succ_eq_append_getElem h, List.flatMap_append]
  simp
theorem cat_all (ps : List (Part α)) : cat ps ps.length = ps.flatMap (·.l) := by unfold cat; rw [List.take_length]
theorem cat_le (ps : List (Part α)) : ∀ i, (cat ps i).length ≤ (ps.flatMap (·.l)).length := fun i => by
  unfold cat
  conv => rhs; rw [← List.take_append_drop i ps, List.flatMap_append, List.length_append]
  omega
theorem sl_news {enc : α → List Value} {k : Nat} (hk : ∀ a, (enc a).length = k) {w : World} {ad : Addr} {c : Nat} {l : List α} (h : Sl enc k w (.slice (some ad) l.length c) l) : ∀ j u, (l.flatMap enc)[j]? = some u → w.cell? (ad.add j) = some u := by
  intro j u hu
  have hj : j < l.length * k := by
    have := (List.getElem?_eq_some_iff.1 hu).1
    rwa [flatMap_len hk] at this
  have h0 : 0 < l.length := by
    rcases Nat.eq_zero_or_pos l.length with q | q
    · rw [q, Nat.zero_mul] at hj; omega
    · exact q
  obtain ⟨b, off, e, hA⟩ := h.row.2.2.2.2 h0
  injection e with e
  subst e
  have hk0 : 0 < k := by
    rcases Nat.eq_zero_or_pos k with q | q
    · rw [q, Nat.mul_zero] at hj; omega
    · exact q
  have hq : j / k < l.length := Nat.div_lt_of_lt_mul (by rw [Nat.mul_comm]; exact hj)
  have hr : j % k < k := Nat.mod_lt _ hk0
  have e1 : j = j / k * k + j % k := by rw [Nat.mul_comm]; exact (Nat.div_add_mod j k).symm
  have h1 := flatMap_get hk l (j / k) hq (j % k) hr
  rw [← e1, hu] at h1
  have h2 := hA (j / k) hq (j % k) (by rw [hk]; exact hr)
  rw [Addr.add_lit, show off + j = off + j / k * k + j % k by omega, h2, h1, List.getElem?_eq_getElem]
end
end Go.Proofs.YtgoggogcbjfofaaDoor
