import Derived.Test.YteoongcajfcgcaaClEZ6
import Derived.Test.YteoongcajfcgcaaSoSZ6
import Derived.Laws.IdiomCopy

/- slices.Compact at rows of corners: what is written on the way. -/
namespace Go.Proofs.Yteoongcajfcgcaa
open Go.RowKit
set_option linter.unusedVariables false

/-- Of the first n, one of each run of equals. -/
def cmpU (l : List Co) : Nat → List Co
  | 0 => []
  | n + 1 => if h : n < l.length then (if n = 0 ∨ ¬ l[n - 1] = l[n] then cmpU l n ++ [l[n]] else cmpU l n) else cmpU l n

theorem cmpU_keep {l : List Co} {n : Nat} (h : n < l.length) (hk : n = 0 ∨ ¬ l[n - 1] = l[n]) : cmpU l (n + 1) = cmpU l n ++ [l[n]] := by
  rw [cmpU, dif_pos h, if_pos hk]
theorem cmpU_skip {l : List Co} {n : Nat} (h : n < l.length) (h0 : 0 < n) (hk : l[n - 1] = l[n]) : cmpU l (n + 1) = cmpU l n := by
  rw [cmpU, dif_pos h, if_neg (by intro q; rcases q with q | q; omega; exact q hk)]
theorem cmpU_one {l : List Co} (h : 0 < l.length) : cmpU l 1 = l.take 1 := by
  rw [cmpU_keep h (.inl rfl), List.take_succ_eq_append_getElem h]; rfl
theorem mem_cmpU {l : List Co} : ∀ n c, c ∈ cmpU l n ↔ c ∈ l.take n
  | 0, c => by simp [cmpU]
  | n + 1, c => by
    by_cases h : n < l.length
    · by_cases hk : n = 0 ∨ ¬ l[n - 1] = l[n]
      · rw [cmpU_keep h hk, List.take_succ_eq_append_getElem h, List.mem_append, List.mem_append, mem_cmpU n c]
      · have h0 : 0 < n := by omega
        have e : l[n - 1] = l[n] := Classical.byContradiction fun q => hk (.inr q)
        rw [cmpU_skip h h0 e, List.take_succ_eq_append_getElem h, List.mem_append, mem_cmpU n c]
        constructor
        · exact .inl
        · rintro (q | q)
          · exact q
          · rw [List.mem_singleton] at q
            subst q
            rw [← e]
            have : n - 1 < (l.take n).length := by simp; omega
            have e2 := List.getElem_mem this
            rwa [List.getElem_take] at e2
    · rw [cmpU, dif_neg h, mem_cmpU n c, List.take_of_length_le (by omega), List.take_of_length_le (by omega)]
theorem cmpU_rise {l : List Co} (hd : ∀ c ∈ l, 0 < c.d) (h1 : ∀ a ∈ l, ∀ b ∈ l, a.x * b.d = b.x * a.d → a.z * b.d = b.z * a.d → a = b) (hs : l.Pairwise (fun a b => ¬ ltC b a)) : ∀ n, (cmpU l n).Pairwise ltC
  | 0 => List.Pairwise.nil
  | n + 1 => by
    by_cases h : n < l.length
    · by_cases hk : n = 0 ∨ ¬ l[n - 1] = l[n]
      · rw [cmpU_keep h hk, List.pairwise_append]
        refine ⟨cmpU_rise hd h1 hs n, List.pairwise_singleton _ _, fun e he c hc => ?_⟩
        rw [List.mem_singleton] at hc
        subst hc
        have he' := (mem_cmpU n e).1 he
        obtain ⟨i, hi, rfl⟩ := List.getElem_of_mem he'
        have hin : i < n := by simp at hi; omega
        rw [List.getElem_take]
        have hil : i < l.length := by omega
        have g1 := List.pairwise_iff_getElem.1 hs i n hil h hin
        rcases ltC_tri l[i] l[n] with q | q | ⟨q1, q2⟩
        · exact q
        · exact absurd q g1
        · exfalso
          have e1 : l[i] = l[n] := h1 _ (List.getElem_mem _) _ (List.getElem_mem _) q1 q2
          rcases hk with hk | hk
          · omega
          · apply hk
            by_cases hi1 : i = n - 1
            · subst hi1; exact e1
            · have g2 := List.pairwise_iff_getElem.1 hs i (n - 1) hil (by omega) (by omega)
              have g3 := List.pairwise_iff_getElem.1 hs (n - 1) n (by omega) h (by omega)
              rw [e1] at g2
              rcases ltC_tri l[n - 1] l[n] with q | q | ⟨q1, q2⟩
              · exact absurd q g2
              · exact absurd q g3
              · exact h1 _ (List.getElem_mem _) _ (List.getElem_mem _) q1 q2
      · have h0 : 0 < n := by omega
        have e : l[n - 1] = l[n] := Classical.byContradiction fun q => hk (.inr q)
        rw [cmpU_skip h h0 e]
        exact cmpU_rise hd h1 hs n
    · rw [cmpU, dif_neg h]
      exact cmpU_rise hd h1 hs n
theorem cmpU_len {l : List Co} : ∀ n, (cmpU l n).length ≤ n
  | 0 => by simp [cmpU]
  | n + 1 => by
    rw [cmpU]
    have := cmpU_len (l := l) n
    split
    · split
      · simp; omega
      · omega
    · omega
theorem cmpU_pos {l : List Co} (h : 0 < l.length) : ∀ n, 0 < n → 0 < (cmpU l n).length
  | 0, hn => by omega
  | 1, _ => by rw [cmpU_one h]; simp; omega
  | n + 2, _ => by
    have := cmpU_pos h (n + 1) (by omega)
    rw [cmpU]
    split
    · split
      · simp
      · omega
    · omega

/-! Worlds in which block g alone may have changed. -/
def Upon (w : World) (g : Nat) (w' : World) : Prop := ∀ a, New a w → a.heap.size ≤ g → New a w'
theorem Upon.refl (w : World) (g : Nat) : Upon w g w := fun _ h _ => h
theorem Upon.trans {a b c : World} {g : Nat} (h : Upon a g b) (k : Upon b g c) : Upon a g c := fun x hx hg => k x (h x hx hg) hg
theorem Upon.new {a b c : World} {g : Nat} (h : Upon a g b) (k : New b c) : Upon a g c := fun x hx hg => (h x hx hg).trans k
theorem Upon.setCells {w w' : World} {g : Nat} (h : Upon w g w') (o : Nat) (vs : List Value) : Upon w g (w'.setCells g o vs) := fun a ha hg => new_setCells (h a ha hg) hg vs o

theorem WRow.keep {w w' : World} {b : Nat} {l : List Co} (h : WRow w b l) (hn : New w w') : WRow w' b l :=
  ⟨h.row.keep hn, fun j hj => by
    have hq : j / 4 < l.length := by omega
    have hc := h.row (j / 4) hq (j % 4) (by rw [Co.enc_len]; exact Nat.mod_lt _ (by omega))
    rw [show 0 + j / 4 * 4 + j % 4 = j by omega] at hc
    exact hn.keepF hc (h.free j hj)⟩

theorem co_cells {w : World} {b : Nat} {l : List Co} (H : WRow w b l) (j : Nat) (h : j < l.length) :
    w.cell? ⟨b, j * 4, none⟩ = some (.int .i64 l[j].x) ∧ w.cell? ⟨b, j * 4 + 1, none⟩ = some (.int .i64 l[j].z) ∧ w.cell? ⟨b, j * 4 + 2, none⟩ = some (.int .i64 l[j].y) ∧ w.cell? ⟨b, j * 4 + 3, none⟩ = some (.int .i64 l[j].d) := by
  have h0 := H.row j h 0 (by rw [Co.enc_len]; omega)
  have h1 := H.row j h 1 (by rw [Co.enc_len]; omega)
  have h2 := H.row j h 2 (by rw [Co.enc_len]; omega)
  have h3 := H.row j h 3 (by rw [Co.enc_len]; omega)
  simp only [Nat.zero_add, Nat.add_zero] at h0 h1 h2 h3
  exact ⟨h0, h1, h2, h3⟩

theorem WRow.there {w : World} {b : Nat} {l : List Co} (H : WRow w b l) (o n : Nat) (h : o + n ≤ l.length * 4) : w.there b o n := fun j hj => by
  have hq : (o + j) / 4 < l.length := by omega
  have hc := H.row ((o + j) / 4) hq ((o + j) % 4) (by rw [Co.enc_len]; exact Nat.mod_lt _ (by omega))
  rw [show 0 + (o + j) / 4 * 4 + (o + j) % 4 = o + j by omega] at hc
  exact ⟨by rw [hc]; rfl, H.free _ (by omega)⟩

theorem frozen_setCells (b : Nat) : ∀ (vs : List Value) (o : Nat) (w : World) (x : Addr), (w.setCells b o vs).frozen? x = w.frozen? x
  | [], _, _, _ => rfl
  | v :: vs, o, w, x => by
    rw [World.setCells, frozen_setCells b vs (o + 1)]
    simp

/-- One corner stored. -/
theorem WRow.put {w : World} {b : Nat} {l : List Co} (H : WRow w b l) (k : Nat) (hk : k < l.length) (c : Co) : WRow (w.setCells b (k * 4) c.enc) b (l.set k c) := by
  refine ⟨fun j hj i hi => ?_, fun j hj => ?_⟩
  · have hj' : j < l.length := by simpa using hj
    have hi' : i < 4 := by rw [Co.enc_len] at hi; exact hi
    by_cases e : j = k
    · subst e
      have e1 : (l.set j c)[j] = c := by simp
      have := World.rangeAt_setCells_same w b (j * 4) c.enc (H.there _ _ (by rw [Co.enc_len]; omega)) i (c.enc[i]'(by rw [Co.enc_len]; exact hi')) (List.getElem?_eq_getElem _)
      rw [Nat.zero_add, this]
      simp only [e1]
    · rw [World.cell?_setCells_out b _ _ w ⟨b, 0 + j * 4 + i, none⟩ (fun _ _ => by
        show 0 + j * 4 + i < k * 4 ∨ k * 4 + c.enc.length ≤ 0 + j * 4 + i
        rw [Co.enc_len]
        rcases Nat.lt_or_gt_of_ne e with q | q
        · left; omega
        · right; omega)]
      have e1 : (l.set k c)[j] = l[j] := by rw [List.getElem_set_ne (fun q => e q.symm)]
      have := H.row j hj' i (by rw [Co.enc_len]; exact hi')
      rw [this]
      simp only [e1]
  · rw [frozen_setCells]
    exact H.free j (by simpa using hj)

/-- What is written behind the first n leaves these. -/
theorem WRow.past {w : World} {b : Nat} {l : List Co} (H : WRow w b l) (n : Nat) (vs : List Value) : RowAt Co.enc 4 (w.setCells b (n * 4) vs) b 0 (l.take n) := fun j hj i hi => by
  have hj' : j < l.length := by simp at hj; omega
  have hjn : j < n := by simp at hj; omega
  have hi' : i < 4 := by rw [Co.enc_len] at hi; exact hi
  rw [World.cell?_setCells_out b _ _ w ⟨b, 0 + j * 4 + i, none⟩ (fun _ _ => .inl (by show 0 + j * 4 + i < n * 4; omega))]
  have e1 : (l.take n)[j] = l[j] := List.getElem_take
  have := H.row j hj' i (by rw [Co.enc_len]; exact hi')
  rw [this]
  simp only [e1]

theorem run_clear_any {P : Program} (w : World) (t e ty : TypeId) (z : Value) (ht : P.underlying t = some (.slice e)) (hv : ∀ w, (zeroValue e).run P w = .ok z w) (hz : z.cells.size = 4) (h1 : ∀ v ∈ z.cells.toList, v.oneCell' = true) (b o n c : Nat) (hn : 0 < n)
    (hth : w.there b o (n * 4)) : ∃ vs, (Builtin.clear_ #[t] ty #[.slice (some ⟨b, o, none⟩) n c]).run P w = .ok (.tuple #[]) (w.setCells b o vs) := by
  refine ⟨(Builtin.zeroCells z.cells n).toList, ?_⟩
  have hl : (Builtin.zeroCells z.cells n).toList.length = n * 4 := by simp [Builtin.zeroCells, hz]
  have hst := run_storeCells_cells (P := P) b o (Builtin.zeroCells z.cells n).toList 0 w (fun j hj => by rw [Nat.add_zero]; exact (hth j (by omega)).1) (fun j hj => by rw [Nat.add_zero]; exact (hth j (by omega)).2) (by
    intro v hv'
    unfold Builtin.zeroCells at hv'
    simp only [Array.toList_map, List.mem_map, Array.mem_toList_iff, Array.mem_range] at hv'
    obtain ⟨i, hi, rfl⟩ := hv'
    have hlt : i % z.cells.size < z.cells.size := Nat.mod_lt _ (by omega)
    rw [getElem!_pos z.cells _ hlt]
    exact h1 _ (by rw [Array.mem_toList_iff]; exact Array.getElem_mem hlt))
  simp only [Nat.add_zero] at hst
  obtain ⟨m, rfl⟩ : ∃ m, n = m + 1 := ⟨n - 1, by omega⟩
  simp [Builtin.clear_, run_underlying ht, hv, hst]

set_option maxHeartbeats 1000000 in
theorem co_eql (w : World) (a b : Co) : (binOp .eql 39 (.agg #[.int .i64 a.x, .int .i64 a.z, .int .i64 a.y, .int .i64 a.d]) (.agg #[.int .i64 b.x, .int .i64 b.z, .int .i64 b.y, .int .i64 b.d])).run Try.prog w = .ok (.bool (a.eqB b)) w := by
  unfold Co.eqB
  cases h1 : (a.x == b.x) <;> cases h2 : (a.z == b.z) <;> cases h3 : (a.y == b.y) <;> cases h4 : (a.d == b.d) <;> go_simp

set_option maxHeartbeats 1000000 in
theorem co_neq (w : World) (a b : Co) : (binOp .neq 39 (.agg #[.int .i64 a.x, .int .i64 a.z, .int .i64 a.y, .int .i64 a.d]) (.agg #[.int .i64 b.x, .int .i64 b.z, .int .i64 b.y, .int .i64 b.d])).run Try.prog w = .ok (.bool (!a.eqB b)) w := by
  unfold Co.eqB
  cases h1 : (a.x == b.x) <;> cases h2 : (a.z == b.z) <;> cases h3 : (a.y == b.y) <;> cases h4 : (a.d == b.d) <;> go_simp

end Go.Proofs.Yteoongcajfcgcaa
