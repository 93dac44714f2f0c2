import Derived.Test.YtdbhlepbaepngaaGreatDoorOgNZ15
import Derived.Test.YtdbhlepbaepngaaGreatDoorSoRZ15

/- Layer 12: boxes that mark floors, plain. No function of the program in sight. -/
namespace Go.Proofs.YtdbhlepbaepngaaGreatDoor
open Go.RowKit
set_option linter.unusedVariables false

/-- Is a floor in a box? -/
def inX (b : BoxR) (x z y : Int) : Bool := wiB x b.x0 b.x1 && (wiB z b.z0 b.z1 && wiB y b.y0 b.y1)
/-- The best one so far, and the next one. -/
def stepX (x z y : Int) (o : Option BoxR) (b : BoxR) : Option BoxR := if inX b x z y = true ∧ (∀ q, o = some q → q.i ≤ b.i) then some b else o
/-- The box that tells. -/
def bestX (l : List BoxR) (x z y : Int) : Option BoxR := l.foldl (stepX x z y) none
/-- The area of a floor by boxes. -/
def ofX (l : List BoxR) (x z y : Int) : Int := match bestX l x z y with
  | some b => b.ar
  | none => 1
theorem stepX_out {x z y : Int} {o : Option BoxR} {b : BoxR} (h : inX b x z y = false) : stepX x z y o b = o := by unfold stepX; rw [h]; simp
theorem stepX_first {x z y : Int} {b : BoxR} (h : inX b x z y = true) : stepX x z y none b = some b := by unfold stepX; rw [if_pos ⟨h, fun q e => by cases e⟩]
theorem stepX_more {x z y : Int} {q b : BoxR} (h : inX b x z y = true) (hq : q.i ≤ b.i) : stepX x z y (some q) b = some b := by unfold stepX; rw [if_pos ⟨h, fun p e => by cases e; exact hq⟩]
theorem stepX_less {x z y : Int} {q b : BoxR} (hq : ¬ q.i ≤ b.i) : stepX x z y (some q) b = some q := by unfold stepX; rw [if_neg]; rintro ⟨-, h⟩; exact hq (h q rfl)
theorem bestX_nil (x z y : Int) : bestX [] x z y = none := rfl
theorem bestX_snoc (l : List BoxR) (b : BoxR) (x z y : Int) : bestX (l ++ [b]) x z y = stepX x z y (bestX l x z y) b := by unfold bestX; rw [List.foldl_append]; rfl
theorem bestX_take {l : List BoxR} {j : Nat} (h : j < l.length) (x z y : Int) : bestX (l.take (j + 1)) x z y = stepX x z y (bestX (l.take j) x z y) l[j] := by
  rw [List.take_succ_eq_append_getElem h, bestX_snoc]
theorem bestX_app (l m : List BoxR) (x z y : Int) : bestX (l ++ m) x z y = m.foldl (stepX x z y) (bestX l x z y) := by unfold bestX; rw [List.foldl_append]
/-- A box that has not the floor changes nothing. -/
theorem ofX_drop {l : List BoxR} {j : Nat} (h : j < l.length) (x z y : Int) (hi : inX l[j] x z y = false) : ofX l x z y = ofX (l.take j ++ l.drop (j + 1)) x z y := by
  have e : l = l.take (j + 1) ++ l.drop (j + 1) := (List.take_append_drop _ _).symm
  have e2 : bestX l x z y = bestX (l.take j ++ l.drop (j + 1)) x z y := by
    conv => lhs; rw [e]
    rw [bestX_app, bestX_app, bestX_take h, stepX_out hi]
  unfold ofX
  rw [e2]
theorem foldX_is : ∀ (l : List BoxR) (x z y : Int) (o : Option BoxR) (b : BoxR), l.foldl (stepX x z y) o = some b → ((b ∈ l ∧ inX b x z y = true) ∨ o = some b) ∧ (∀ q ∈ l, inX q x z y = true → q.i ≤ b.i) ∧ ∀ p, o = some p → p.i ≤ b.i := by
  intro l x z y
  induction l with
  | nil => intro o b h; exact ⟨.inr h, fun q hq => (by cases hq), fun p hp => (by rw [List.foldl_nil] at h; rw [h] at hp; cases hp; exact Int.le_refl _)⟩
  | cons c l ih =>
    intro o b h
    rw [List.foldl_cons] at h
    obtain ⟨h1, h2, h3⟩ := ih _ _ h
    by_cases hc : inX c x z y = true ∧ (∀ q, o = some q → q.i ≤ c.i)
    · have e : stepX x z y o c = some c := by unfold stepX; rw [if_pos hc]
      rw [e] at h1 h3
      have hcb := h3 c rfl
      refine ⟨?_, fun q hq hi => ?_, fun p hp => Int.le_trans (hc.2 p hp) hcb⟩
      · rcases h1 with ⟨m, hi⟩ | e2
        · exact .inl ⟨List.mem_cons_of_mem _ m, hi⟩
        · cases e2; exact .inl ⟨List.mem_cons_self, hc.1⟩
      · rcases List.mem_cons.1 hq with rfl | hq
        · exact hcb
        · exact h2 q hq hi
    · have e : stepX x z y o c = o := by unfold stepX; rw [if_neg hc]
      rw [e] at h1 h3
      refine ⟨?_, fun q hq hi => ?_, h3⟩
      · rcases h1 with ⟨m, hi⟩ | e2
        · exact .inl ⟨List.mem_cons_of_mem _ m, hi⟩
        · exact .inr e2
      · rcases List.mem_cons.1 hq with rfl | hq
        · by_cases hp : ∀ p, o = some p → p.i ≤ q.i
          · exact absurd ⟨hi, hp⟩ hc
          · have : ∃ p, o = some p ∧ ¬ p.i ≤ q.i := by
              cases o with
              | none => exact absurd (fun p e => by cases e) hp
              | some p => exact ⟨p, rfl, fun h => hp (fun r e => by cases e; exact h)⟩
            obtain ⟨p, hp1, hp2⟩ := this
            have := h3 p hp1
            omega
        · exact h2 q hq hi
theorem bestX_some (l : List BoxR) (x z y : Int) (b : BoxR) (h : bestX l x z y = some b) : b ∈ l ∧ inX b x z y = true ∧ ∀ q ∈ l, inX q x z y = true → q.i ≤ b.i := by
  obtain ⟨h1, h2, -⟩ := foldX_is l x z y none b h
  rcases h1 with ⟨m, hi⟩ | e
  · exact ⟨m, hi, h2⟩
  · cases e
theorem foldX_some : ∀ (m : List BoxR) (x z y : Int) (o : Option BoxR), (∃ q ∈ m, inX q x z y = true) ∨ o ≠ none → m.foldl (stepX x z y) o ≠ none := by
  intro m x z y
  induction m with
  | nil => intro o h; rcases h with ⟨_, h, _⟩ | h; cases h; exact h
  | cons a m im =>
    intro o h
    rw [List.foldl_cons]
    apply im
    rcases h with ⟨q, hq, hi⟩ | h
    · rcases List.mem_cons.1 hq with rfl | hq
      · right
        cases o with
        | none => rw [stepX_first hi]; simp
        | some p => by_cases hp : p.i ≤ q.i
                    · rw [stepX_more hi hp]; simp
                    · rw [stepX_less hp]; simp
      · exact .inl ⟨q, hq, hi⟩
    · right
      unfold stepX
      split
      · simp
      · exact h
theorem bestX_none {l : List BoxR} {x z y : Int} (h : bestX l x z y = none) : ∀ q ∈ l, inX q x z y = false := fun q hq => by
  cases hi : inX q x z y
  · rfl
  · exact absurd h (foldX_some l x z y none (.inl ⟨q, hq, hi⟩))
/-- Of boxes of unlike ids the order does not matter. -/
theorem ofX_any {l m : List BoxR} (hm : ∀ q, q ∈ l ↔ q ∈ m) (hu : ∀ p ∈ l, ∀ q ∈ l, p.i = q.i → p = q) (x z y : Int) : ofX l x z y = ofX m x z y := by
  have e : bestX l x z y = bestX m x z y := by
    cases h1 : bestX l x z y with
    | none =>
      cases h2 : bestX m x z y with
      | none => rfl
      | some b =>
        obtain ⟨k1, k2, -⟩ := bestX_some m x z y b h2
        have := bestX_none h1 b ((hm b).2 k1)
        rw [k2] at this; cases this
    | some a =>
      obtain ⟨a1, a2, a3⟩ := bestX_some l x z y a h1
      cases h2 : bestX m x z y with
      | none =>
        have := bestX_none h2 a ((hm a).1 a1)
        rw [a2] at this; cases this
      | some b =>
        obtain ⟨b1, b2, b3⟩ := bestX_some m x z y b h2
        have e1 := a3 b ((hm b).2 b1) b2
        have e2 := b3 a ((hm a).1 a1) a2
        rw [hu a a1 b ((hm b).2 b1) (by omega)]
  unfold ofX
  rw [e]

/-! Marked grids. -/
def Fl.put (f : Fl) (a : Int) : Fl := ⟨f.y, f.top, a⟩
/-- A floor with its area. -/
def mkX (l : List BoxR) (s : St) : Fl := s.f.put (ofX l s.x s.z s.y)
def markC (G : Gd) (l : List BoxR) (i : Nat) : List Fl := ((gcol G i).map (stOf G i)).map (mkX l)
/-- The columns, marked. -/
def markL (G : Gd) (l : List BoxR) : List (List Fl) := (List.range G.L.length).map (markC G l)
theorem markL_len (G : Gd) (l : List BoxR) : (markL G l).length = G.L.length := by unfold markL; simp
theorem markL_at (G : Gd) (l : List BoxR) {i : Nat} (h : i < (markL G l).length) : (markL G l)[i] = markC G l i := by
  unfold markL at h ⊢
  rw [List.getElem_map, List.getElem_range]
theorem markC_len (G : Gd) (l : List BoxR) (i : Nat) : (markC G l i).length = (gcol G i).length := by unfold markC; simp
theorem markC_at (G : Gd) (l : List BoxR) (i : Nat) {k : Nat} (h : k < (markC G l i).length) : (markC G l i)[k] = mkX l (stOf G i ((gcol G i)[k]'(by rw [← markC_len G l i]; exact h))) := by
  unfold markC at h ⊢
  rw [List.getElem_map, List.getElem_map]
/-- In which column a floor stands. -/
def ixS (G : Gd) (s : St) : Nat := ixG G s.x s.z
/-- The floors of column k among these, each with its area. -/
def colS (G : Gd) (l : List BoxR) (S : List St) (k : Nat) : List Fl := (S.filter fun s => ixS G s == k).map (mkX l)
theorem colS_nil (G : Gd) (l : List BoxR) (k : Nat) : colS G l [] k = [] := rfl
theorem colS_snoc (G : Gd) (l : List BoxR) (S : List St) (s : St) (k : Nat) : colS G l (S ++ [s]) k = if ixS G s = k then colS G l S k ++ [mkX l s] else colS G l S k := by
  unfold colS
  rw [List.filter_append, List.map_append]
  by_cases h : ixS G s = k
  · rw [if_pos h]; simp [h]
  · rw [if_neg h]; simp [h]
theorem colS_len (G : Gd) (l : List BoxR) (S : List St) (k : Nat) : (colS G l S k).length ≤ S.length := by
  unfold colS
  rw [List.length_map]
  exact List.length_filter_le _ _
/-- A floor of the i-th column stands there. -/
theorem ix_st {G : Gd} (hE : gE G = 0) {i : Nat} (h : i < G.L.length) (f : Fl) : ixS G (stOf G i f) = i := by
  have hb := placeB_iff.1 (gd_is hE).1
  have hl := (gd_is hE).2.1
  have hw : 0 < G.w.toNat := by
    rcases Nat.eq_zero_or_pos G.w.toNat with q | q
    · exfalso
      have : G.w = 0 := by omega
      rw [this, Int.zero_mul] at hl
      omega
    · exact q
  unfold ixS ixG stOf
  simp only
  have e1 : G.z + ((i / G.w.toNat : Nat) : Int) - G.z = ((i / G.w.toNat : Nat) : Int) := by omega
  have e2 : G.x + ((i % G.w.toNat : Nat) : Int) - G.x = ((i % G.w.toNat : Nat) : Int) := by omega
  rw [e1, e2]
  have e3 : ((i / G.w.toNat : Nat) : Int) * G.w = (((i / G.w.toNat) * G.w.toNat : Nat) : Int) := by
    rw [Int.natCast_mul]
    congr 1
    omega
  rw [e3, ← Int.natCast_add, Int.toNat_natCast, Nat.mul_comm]
  exact Nat.div_add_mod i G.w.toNat
theorem colS_to {G : Gd} (hE : gE G = 0) (l : List BoxR) (k : Nat) : ∀ n, n ≤ G.L.length → colS G l (stTo G n) k = if k < n then markC G l k else []
  | 0, _ => by rw [if_neg (by omega)]; unfold stTo; rfl
  | n + 1, h => by
    have ih := colS_to hE l k n (by omega)
    have e : colS G l (stTo G (n + 1)) k = colS G l (stTo G n) k ++ (if n = k then markC G l n else []) := by
      rw [stTo_succ]
      unfold colS
      rw [List.filter_append, List.map_append]
      congr 1
      by_cases q : n = k
      · rw [if_pos q]
        have : ((gcol G n).map (stOf G n)).filter (fun s => ixS G s == k) = (gcol G n).map (stOf G n) := by
          rw [List.filter_eq_self]
          intro s hs
          obtain ⟨f, hf, rfl⟩ := List.mem_map.1 hs
          rw [ix_st hE (by omega)]
          simpa using q
        rw [this]
        rfl
      · rw [if_neg q]
        have : ((gcol G n).map (stOf G n)).filter (fun s => ixS G s == k) = [] := by
          rw [List.filter_eq_nil_iff]
          intro s hs
          obtain ⟨f, hf, rfl⟩ := List.mem_map.1 hs
          rw [ix_st hE (by omega)]
          simpa using q
        rw [this]
        rfl
    rw [e, ih]
    by_cases q : n = k
    · subst q
      rw [if_neg (by omega), if_pos rfl, if_pos (by omega)]
      rfl
    · rw [if_neg q, List.append_nil]
      by_cases q2 : k < n
      · rw [if_pos q2, if_pos (by omega)]
      · rw [if_neg q2, if_neg (by omega)]
/-- All floors, put column by column, are the marked columns. -/
theorem colS_all {G : Gd} (hE : gE G = 0) (l : List BoxR) {k : Nat} (h : k < G.L.length) : colS G l (allG G) k = markC G l k := by
  unfold allG
  rw [colS_to hE l k _ (Nat.le_refl _), if_pos h]
/-- Where a floor stands, its column is one of the grid's. -/
theorem st_mem {G : Gd} (hE : gE G = 0) {s : St} (h : s ∈ allG G) : ∃ i f, i < G.L.length ∧ f ∈ gcol G i ∧ s = stOf G i f := by
  unfold allG stTo at h
  obtain ⟨i, hi, hs⟩ := List.mem_flatMap.1 h
  obtain ⟨f, hf, rfl⟩ := List.mem_map.1 hs
  exact ⟨i, f, List.mem_range.1 hi, hf, rfl⟩

end Go.Proofs.YtdbhlepbaepngaaGreatDoor
