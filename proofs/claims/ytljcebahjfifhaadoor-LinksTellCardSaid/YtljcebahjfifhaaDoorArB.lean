/- A row of rows that the call made: each row has memory of its own; an element is put to one of them. No function of the program in sight. -/
import Derived.Test.YtljcebahjfifhaaDoorOgG
import Derived.Test.YtljcebahjfifhaaDoorSteady
import Derived.Test.YtljcebahjfifhaaDoorSoW
import Derived.RangeFuncNested
import Derived.RangeFuncWrites
import Derived.RangeFuncBound
import Derived.RangeFuncCalls
import Derived.RangeFuncLeaves
import Derived.RangeFuncBox
import Derived.Maps.OwnIn
import Derived.Deep.OwnRows
namespace Go.Proofs.YtljcebahjfifhaaDoor
open Go.RowKit
set_option linter.unusedVariables false

/-- All blocks below b0 but P lie as they lay. -/
def Bar (b0 P : Nat) (W U : World) : Prop := b0 ≤ U.heap.size ∧ ∀ b, b < b0 → b ≠ P → U.heap[b]? = W.heap[b]?
theorem Bar.refl {b0 P : Nat} {W : World} (h : b0 ≤ W.heap.size) : Bar b0 P W W := ⟨h, fun _ _ _ => rfl⟩
theorem Bar.new {b0 P : Nat} {W U V : World} (h : Bar b0 P W U) (n : New U V) : Bar b0 P W V := ⟨Nat.le_trans h.1 n.size, fun b hb hp => (n.block b (Nat.lt_of_lt_of_le hb h.1)).trans (h.2 b hb hp)⟩
theorem Bar.grown {b0 P : Nat} {W U V : World} {row : Option Nat} (h : Bar b0 P W U) (hg : U.grownBy V row) (hr : ∀ r, row = some r → b0 ≤ r) : Bar b0 P W V := ⟨Nat.le_trans h.1 hg.size, fun b hb hp => (hg.block b (Nat.lt_of_lt_of_le hb h.1) (fun e => by have := hr b e.symm; omega)).trans (h.2 b hb hp)⟩
theorem Bar.set {b0 P : Nat} {W U : World} (h : Bar b0 P W U) (o : Nat) (v : Value) : Bar b0 P W (U.setCell ⟨P, o, none⟩ v) := ⟨by have := h.1; simpa using this, fun b hb hp => (Below.heap_setCell _ _ _ _ (by exact hp)).trans (h.2 b hb hp)⟩
theorem Bar.above {b0 P Q : Nat} {W U : World} (h : Bar b0 P W U) (hQ : b0 ≤ Q) (o : Nat) (v : Value) : Bar b0 P W (U.setCell ⟨Q, o, none⟩ v) := ⟨by have := h.1; simpa using this, fun b hb hp => (Below.heap_setCell _ _ _ _ (show b ≠ Q by omega)).trans (h.2 b hb hp)⟩
theorem Bar.own {β : Type} {b0 P D : Nat} {W : World} (hD : b0 ≤ D) : OwnFrom D (fun (_ : β) U => Bar b0 P W U) := fun _ X Y row h hg hr => h.grown hg (fun r e => Nat.le_trans hD (hr r e).1)
theorem Bar.blk {b0 P b : Nat} {W U : World} {o : Obj} (h : Bar b0 P W U) (hb : b < b0) (hp : b ≠ P) (hW : W.heap[b]? = some o) : U.heap[b]? = some o := (h.2 b hb hp).trans hW

section
variable {α : Type} {enc : α → List Value} {k : Nat}
/-- N rows; where there is one, their slices stand in block G. -/
structure GrV (enc : α → List Value) (k : Nat) (tG tS : TypeId) (W : World) (n0 G N : Nat) (L : Nat → List α) (vs : Nat → Value) : Prop where
  arr : ∃ cs : Array Value, W.heap[G]? = some (.cells cs tG (0, 0)) ∧ N ≤ cs.size ∧ ∀ j, j < N → cs[j]? = some (vs j)
  rows : ∀ j, j < N → W.ownsRow n0 tS k (vs j) (L j).length ((L j).flatMap enc)
  apart : ∀ i j b, i < N → j < N → (vs i).ownBlock = some b → (vs j).ownBlock = some b → i = j
def Gr (enc : α → List Value) (k : Nat) (tG tS : TypeId) (W : World) (n0 G N : Nat) (L : Nat → List α) : Prop := 0 < N → ∃ vs, GrV enc k tG tS W n0 G N L vs

variable {tG tS : TypeId} {W w1 : World} {n0 G N : Nat} {L : Nat → List α} {vs : Nat → Value}

theorem gr_cells {base size m : Nat} {v : Value} {xs : List Value} (h : W.ownsRow base tS size v m xs) {g : Nat} (hg : v.ownBlock = some g) : ∃ cur, W.heap[g]? = some (.cells cur tS (0, 0)) ∧ base ≤ g := by
  rcases h.2 with ⟨rfl, _⟩ | ⟨g', cap, cur, rfl, hb, hgb, _⟩
  · simp [Value.ownBlock] at hg
  · obtain rfl : g' = g := by simpa [Value.ownBlock] using hg
    exact ⟨cur, hgb, hb⟩

/-- Rows of nothing, just made. -/
theorem gr_nil {base n0 : Nat} {v : Value} (h : W.ownsRow base tG 1 v N (List.replicate N (.slice none 0 0))) (h0 : 0 < N) : ∃ G cap, v = .slice (some ⟨G, 0, none⟩) N cap ∧ base ≤ G ∧ G < W.heap.size ∧ N ≤ cap ∧ cap ≤ maxLen ∧ Gr enc k tG tS W n0 G N (fun _ => []) := by
  rcases h.2 with ⟨rfl, hn⟩ | ⟨g, cap, cur, rfl, hb, hg, h1, h2, h3, h4⟩
  · omega
  · refine ⟨g, cap, rfl, hb, (Array.getElem?_eq_some_iff.1 hg).1, h1, h2, fun _ => ⟨fun _ => .slice none 0 0, ⟨cur, hg, by omega, fun j hj => ?_⟩, fun j hj => World.ownsRow_nil _ _ _ _, fun i j b _ _ e _ => by simp [Value.ownBlock] at e⟩⟩
    have h5 : (cur.toList.take (N * 1))[j]? = some (.slice none 0 0) := by
      rw [h4, List.getElem?_replicate, if_pos hj]
    rw [List.getElem?_take, if_pos (by omega), Array.getElem?_toList] at h5
    exact h5

theorem GrV.grown {row : Option Nat} (h : GrV enc k tG tS W n0 G N L vs) (hg : W.grownBy w1 row) (hr : ∀ r, row = some r → ∃ o : Obj, W.heap[r]? = some o ∧ o.isCells = false) : GrV enc k tG tS w1 n0 G N L vs := by
  obtain ⟨⟨cs, a1, a2, a3⟩, h2, h3⟩ := h
  refine ⟨⟨cs, (hg.block G (Array.getElem?_eq_some_iff.1 a1).1 fun e => ?_).trans a1, a2, a3⟩, fun j hj => (h2 j hj).kept hg ?_, h3⟩
  · obtain ⟨o, ho, hc⟩ := hr G e.symm
    rw [a1] at ho; cases ho; cases hc
  · cases hv : (vs j).ownBlock with
    | none => exact .inl rfl
    | some g =>
      refine .inr fun e => ?_
      obtain ⟨cur, hc, _⟩ := gr_cells (h2 j hj) hv
      obtain ⟨o, ho, hc'⟩ := hr g e.symm
      rw [hc] at ho; cases ho; cases hc'
theorem gr_gro {w w' : World} (h : New w w') : w.grownBy w' none := ⟨h.os, h.tape, h.output, h.size, fun k hk _ => h.block k hk⟩
theorem GrV.new (h : GrV enc k tG tS W n0 G N L vs) (n : New W w1) : GrV enc k tG tS w1 n0 G N L vs := h.grown (gr_gro n) (fun r e => by cases e)
theorem Gr.new (h : Gr enc k tG tS W n0 G N L) (n : New W w1) : Gr enc k tG tS w1 n0 G N L := fun h0 => by obtain ⟨vs, h⟩ := h h0; exact ⟨vs, h.new n⟩
theorem gr_own {β : Type} (enc : α → List Value) (k : Nat) (tG tS : TypeId) (n0 G N D : Nat) (f : β → Nat → List α) : OwnFrom D (fun (s : β) W => Gr enc k tG tS W n0 G N (f s)) := fun s X Y row h hg hr h0 => by obtain ⟨vs, h⟩ := h h0; exact ⟨vs, h.grown hg fun r e => (hr r e).2⟩
theorem Gr.congr {L' : Nat → List α} (h : Gr enc k tG tS W n0 G N L) (e : ∀ j, j < N → L' j = L j) : Gr enc k tG tS W n0 G N L' := fun h0 => by
  obtain ⟨vs, h1, h2, h3⟩ := h h0
  exact ⟨vs, h1, fun j hj => by rw [e j hj]; exact h2 j hj, h3⟩
theorem GrV.cell (h : GrV enc k tG tS W n0 G N L vs) {i : Nat} (hi : i < N) : W.cell? ⟨G, i, none⟩ = some (vs i) ∧ W.frozen? ⟨G, i, none⟩ = false := by
  obtain ⟨cs, a1, a2, a3⟩ := h.arr
  exact ⟨cell_of_heap a1 (a3 i hi), by simp [World.frozen?, a1]⟩

/-- An element is put to row i: first the row grows, then it is stored. -/
theorem GrV.put (h : GrV enc k tG tS W n0 G N L vs) (ht : tG ≠ tS) {i : Nat} (hi : i < N) {v' : Value} {s : α} (hown : w1.ownsRow n0 tS k v' ((L i).length + 1) ((L i).flatMap enc ++ enc s)) (hgrow : W.grownBy w1 (vs i).ownBlock)
    (hat : v'.ownBlock = (vs i).ownBlock ∨ ∀ b, v'.ownBlock = some b → W.heap.size ≤ b) :
    w1.cell? ⟨G, i, none⟩ = some (vs i) ∧ w1.frozen? ⟨G, i, none⟩ = false ∧ Gr enc k tG tS (w1.setCell ⟨G, i, none⟩ v') n0 G N (fun j => if j = i then L i ++ [s] else L j) ∧ KeepsOthers W (w1.setCell ⟨G, i, none⟩ v') ∧
      (∀ (b : Nat) (cs : Array Value) (t : TypeId) (fr : Nat × Nat), W.heap[b]? = some (Obj.cells cs t fr) → t ≠ tS → b ≠ G → (w1.setCell ⟨G, i, none⟩ v').heap[b]? = some (Obj.cells cs t fr)) ∧ (∀ w0, New w0 W → w0.heap.size ≤ n0 → w0.heap.size ≤ G → New w0 (w1.setCell ⟨G, i, none⟩ v')) ∧
      (∀ b, b < n0 → b < W.heap.size → b ≠ G → (w1.setCell ⟨G, i, none⟩ v').heap[b]? = W.heap[b]?) := by
  obtain ⟨⟨cs, a1, a2, a3⟩, h2, h3⟩ := h
  have off : ∀ (b : Nat) (cs : Array Value) (t : TypeId) (fr : Nat × Nat), W.heap[b]? = some (Obj.cells cs t fr) → t ≠ tS → w1.heap[b]? = some (Obj.cells cs t fr) := fun b cs t fr hb hts => by
    refine (hgrow.block b (Array.getElem?_eq_some_iff.1 hb).1 fun e => ?_).trans hb
    obtain ⟨cur, hc, _⟩ := gr_cells (h2 i hi) e.symm
    rw [hb] at hc
    injection hc with hc
    injection hc with _ hc
    exact hts hc
  have hG := off G cs tG (0, 0) a1 ht
  have hGs := heap_setCell_same w1 G i cs tG v' hG
  have oth : ∀ b, b ≠ G → (w1.setCell ⟨G, i, none⟩ v').heap[b]? = w1.heap[b]? := fun b hb => Below.heap_setCell _ _ _ _ hb
  have gs : w1.grownBy (w1.setCell ⟨G, i, none⟩ v') (some G) := ⟨rfl, rfl, rfl, by simp [World.setCell], fun k _ hk => oth k (fun e => hk (by rw [e]))⟩
  have hne : v'.ownBlock ≠ some G := fun e => by
    obtain ⟨cur, hc, _⟩ := gr_cells hown e
    rw [hG] at hc
    injection hc with hc
    injection hc with _ hc
    exact ht hc
  refine ⟨cell_of_heap hG (a3 i hi), by simp [World.frozen?, hG], fun _ => ⟨fun k => if k = i then v' else vs k, ⟨_, hGs, by simpa using a2, fun k hk => ?_⟩, fun k hk => ?_, fun j k b hj hk hjb hkb => ?_⟩, ?_, fun b cs t fr hb hts hbG => (oth b hbG).trans (off b cs t fr hb hts), fun w0 hB hn hG0 => ?_, fun b hb hbW hbG => (oth b hbG).trans (hgrow.block b hbW fun e => ?_)⟩
  · by_cases e : k = i
    · subst e
      rw [if_pos rfl, Array.getElem?_setIfInBounds_self_of_lt (by omega)]
    · rw [if_neg e, Array.getElem?_setIfInBounds_ne (fun h => e h.symm), a3 k hk]
  · by_cases e : k = i
    · subst e
      rw [if_pos rfl, if_pos rfl]
      rw [List.length_append, List.flatMap_append]
      simpa using hown.kept gs (.inr hne)
    · rw [if_neg e, if_neg e]
      refine ((h2 k hk).kept hgrow ?_).kept gs ?_
      · cases hv : (vs k).ownBlock with
        | none => exact .inl rfl
        | some g => exact .inr fun e' => e (h3 k i g hk hi hv e'.symm)
      · refine .inr fun e' => ?_
        obtain ⟨cur, hc, _⟩ := gr_cells (h2 k hk) e'
        rw [a1] at hc
        injection hc with hc
        injection hc with _ hc
        exact ht hc
  · have fresh : ∀ j, j < N → j ≠ i → (vs j).ownBlock = some b → v'.ownBlock = some b → False := fun j hj hji e1 e2 => by
      rcases hat with e | e
      · exact hji (h3 j i b hj hi e1 (e ▸ e2))
      · have := ((h2 j hj).lt b e1).2
        have := e b e2
        omega
    by_cases ej : j = i
    · by_cases ek : k = i
      · rw [ej, ek]
      · rw [if_pos ej] at hjb
        rw [if_neg ek] at hkb
        exact (fresh k hk ek hkb hjb).elim
    · by_cases ek : k = i
      · rw [if_neg ej] at hjb
        rw [if_pos ek] at hkb
        exact (fresh j hj ej hjb hkb).elim
      · rw [if_neg ej] at hjb
        rw [if_neg ek] at hkb
        exact h3 j k b hj hk hjb hkb
  · refine (KeepsOthers.of_grownBy hgrow fun j o ej hj => ?_).trans (KeepsOthers.setCell _ _ _)
    obtain ⟨cur, hc, _⟩ := gr_cells (h2 i hi) ej
    rw [hc] at hj; cases hj; rfl
  · refine New.setCell (p := ⟨G, i, none⟩) ⟨hgrow.os.trans hB.os, hgrow.tape.trans hB.tape, hgrow.output.trans hB.output, Nat.le_trans hB.size hgrow.size, fun k hk => (hgrow.block k (Nat.lt_of_lt_of_le hk hB.size) fun e => ?_).trans (hB.block k hk)⟩ hG0 _
    obtain ⟨cur, _, hb⟩ := gr_cells (h2 i hi) e.symm
    omega
  · obtain ⟨cur, _, hb2⟩ := gr_cells (h2 i hi) e.symm
    omega

/-- Rows of rows that lie at or beyond this block, in blocks of these types. -/
def RowsN (enc : α → List Value) (k : Nat) (tG tS : TypeId) (base : Nat) (w : World) (v : Value) (L : List (List α)) : Prop :=
  ∃ us : List Value, us.length = L.length ∧ (Sl oneV 1 w v us ∧ ∀ b, v.ownBlock = some b → base ≤ b ∧ ∃ cs, w.heap[b]? = some (.cells cs tG (0, 0))) ∧ ∀ j (h : j < L.length), ∃ u, us[j]? = some u ∧ Sl enc k w u L[j] ∧ ∀ b, u.ownBlock = some b → base ≤ b ∧ ∃ cs, w.heap[b]? = some (.cells cs tS (0, 0))
theorem RowsN.rows {base : Nat} {w : World} {v : Value} {L : List (List α)} (h : RowsN enc k tG tS base w v L) : RowsK enc k w v L := by
  obtain ⟨us, h1, h2, h3⟩ := h
  exact ⟨us, h1, h2.1, fun j hj => by obtain ⟨u, e, hs, _⟩ := h3 j hj; exact ⟨u, e, hs⟩⟩
theorem RowsN.mono {base b0 : Nat} {w : World} {v : Value} {L : List (List α)} (h : RowsN enc k tG tS base w v L) (hb : b0 ≤ base) : RowsN enc k tG tS b0 w v L := by
  obtain ⟨us, h1, h2, h3⟩ := h
  exact ⟨us, h1, ⟨h2.1, fun b e => ⟨Nat.le_trans hb (h2.2 b e).1, (h2.2 b e).2⟩⟩, fun j hj => by obtain ⟨u, e, hs, hu⟩ := h3 j hj; exact ⟨u, e, hs, fun b e => ⟨Nat.le_trans hb (hu b e).1, (hu b e).2⟩⟩⟩
theorem sl_kept {β : Type} {en : β → List Value} {m base : Nat} {w W : World} {u : Value} {l : List β} {t : TypeId} (h : Sl en m w u l) (hb : ∀ b, u.ownBlock = some b → base ≤ b ∧ ∃ cs, w.heap[b]? = some (.cells cs t (0, 0))) (hk : ∀ b cs, base ≤ b → w.heap[b]? = some (.cells cs t (0, 0)) → W.heap[b]? = w.heap[b]?) :
    Sl en m W u l ∧ ∀ b, u.ownBlock = some b → base ≤ b ∧ ∃ cs, W.heap[b]? = some (.cells cs t (0, 0)) := by
  obtain ⟨a, c, rfl, h1, h2, h3, h4⟩ := h
  refine ⟨⟨a, c, rfl, h1, h2, h3, fun h0 => ?_⟩, fun b e => ?_⟩
  · obtain ⟨B, off, rfl, hA⟩ := h4 h0
    obtain ⟨q1, cs, q2⟩ := hb B rfl
    exact ⟨B, off, rfl, fun j hj i hi => (World.cell?_of_block (a := ⟨B, off + j * m + i, none⟩) (hk B cs q1 q2)).trans (hA j hj i hi)⟩
  · obtain ⟨q1, cs, q2⟩ := hb b e
    exact ⟨q1, cs, (hk b cs q1 q2).trans q2⟩
theorem RowsN.kept {base : Nat} {w W : World} {v : Value} {L : List (List α)} (h : RowsN enc k tG tS base w v L) (hk : ∀ b cs t, base ≤ b → (t = tG ∨ t = tS) → w.heap[b]? = some (.cells cs t (0, 0)) → W.heap[b]? = w.heap[b]?) : RowsN enc k tG tS base W v L := by
  obtain ⟨us, h1, h2, h3⟩ := h
  exact ⟨us, h1, sl_kept h2.1 h2.2 (fun b cs hb hc => hk b cs _ hb (.inl rfl) hc), fun j hj => by obtain ⟨u, e, hs, hu⟩ := h3 j hj; exact ⟨u, e, sl_kept hs hu (fun b cs hb hc => hk b cs _ hb (.inr rfl) hc)⟩⟩
theorem RowsN.new {base : Nat} {w W : World} {v : Value} {L : List (List α)} (h : RowsN enc k tG tS base w v L) (n : New w W) : RowsN enc k tG tS base W v L := h.kept fun b cs t _ _ hc => n.block b (Array.getElem?_eq_some_iff.1 hc).1
/-- The rows, as rows that are read. -/
theorem Gr.rowsK (henc : ∀ a, (enc a).length = k) {cap base : Nat} {v : Value} (h : Gr enc k tG tS W n0 G N L) (h0 : 0 < N) (hv : v = .slice (some ⟨G, 0, none⟩) N cap ∧ N ≤ cap ∧ cap ≤ maxLen) (hb1 : base ≤ G) (hb2 : base ≤ n0) : RowsN enc k tG tS base W v ((List.range N).map L) := by
  obtain ⟨vs, ⟨cs, a1, a2, a3⟩, h2, h3⟩ := h h0
  obtain ⟨rfl, hc, hm⟩ := hv
  refine ⟨(List.range N).map vs, by simp, ⟨⟨some ⟨G, 0, none⟩, cap, by simp, by simpa using hc, hm, fun e => (by cases e), fun _ => ⟨G, 0, rfl, fun j hj i hi => ?_⟩⟩, fun b hb => ?_⟩, fun j hj => ?_⟩
  · have hi0 : i = 0 := by simp [oneV] at hi; exact hi
    subst hi0
    have hj' : j < N := by simpa using hj
    have : W.cell? ⟨G, j, none⟩ = some (vs j) := cell_of_heap a1 (a3 j hj')
    simpa [oneV] using this
  · obtain rfl : G = b := by simpa [Value.ownBlock] using hb
    exact ⟨hb1, cs, a1⟩
  · have hj' : j < N := by simpa using hj
    refine ⟨vs j, by simp [hj'], ?_, fun b hb => ?_⟩
    · simp only [List.getElem_map, List.getElem_range]
      exact own_sl henc (h2 j hj')
    · obtain ⟨cur, hc2, hb3⟩ := gr_cells (h2 j hj') hb
      exact ⟨Nat.le_trans hb2 hb3, cur, hc2⟩
/-- A store into a block that is none of these. -/
theorem GrV.other (h : GrV enc k tG tS W n0 G N L vs) {Q : Nat} (hg : W.grownBy w1 (some Q)) (hG : Q ≠ G) (hv : ∀ j, j < N → (vs j).ownBlock ≠ some Q) : GrV enc k tG tS w1 n0 G N L vs := by
  obtain ⟨⟨cs, a1, a2, a3⟩, h2, h3⟩ := h
  exact ⟨⟨cs, (hg.block G (Array.getElem?_eq_some_iff.1 a1).1 (fun e => hG (by injection e with e; exact e.symm))).trans a1, a2, a3⟩, fun j hj => (h2 j hj).kept hg (.inr (fun e => hv j hj e)), h3⟩
end

end Go.Proofs.YtljcebahjfifhaaDoor
