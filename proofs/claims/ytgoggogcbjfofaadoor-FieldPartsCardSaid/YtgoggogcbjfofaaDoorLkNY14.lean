import Derived.Test.YtgoggogcbjfofaaDoorOgGY14
import Derived.Test.YtgoggogcbjfofaaDoorSteady
import Derived.Test.YtgoggogcbjfofaaDoorSoWY14
import Derived.RangeFuncNested
import Derived.RangeFuncWrites
import Derived.RangeFuncBound
import Derived.RangeFuncCalls
import Derived.RangeFuncLeaves
import Derived.RangeFuncBox
import Derived.Maps.OwnIn
import Derived.Deep.OwnRows
import Derived.Test.YtgoggogcbjfofaaDoorLkKY14
import Derived.Test.YtgoggogcbjfofaaDoorOgWY14
import Derived.Test.YtgoggogcbjfofaaDoorLoose
import Derived.Test.YtgoggogcbjfofaaDoorSlAppY14
import Derived.Maps.AppendAt

/- A row of rows that the call made: each row has memory of its own; an element is put to one of them. No function of the program in sight. -/
namespace Go.Proofs.YtgoggogcbjfofaaDoor
open Go.RowKit
set_option linter.unusedVariables false

/-- All blocks below b0 but P lie as they lay. -/
def Bar (b0 P : Nat) (W U : World) : Prop := b0 ≤ U.heap.size ∧ ∀ b, b < b0 → b ≠ P → U.heap[b]? = W.heap[b]?
theorem Bar.refl {b0 P : Nat} {W : World} (h : b0 ≤ W.heap.size) : Bar b0 P W W := ⟨h, fun _ _ _ => rfl⟩
theorem Bar.new {b0 P : Nat} {W U V : World} (h : Bar b0 P W U) (n : New U V) : Bar b0 P W V := ⟨Nat.le_trans h.1 n.size, fun b hb hp => (n.block b (Nat.lt_of_lt_of_le hb h.1)).trans (h.2 b hb hp)⟩
theorem Bar.grown {b0 P : Nat} {W U V : World} {row : Option Nat} (h : Bar b0 P W U) (hg : U.grownBy V row) (hr : ∀ r, row = some r → b0 ≤ r) : Bar b0 P W V := ⟨Nat.le_trans h.1 hg.size, fun b hb hp => (hg.block b (Nat.lt_of_lt_of_le hb h.1) (fun e => by have := hr b e.symm; omega)).trans (h.2 b hb hp)⟩
theorem Bar.set {b0 P : Nat} {W U : World} (h : Bar b0 P W U) (o : Nat) (v : Value) : Bar b0 P W (U.setCell ⟨P, o, none⟩ v) := ⟨by have := h.1; simpa using this, fun b hb hp => (Below.heap_setCell _ _ _ _ (by exact hp)).trans (h.2 b hb hp)⟩
theorem Bar.above {b0 P Q : Nat} {W U : World} (h : Bar b0 P W U) (hQ : b0 ≤ Q) (o : Nat) (v : Value) : Bar b0 P W (U.setCell ⟨Q, o, none⟩ v) := ⟨by have := h.1; simpa using this, fun b hb hp => (Below.heap_setCell _ _ _ _ (show b ≠ Q by omega)).trans (h.2 b hb hp)⟩
theorem Bar.own {β : Type} {b0 P D : Nat} {W : World} (hD : b0 ≤ D) : OwnFrom D (fun (_ : β) U => Bar b0 P W U) := fun _ X Y row h hg hr => h.grown hg (fun r e => Nat.le_trans hD (hr r e).1)
theorem Bar.blk {b0 P b : Nat} {W U : World} {o : Obj} (h : Bar b0 P W U) (hb : b < b0) (hp : b ≠ P) (hW : W.heap[b]? = some o) : U.heap[b]? = some o := (h.2 b hb hp).trans hW

section
variable {α : Type} {enc : α → List Value} {k : Nat}
/-- N rows; where there is one, their slices stand in block G. -/
structure GrV (enc : α → List Value) (k : Nat) (tG tS : TypeId) (W : World) (n0 G N : Nat) (L : Nat → List α) (vs : Nat → Value) : Prop where
  arr : ∃ cs : Array Value, W.heap[G]? = some (.cells cs tG (0, 0)) ∧ N ≤ cs.size ∧ ∀ j, j < N → cs[j]? = some (vs j)
  rows : ∀ j, j < N → W.ownsRow n0 tS k (vs j) (L j).length ((L j).flatMap enc)
  apart : ∀ i j b, i < N → j < N → (vs i).ownBlock = some b → (vs j).ownBlock = some b → i = j
def Gr (enc : α → List Value) (k : Nat) (tG tS : TypeId) (W : World) (n0 G N : Nat) (L : Nat → List α) : Prop := 0 < N → ∃ vs, GrV enc k tG tS W n0 G N L vs

variable {tG tS : TypeId} {W w1 : World} {n0 G N : Nat} {L : Nat → List α} {vs : Nat → Value}

theorem gr_cells {base size m : Nat} {v : Value} {xs : List Value} (h : W.ownsRow base tS size v m xs) {g : Nat} (hg : v.ownBlock = some g) : ∃ cur, W.heap[g]? = some (.cells cur tS (0, 0)) ∧ base ≤ g := by
  rcases h.2 with ⟨rfl, _⟩ | ⟨g', cap, cur, rfl, hb, hgb, _⟩
  · simp [Value.ownBlock] at hg
  · obtain rfl : g' = g := by simpa [Value.ownBlock] using hg
    exact ⟨cur, hgb, hb⟩

/-- Rows of nothing, just made. -/
theorem gr_nil {base n0 : Nat} {v : Value} (h : W.ownsRow base tG 1 v N (List.replicate N (.slice none 0 0))) (h0 : 0 < N) : ∃ G cap, v = .slice (some ⟨G, 0, none⟩) N cap ∧ base ≤ G ∧ G < W.heap.size ∧ N ≤ cap ∧ cap ≤ maxLen ∧ Gr enc k tG tS W n0 G N (fun _ => []) := by
  rcases h.2 with ⟨rfl, hn⟩ | ⟨g, cap, cur, rfl, hb, hg, h1, h2, h3, h4⟩
  · omega
  · refine ⟨g, cap, rfl, hb, (Array.getElem?_eq_some_iff.1 hg).1, h1, h2, fun _ => ⟨fun _ => .slice none 0 0, ⟨cur, hg, by omega, fun j hj => ?_⟩, fun j hj => World.ownsRow_nil _ _ _ _, fun i j b _ _ e _ => by simp [Value.ownBlock] at e⟩⟩
    have h5 : (cur.toList.take (N * 1))[j]? = some (.slice none 0 0) := by
      rw [h4, List.getElem?_replicate, if_pos hj]
    rw [List.getElem?_take, if_pos (by omega), Array.getElem?_toList] at h5
    exact h5

theorem GrV.grown {row : Option Nat} (h : GrV enc k tG tS W n0 G N L vs) (hg : W.grownBy w1 row) (hr : ∀ r, row = some r → ∃ o : Obj, W.heap[r]? = some o ∧ o.isCells = false) : GrV enc k tG tS w1 n0 G N L vs := by
  obtain ⟨⟨cs, a1, a2, a3⟩, h2, h3⟩ := h
  refine ⟨⟨cs, (hg.block G (Array.getElem?_eq_some_iff.1 a1).1 fun e => ?_).trans a1, a2, a3⟩, fun j hj => (h2 j hj).kept hg ?_, h3⟩
  · obtain ⟨o, ho, hc⟩ := hr G e.symm
    rw [a1] at ho; cases ho; cases hc
  · cases hv : (vs j).ownBlock with
    | none => exact .inl rfl
    | some g =>
      refine .inr fun e => ?_
      obtain ⟨cur, hc, _⟩ := gr_cells (h2 j hj) hv
      obtain ⟨o, ho, hc'⟩ := hr g e.symm
      rw [hc] at ho; cases ho; cases hc'
theorem gr_gro {w w' : World} (h : New w w') : w.grownBy w' none := ⟨h.os, h.tape, h.output, h.size, fun k hk _ => h.block k hk⟩
theorem GrV.new (h : GrV enc k tG tS W n0 G N L vs) (n : New W w1) : GrV enc k tG tS w1 n0 G N L vs := h.grown (gr_gro n) (fun r e => by cases e)
theorem Gr.new (h : Gr enc k tG tS W n0 G N L) (n : New W w1) : Gr enc k tG tS w1 n0 G N L := fun h0 => by obtain ⟨vs, h⟩ := h h0; exact ⟨vs, h.new n⟩
theorem gr_own {β : Type} (enc : α → List Value) (k : Nat) (tG tS : TypeId) (n0 G N D : Nat) (f : β → Nat → List α) : OwnFrom D (fun (s : β) W => Gr enc k tG tS W n0 G N (f s)) := fun s X Y row h hg hr h0 => by obtain ⟨vs, h⟩ := h h0; exact ⟨vs, h.grown hg fun r e => (hr r e).2⟩
theorem Gr.congr {L' : Nat → List α} (h : Gr enc k tG tS W n0 G N L) (e : ∀ j, j < N → L' j = L j) : Gr enc k tG tS W n0 G N L' := fun h0 => by
  obtain ⟨vs, h1, h2, h3⟩ := h h0
  exact ⟨vs, h1, fun j hj => by rw [e j hj]; exact h2 j hj, h3⟩
theorem GrV.cell (h : GrV enc k tG tS W n0 G N L vs) {i : Nat} (hi : i < N) : W.cell? ⟨G, i, none⟩ = some (vs i) ∧ W.frozen? ⟨G, i, none⟩ = false := by
  obtain ⟨cs, a1, a2, a3⟩ := h.arr
  exact ⟨cell_of_heap a1 (a3 i hi), by simp [World.frozen?, a1]⟩

/-- An element is put to row i: first the row grows, then it is stored. -/
theorem GrV.put (h : GrV enc k tG tS W n0 G N L vs) (ht : tG ≠ tS) {i : Nat} (hi : i < N) {v' : Value} {s : α} (hown : w1.ownsRow n0 tS k v' ((L i).length + 1) ((L i).flatMap enc ++ enc s)) (hgrow : W.grownBy w1 (vs i).ownBlock)
    (hat : v'.ownBlock = (vs i).ownBlock ∨ ∀ b, v'.ownBlock = some b → W.heap.size ≤ b) :
    w1.cell? ⟨G, i, none⟩ = some (vs i) ∧ w1.frozen? ⟨G, i, none⟩ = false ∧ Gr enc k tG tS (w1.setCell ⟨G, i, none⟩ v') n0 G N (fun j => if j = i then L i ++ [s] else L j) ∧ KeepsOthers W (w1.setCell ⟨G, i, none⟩ v') ∧
      (∀ (b : Nat) (cs : Array Value) (t : TypeId) (fr : Nat × Nat), W.heap[b]? = some (Obj.cells cs t fr) → t ≠ tS → b ≠ G → (w1.setCell ⟨G, i, none⟩ v').heap[b]? = some (Obj.cells cs t fr)) ∧ (∀ w0, New w0 W → w0.heap.size ≤ n0 → w0.heap.size ≤ G → New w0 (w1.setCell ⟨G, i, none⟩ v')) ∧
      (∀ b, b < n0 → b < W.heap.size → b ≠ G → (w1.setCell ⟨G, i, none⟩ v').heap[b]? = W.heap[b]?) := by
  obtain ⟨⟨cs, a1, a2, a3⟩, h2, h3⟩ := h
  have off : ∀ (b : Nat) (cs : Array Value) (t : TypeId) (fr : Nat × Nat), W.heap[b]? = some (Obj.cells cs t fr) → t ≠ tS → w1.heap[b]? = some (Obj.cells cs t fr) := fun b cs t fr hb hts => by
    refine (hgrow.block b (Array.getElem?_eq_some_iff.1 hb).1 fun e => ?_).trans hb
    obtain ⟨cur, hc, _⟩ := gr_cells (h2 i hi) e.symm
    rw [hb] at hc
    injection hc with hc
    injection hc with _ hc
    exact hts hc
  have hG := off G cs tG (0, 0) a1 ht
  have hGs := heap_setCell_same w1 G i cs tG v' hG
  have oth : ∀ b, b ≠ G → (w1.setCell ⟨G, i, none⟩ v').heap[b]? = w1.heap[b]? := fun b hb => Below.heap_setCell _ _ _ _ hb
  have gs : w1.grownBy (w1.setCell ⟨G, i, none⟩ v') (some G) := ⟨rfl, rfl, rfl, by simp [World.setCell], fun k _ hk => oth k (fun e => hk (by rw [e]))⟩
  have hne : v'.ownBlock ≠ some G := fun e => by
    obtain ⟨cur, hc, _⟩ := gr_cells hown e
    rw [hG] at hc
    injection hc with hc
    injection hc with _ hc
    exact ht hc
  refine ⟨cell_of_heap hG (a3 i hi), by simp [World.frozen?, hG], fun _ => ⟨fun k => if k = i then v' else vs k, ⟨_, hGs, by simpa using a2, fun k hk => ?_⟩, fun k hk => ?_, fun j k b hj hk hjb hkb => ?_⟩, ?_, fun b cs t fr hb hts hbG => (oth b hbG).trans (off b cs t fr hb hts), fun w0 hB hn hG0 => ?_, fun b hb hbW hbG => (oth b hbG).trans (hgrow.block b hbW fun e => ?_)⟩
  · by_cases e : k = i
    · subst e
      rw [if_pos rfl, Array.getElem?_setIfInBounds_self_of_lt (by omega)]
    · rw [if_neg e, Array.getElem?_setIfInBounds_ne (fun h => e h.symm), a3 k hk]
  · by_cases e : k = i
    · subst e
      rw [if_pos rfl, if_pos rfl]
      rw [List.length_append, List.flatMap_append]
      simpa using hown.kept gs (.inr hne)
    · rw [if_neg e, if_neg e]
      refine ((h2 k hk).kept hgrow ?_).kept gs ?_
      · cases hv : (vs k).ownBlock with
        | none => exact .inl rfl
        | some g => exact .inr fun e' => e (h3 k i g hk hi hv e'.symm)
      · refine .inr fun e' => ?_
        obtain ⟨cur, hc, _⟩ := gr_cells (h2 k hk) e'
        rw [a1] at hc
        injection hc with hc
        injection hc with _ hc
        exact ht hc
  · have fresh : ∀ j, j < N → j ≠ i → (vs j).ownBlock = some b → v'.ownBlock = some b → False := fun j hj hji e1 e2 => by
      rcases hat with e | e
      · exact hji (h3 j i b hj hi e1 (e ▸ e2))
      · have := ((h2 j hj).lt b e1).2
        have := e b e2
        omega
    by_cases ej : j = i
    · by_cases ek : k = i
      · rw [ej, ek]
      · rw [if_pos ej] at hjb
        rw [if_neg ek] at hkb
        exact (fresh k hk ek hkb hjb).elim
    · by_cases ek : k = i
      · rw [if_neg ej] at hjb
        rw [if_pos ek] at hkb
        exact (fresh j hj ej hjb hkb).elim
      · rw [if_neg ej] at hjb
        rw [if_neg ek] at hkb
        exact h3 j k b hj hk hjb hkb
  · refine (KeepsOthers.of_grownBy hgrow fun j o ej hj => ?_).trans (KeepsOthers.setCell _ _ _)
    obtain ⟨cur, hc, _⟩ := gr_cells (h2 i hi) ej
    rw [hc] at hj; cases hj; rfl
  · refine New.setCell (p := ⟨G, i, none⟩) ⟨hgrow.os.trans hB.os, hgrow.tape.trans hB.tape, hgrow.output.trans hB.output, Nat.le_trans hB.size hgrow.size, fun k hk => (hgrow.block k (Nat.lt_of_lt_of_le hk hB.size) fun e => ?_).trans (hB.block k hk)⟩ hG0 _
    obtain ⟨cur, _, hb⟩ := gr_cells (h2 i hi) e.symm
    omega
  · obtain ⟨cur, _, hb2⟩ := gr_cells (h2 i hi) e.symm
    omega

/-- Rows of rows that lie at or beyond this block, in blocks of these types. -/
def RowsN (enc : α → List Value) (k : Nat) (tG tS : TypeId) (base : Nat) (w : World) (v : Value) (L : List (List α)) : Prop :=
  ∃ us : List Value, us.length = L.length ∧ (Sl oneV 1 w v us ∧ ∀ b, v.ownBlock = some b → base ≤ b ∧ ∃ cs, w.heap[b]? = some (.cells cs tG (0, 0))) ∧ ∀ j (h : j < L.length), ∃ u, us[j]? = some u ∧ Sl enc k w u L[j] ∧ ∀ b, u.ownBlock = some b → base ≤ b ∧ ∃ cs, w.heap[b]? = some (.cells cs tS (0, 0))
theorem RowsN.rows {base : Nat} {w : World} {v : Value} {L : List (List α)} (h : RowsN enc k tG tS base w v L) : RowsK enc k w v L := by
  obtain ⟨us, h1, h2, h3⟩ := h
  exact ⟨us, h1, h2.1, fun j hj => by obtain ⟨u, e, hs, _⟩ := h3 j hj; exact ⟨u, e, hs⟩⟩
theorem RowsN.mono {base b0 : Nat} {w : World} {v : Value} {L : List (List α)} (h : RowsN enc k tG tS base w v L) (hb : b0 ≤ base) : RowsN enc k tG tS b0 w v L := by
  obtain ⟨us, h1, h2, h3⟩ := h
  exact ⟨us, h1, ⟨h2.1, fun b e => ⟨Nat.le_trans hb (h2.2 b e).1, (h2.2 b e).2⟩⟩, fun j hj => by obtain ⟨u, e, hs, hu⟩ := h3 j hj; exact ⟨u, e, hs, fun b e => ⟨Nat.le_trans hb (hu b e).1, (hu b e).2⟩⟩⟩
theorem sl_kept {β : Type} {en : β → List Value} {m base : Nat} {w W : World} {u : Value} {l : List β} {t : TypeId} (h : Sl en m w u l) (hb : ∀ b, u.ownBlock = some b → base ≤ b ∧ ∃ cs, w.heap[b]? = some (.cells cs t (0, 0))) (hk : ∀ b cs, base ≤ b → w.heap[b]? = some (.cells cs t (0, 0)) → W.heap[b]? = w.heap[b]?) :
    Sl en m W u l ∧ ∀ b, u.ownBlock = some b → base ≤ b ∧ ∃ cs, W.heap[b]? = some (.cells cs t (0, 0)) := by
  obtain ⟨a, c, rfl, h1, h2, h3, h4⟩ := h
  refine ⟨⟨a, c, rfl, h1, h2, h3, fun h0 => ?_⟩, fun b e => ?_⟩
  · obtain ⟨B, off, rfl, hA⟩ := h4 h0
    obtain ⟨q1, cs, q2⟩ := hb B rfl
    exact ⟨B, off, rfl, fun j hj i hi => (World.cell?_of_block (a := ⟨B, off + j * m + i, none⟩) (hk B cs q1 q2)).trans (hA j hj i hi)⟩
  · obtain ⟨q1, cs, q2⟩ := hb b e
    exact ⟨q1, cs, (hk b cs q1 q2).trans q2⟩
theorem RowsN.kept {base : Nat} {w W : World} {v : Value} {L : List (List α)} (h : RowsN enc k tG tS base w v L) (hk : ∀ b cs t, base ≤ b → (t = tG ∨ t = tS) → w.heap[b]? = some (.cells cs t (0, 0)) → W.heap[b]? = w.heap[b]?) : RowsN enc k tG tS base W v L := by
  obtain ⟨us, h1, h2, h3⟩ := h
  exact ⟨us, h1, sl_kept h2.1 h2.2 (fun b cs hb hc => hk b cs _ hb (.inl rfl) hc), fun j hj => by obtain ⟨u, e, hs, hu⟩ := h3 j hj; exact ⟨u, e, sl_kept hs hu (fun b cs hb hc => hk b cs _ hb (.inr rfl) hc)⟩⟩
theorem RowsN.new {base : Nat} {w W : World} {v : Value} {L : List (List α)} (h : RowsN enc k tG tS base w v L) (n : New w W) : RowsN enc k tG tS base W v L := h.kept fun b cs t _ _ hc => n.block b (Array.getElem?_eq_some_iff.1 hc).1
/-- The rows, as rows that are read. -/
theorem Gr.rowsK (henc : ∀ a, (enc a).length = k) {cap base : Nat} {v : Value} (h : Gr enc k tG tS W n0 G N L) (h0 : 0 < N) (hv : v = .slice (some ⟨G, 0, none⟩) N cap ∧ N ≤ cap ∧ cap ≤ maxLen) (hb1 : base ≤ G) (hb2 : base ≤ n0) : RowsN enc k tG tS base W v ((List.range N).map L) := by
  obtain ⟨vs, ⟨cs, a1, a2, a3⟩, h2, h3⟩ := h h0
  obtain ⟨rfl, hc, hm⟩ := hv
  refine ⟨(List.range N).map vs, by simp, ⟨⟨some ⟨G, 0, none⟩, cap, by simp, by simpa using hc, hm, fun e => (by cases e), fun _ => ⟨G, 0, rfl, fun j hj i hi => ?_⟩⟩, fun b hb => ?_⟩, fun j hj => ?_⟩
  · have hi0 : i = 0 := by simp [oneV] at hi; exact hi
    subst hi0
    have hj' : j < N := by simpa using hj
    have : W.cell? ⟨G, j, none⟩ = some (vs j) := cell_of_heap a1 (a3 j hj')
    simpa [oneV] using this
  · obtain rfl : G = b := by simpa [Value.ownBlock] using hb
    exact ⟨hb1, cs, a1⟩
  · have hj' : j < N := by simpa using hj
    refine ⟨vs j, by simp [hj'], ?_, fun b hb => ?_⟩
    · simp only [List.getElem_map, List.getElem_range]
      exact own_sl henc (h2 j hj')
    · obtain ⟨cur, hc2, hb3⟩ := gr_cells (h2 j hj') hb
      exact ⟨Nat.le_trans hb2 hb3, cur, hc2⟩
/-- A store into a block that is none of these. -/
theorem GrV.other (h : GrV enc k tG tS W n0 G N L vs) {Q : Nat} (hg : W.grownBy w1 (some Q)) (hG : Q ≠ G) (hv : ∀ j, j < N → (vs j).ownBlock ≠ some Q) : GrV enc k tG tS w1 n0 G N L vs := by
  obtain ⟨⟨cs, a1, a2, a3⟩, h2, h3⟩ := h
  exact ⟨⟨cs, (hg.block G (Array.getElem?_eq_some_iff.1 a1).1 (fun e => hG (by injection e with e; exact e.symm))).trans a1, a2, a3⟩, fun j hj => (h2 j hj).kept hg (.inr (fun e => hv j hj e)), h3⟩
end

end Go.Proofs.YtgoggogcbjfofaaDoor

/- Package links: a floor's links. -/
namespace Go.Proofs.YtgoggogcbjfofaaDoor
open Go.RowKit
set_option linter.unusedVariables false

theorem OnAt.blk {C : CfgR} {G : Gd} {n : Nat} {W W' : World} {B : Nat} (h : OnAt C G n W B) (e : W'.heap[B]? = W.heap[B]?) : OnAt C G n W' B := by
  have k : ∀ (o : Nat) (v : Value), W.cell? ⟨B, o, none⟩ = some v → W'.cell? ⟨B, o, none⟩ = some v := fun o v hc => (World.cell?_of_block (a := ⟨B, o, none⟩) e).trans hc
  exact ⟨k _ _ h.c0, k _ _ h.c1, k _ _ h.c2, k _ _ h.c3, k _ _ h.c4, k _ _ h.c5, k _ _ h.c6, k _ _ h.g0, k _ _ h.g1, k _ _ h.g2, k _ _ h.g3, k _ _ h.g4⟩
theorem SdAt.blk {s : Sd} {W W' : World} {B : Nat} (h : SdAt s W B) (e : W'.heap[B]? = W.heap[B]?) : SdAt s W' B := by
  have k : ∀ (o : Nat) (v : Value), W.cell? ⟨B, o, none⟩ = some v → W'.cell? ⟨B, o, none⟩ = some v := fun o v hc => (World.cell?_of_block (a := ⟨B, o, none⟩) e).trans hc
  exact ⟨k _ _ h.c0, k _ _ h.c1, k _ _ h.c2⟩
/-- Four numbers, in a block that may be written. -/
def LiAt (f : Nat → Int) (W : World) (P : Nat) : Prop := ∀ j, j < 4 → W.cell? ⟨P, j, none⟩ = some (.int .i64 (f j)) ∧ W.frozen? ⟨P, j, none⟩ = false
theorem LiAt.new {f : Nat → Int} {W W' : World} {P : Nat} (h : LiAt f W P) (q : New W W') : LiAt f W' P := fun j hj => ⟨q.keep (h j hj).1, q.keepF (h j hj).1 (h j hj).2⟩
theorem LiAt.blk {f : Nat → Int} {W W' : World} {P : Nat} (h : LiAt f W P) (e : W'.heap[P]? = W.heap[P]?) : LiAt f W' P := fun j hj =>
  ⟨(World.cell?_of_block (a := ⟨P, j, none⟩) e).trans (h j hj).1, (World.frozen?_of_block (a := ⟨P, j, none⟩) e).trans (h j hj).2⟩
theorem LiAt.put {f : Nat → Int} {W : World} {P : Nat} (h : LiAt f W P) {i : Nat} (hi : i < 4) (a : Int) {g : Nat → Int} (hg : ∀ j, j < 4 → g j = if j = i then a else f j) : LiAt g (W.setCell ⟨P, i, none⟩ (.int .i64 a)) P := fun j hj => by
  refine ⟨?_, by rw [World.frozen?_setCell]; exact (h j hj).2⟩
  rw [hg j hj]
  by_cases e : j = i
  · subst e
    rw [if_pos rfl]
    exact World.cell?_setCell_same _ _ _ (h j hj).1
  · rw [if_neg e, World.cell?_setCell_other _ _ _ _ (by intro q; injection q with _ q; exact e q.symm)]
    exact (h j hj).1
/-- The first i links. -/
def lkTo (C : CfgR) (G : Gd) (s : Sd) (i j : Nat) : Int := if j < i then oneL (toS C G s j) else 0
theorem lkTo_succ (C : CfgR) (G : Gd) (s : Sd) (i j : Nat) : lkTo C G s (i + 1) j = if j = i then oneL (toS C G s i) else lkTo C G s i j := by
  unfold lkTo
  by_cases h : j = i
  · subst h; simp
  · rw [if_neg h]
    by_cases h2 : j < i
    · rw [if_pos h2, if_pos (by omega)]
    · rw [if_neg h2, if_neg (by omega)]

set_option maxHeartbeats 8000000 in
set_option maxRecDepth 100000 in
theorem lk_links (C : CfgR) (G : Gd) (hE : gE G = 0) (s : Sd) (w0 w : World) (hn0 : New w0 w) (h : G.ok w0) (hD : Dirs w) : Calls Tryd.prog 45 #[.agg #[.int .i64 C.cl, .int .i64 C.cb, .int .i64 C.ht, .int .i64 C.ri, .int .i64 C.ru, .int .i64 C.wd, .int .i64 C.dp, .int .i64 G.x, .int .i64 G.z, .int .i64 G.w, .int .i64 G.d, .slice G.ga G.L.length G.gc], .agg #[.int .i64 s.x, .int .i64 s.z, .int .i64 s.k]] w fun e w' => e = .returned (.agg #[.int .i64 (lkS C G s).a, .int .i64 (lkS C G s).b, .int .i64 (lkS C G s).c, .int .i64 (lkS C G s).d]) ∧ New w w' := by
  have KT := Lib.hid (fun d W (q : New w W) => lk_to C G hE s d w0 W (hn0.trans q) h (hD.new q))
  obtain ⟨n, hn⟩ : ∃ n, n = G.L.length := ⟨_, rfl⟩
  rw [← hn] at KT ⊢
  clear hn h hD
  have HS := Lib.hid (fun i j => lkTo_succ C G s i j)
  have H4 : Hid (lkTo C G s 4 0 = (lkS C G s).a ∧ lkTo C G s 4 1 = (lkS C G s).b ∧ lkTo C G s 4 2 = (lkS C G s).c ∧ lkTo C G s 4 3 = (lkS C G s).d) := Lib.hid ⟨rfl, rfl, rfl, rfl⟩
  have H0 : Hid (∀ j, lkTo C G s 0 j = 0) := Lib.hid (fun j => by unfold lkTo; rw [if_neg (by omega)])
  generalize lkTo C G s = lt at *
  generalize lkS C G s = x at *
  generalize toS C G s = tn at *
  go_enter Tryd.func45, Tryd.ntmps45
  go_upto_region 2 with fail
  refine Code.at (fun W2 hW => ?_)
  have N2 : Hid (New w W2) := Lib.hid (by subst hW; (repeat (first | (with_reducible exact New.refl _) | (with_reducible assumption) | ((with_reducible refine New.setB ?_ ?_ _); focus (first | omega | (simp; omega) | (simp; done))) | (with_reducible refine New.alloc ?_ _) | (with_reducible refine New.drew ?_) | (with_reducible refine New.drewN ?_ _) | (with_reducible refine New.hat ?_ _) | ((with_reducible apply New.snart); (with_reducible assumption)))))
  have HG : Hid (OnAt C G n W2 w.heap.size) := Lib.hid (by subst hW; exact ⟨by go_simp, by go_simp, by go_simp, by go_simp, by go_simp, by go_simp, by go_simp, by go_simp, by go_simp, by go_simp, by go_simp, by go_simp⟩)
  have HP : Hid (SdAt s W2 (w.heap.size + 1)) := Lib.hid (by subst hW; exact ⟨by go_simp, by go_simp, by go_simp⟩)
  have HR : Hid (LiAt (fun _ => 0) W2 (w.heap.size + 1 + 1)) := Lib.hid (by
    subst hW
    intro j hj
    rcases (show j = 0 ∨ j = 1 ∨ j = 2 ∨ j = 3 by omega) with rfl | rfl | rfl | rfl <;> exact ⟨by go_simp, by go_simp⟩)
  have HL : Hid (LiAt (lt 0) W2 (w.heap.size + 1 + 1 + 1)) := Lib.hid (by
    subst hW
    intro j hj
    rw [H0.out]
    rcases (show j = 0 ∨ j = 1 ∨ j = 2 ∨ j = 3 by omega) with rfl | rfl | rfl | rfl <;> exact ⟨by go_simp, by go_simp⟩)
  have HZ : Hid (W2.heap.size = w.heap.size + 4) := Lib.hid (by subst hW; simp)
  clear hW
  obtain ⟨P, hP⟩ : ∃ P, P = w.heap.size + 1 + 1 + 1 := ⟨_, rfl⟩
  rw [← hP] at HL ⊢
  have HPP := Lib.hid hP
  clear hP
  obtain ⟨b0, hb0⟩ : ∃ b, b = W2.heap.size := ⟨_, rfl⟩
  have HB0 := Lib.hid hb0
  clear hb0
  go_wp2_with fail
  go_loopg [9] 4 (fun gk s9 wr => ∃ i : Nat, s9 = .int .i64 i ∧ i ≤ 4 ∧ 4 - i ≤ gk ∧ Hid (LiAt (lt i) wr P) ∧ Hid (Bar b0 P W2 wr) ∧ Hid (New w wr))
  case atStart => exact ⟨0, rfl, by omega, by omega, HL, Lib.hid (Bar.refl (Nat.le_of_eq HB0.out)), N2⟩
  case round =>
    obtain ⟨i, rfl, hi, hgk, HLr, HBr, HNr⟩ := hrel
    have hbb : ∀ b, b < b0 → b ≠ P → wr.heap[b]? = W2.heap[b]? := HBr.out.2
    have HGr := Lib.hid (HG.out.blk (hbb _ (by have := HB0.out; have := HZ.out; omega) (by have := HPP.out; omega)))
    have HPr := Lib.hid (HP.out.blk (hbb _ (by have := HB0.out; have := HZ.out; omega) (by have := HPP.out; omega)))
    have HRr := Lib.hid (HR.out.blk (hbb _ (by have := HB0.out; have := HZ.out; omega) (by have := HPP.out; omega)))
    clear hbb
    by_cases hlt : i < 4
    · obtain ⟨l0, l1⟩ := HLr.out i hlt
      go_upto_region 6 with fail
      refine Code.at (fun W5 hW => ?_)
      have HL5 : Hid (LiAt (fun j => if j = i then -1 else lt i j) W5 P) := Lib.hid (by subst hW; exact HLr.out.put hlt (-1) (fun j _ => rfl))
      have HB5 : Hid (Bar b0 P W2 W5) := Lib.hid (by subst hW; exact HBr.out.set _ _)
      have HN5 : Hid (New w W5) := Lib.hid (by subst hW; exact New.setB (p := ⟨P, i, none⟩) (by have := HPP.out; show w.heap.size ≤ P; omega) HNr.out _)
      have HG5 : Hid (OnAt C G n W5 w.heap.size) := Lib.hid (by subst hW; exact HGr.out.blk (Below.heap_setCell _ _ _ _ (show w.heap.size ≠ P by have := HPP.out; omega)))
      have HP5 : Hid (SdAt s W5 (w.heap.size + 1)) := Lib.hid (by subst hW; exact HPr.out.blk (Below.heap_setCell _ _ _ _ (show w.heap.size + 1 ≠ P by have := HPP.out; omega)))
      clear hW l0 l1 HGr HPr HRr HLr HBr HNr
      have KTi := Lib.hid (KT.out i)
      have HSi := Lib.hid (HS.out i)
      obtain ⟨o, ho⟩ : ∃ o, o = tn i := ⟨_, rfl⟩
      rw [← ho] at KTi HSi
      clear ho
      obtain ⟨c0, c1, c2, c3, c4, c5, c6, g0, g1, g2, g3, g4⟩ := HG5.out
      obtain ⟨p0, p1, p2⟩ := HP5.out
      go_wp2_with fail
      refine (KTi.out _ HN5.out).mono ?_
      rintro e w6 ⟨rfl, n6⟩
      clear c0 c1 c2 c3 c4 c5 c6 g0 g1 g2 g3 g4
      clear p0 p1 p2 HG5 HP5 KTi
      replace HL5 := Lib.hid (HL5.out.new n6)
      replace HB5 := Lib.hid (HB5.out.new n6)
      replace HN5 := Lib.hid (HN5.out.trans n6)
      have hPz : P < w6.heap.size := World.block_lt_of_cell? _ _ (HL5.out 0 (by omega)).1
      clear n6
      go_upto_region 7 with fail
      refine Code.at (fun W7 hW => ?_)
      have n7 : New w6 W7 := by subst hW; (repeat (first | (with_reducible exact New.refl _) | (with_reducible assumption) | ((with_reducible refine New.setB ?_ ?_ _); focus (first | omega | (simp; omega) | (simp; done))) | (with_reducible refine New.alloc ?_ _) | (with_reducible refine New.drew ?_) | (with_reducible refine New.drewN ?_ _) | (with_reducible refine New.hat ?_ _) | ((with_reducible apply New.snart); (with_reducible assumption))))
      have q2 : W7.cell? ⟨w6.heap.size, 2, none⟩ = some (.int .i64 (sdO o).k) := by subst hW; go_simp
      clear hW
      replace HL5 := Lib.hid (HL5.out.new n7)
      replace HB5 := Lib.hid (HB5.out.new n7)
      replace HN5 := Lib.hid (HN5.out.trans n7)
      clear n7
      obtain ⟨l0, l1⟩ := HL5.out i hlt
      have hne : P ≠ w6.heap.size := by omega
      rcases o with _ | t
      · simp only [Option.isSome_none]
        have hnx : Hid (LiAt (lt (i + 1)) W7 P) := Lib.hid (fun j hj => by
          have := HL5.out j hj
          rw [HSi.out j]
          exact this)
        go_wp2_with fail
        go_roundg (4 - (i + 1))
        case measure => omega
        case rel => exact ⟨i + 1, by go_num, by omega, by omega, hnx, HB5, HN5⟩
      · simp only [Option.isSome_some]
        have hnx : Hid (LiAt (lt (i + 1)) (W7.setCell ⟨P, i, none⟩ (.int .i64 t.k)) P) := Lib.hid (HL5.out.put hlt t.k (fun j hj => by
          rw [HSi.out j]
          by_cases e : j = i
          · simp [e, oneL]
          · simp [e]))
        have q2' : W7.cell? ⟨w6.heap.size, 2, none⟩ = some (.int .i64 t.k) := q2
        have HB6 := Lib.hid (HB5.out.set i (.int .i64 t.k))
        have HN6 : Hid (New w (W7.setCell ⟨P, i, none⟩ (.int .i64 t.k))) := Lib.hid (New.setB (p := ⟨P, i, none⟩) (by have := HPP.out; show w.heap.size ≤ P; omega) HN5.out _)
        clear q2 HL5 HB5 HN5
        go_wp2_with fail
        go_roundg (4 - (i + 1))
        case measure => omega
        case rel => exact ⟨i + 1, by go_num, by omega, by omega, hnx, HB6, HN6⟩
    · obtain rfl : i = 4 := by omega
      have l0 := (HLr.out 0 (by omega)).1
      have l1 := (HLr.out 1 (by omega)).1
      have l2 := (HLr.out 2 (by omega)).1
      have l3 := (HLr.out 3 (by omega)).1
      rw [H4.out.1] at l0
      rw [H4.out.2.1] at l1
      rw [H4.out.2.2.1] at l2
      rw [H4.out.2.2.2] at l3
      obtain ⟨z0, f0⟩ := HRr.out 0 (by omega)
      obtain ⟨z1, f1⟩ := HRr.out 1 (by omega)
      obtain ⟨z2, f2⟩ := HRr.out 2 (by omega)
      obtain ⟨z3, f3⟩ := HRr.out 3 (by omega)
      have nn := HNr.out
      clear HGr HPr HRr HLr HBr HNr
      go_wp2_with fail
      generalize hW5 : World.setCell _ _ _ = W5
      have n5 : New w W5 := by subst hW5; (repeat (first | (with_reducible exact New.refl _) | (with_reducible assumption) | ((with_reducible refine New.setB ?_ ?_ _); focus (first | omega | (simp; omega) | (simp; done))) | (with_reducible refine New.alloc ?_ _) | (with_reducible refine New.drew ?_) | (with_reducible refine New.drewN ?_ _) | (with_reducible refine New.hat ?_ _) | ((with_reducible apply New.snart); (with_reducible assumption))))
      have k0 : W5.cell? ⟨w.heap.size + 1 + 1, 0, none⟩ = some (.int .i64 x.a) := by subst hW5; go_simp
      have k1 : W5.cell? ⟨w.heap.size + 1 + 1, 1, none⟩ = some (.int .i64 x.b) := by subst hW5; go_simp
      have k2 : W5.cell? ⟨w.heap.size + 1 + 1, 2, none⟩ = some (.int .i64 x.c) := by subst hW5; go_simp
      have k3 : W5.cell? ⟨w.heap.size + 1 + 1, 3, none⟩ = some (.int .i64 x.d) := by subst hW5; go_simp
      clear hW5 z0 z1 z2 z3 f0 f1 f2 f3 l0 l1 l2 l3
      refine bodyPost_ret (v := .agg #[.int .i64 x.a, .int .i64 x.b, .int .i64 x.c, .int .i64 x.d]) (by simp [results, Tryd.results45, go_sem, *]) rfl ?_
      exact ⟨rfl, n5⟩

end Go.Proofs.YtgoggogcbjfofaaDoor

/- Package links: byColumns, at a floor's links. -/
namespace Go.Proofs.YtgoggogcbjfofaaDoor
open Go.RowKit
set_option linter.unusedVariables false

theorem lk_info : (Tryd.prog.info? 72).map (fun i => (i.zero, i.size, i.bytes)) = some (some (.agg #[.int .i64 0, .int .i64 0, .int .i64 0, .int .i64 0]), 4, 32) := by kernel_rfl
theorem lks_info : (Tryd.prog.info? 70).map (fun i => (i.zero, i.size, i.bytes)) = some (some (.slice none 0 0), 1, 24) := by kernel_rfl
/-- One in a block of its own. -/
theorem lk_new (w : World) (s : Lk) (t : TypeId) : Sl Lk.enc 4 (w.alloc (.cells #[.int .i64 s.a, .int .i64 s.b, .int .i64 s.c, .int .i64 s.d] t)) (.slice (some ⟨w.heap.size, 0, none⟩) 1 1) [s] :=
  ⟨_, _, rfl, Nat.le_refl _, by unfold maxLen; omega, fun h => (by cases h), fun _ => ⟨w.heap.size, 0, rfl, fun j hj i hi => by
    have hj' : j = 0 := by simpa using hj
    subst hj'
    have hi' : i < 4 := hi
    have hz := heap_new w (.cells #[.int .i64 s.a, .int .i64 s.b, .int .i64 s.c, .int .i64 s.d] t)
    rcases (show i = 0 ∨ i = 1 ∨ i = 2 ∨ i = 3 by omega) with rfl | rfl | rfl | rfl <;> exact cell_of_heap hz rfl⟩⟩
theorem lkC_take (C : CfgR) (G : Gd) (i : Nat) {k : Nat} (h : k < (gcol G i).length) : (lkC C G i).take (k + 1) = (lkC C G i).take k ++ [lkS C G (sdI G i k)] := by
  have e : (lkC C G i)[k]? = some (lkS C G (sdI G i k)) := by
    unfold lkC
    rw [List.getElem?_map, List.getElem?_range h]
    rfl
  obtain ⟨h2, h3⟩ := List.getElem?_eq_some_iff.1 e
  rw [List.take_succ_eq_append_getElem h2, h3]
theorem lkL_take (C : CfgR) (G : Gd) (i : Nat) : (List.range (i + 1)).map (lkC C G) = (List.range i).map (lkC C G) ++ [lkC C G i] := by
  rw [List.range_succ, List.map_append]
  rfl

set_option maxHeartbeats 8000000 in
set_option maxRecDepth 100000 in
theorem lk_columns (C : CfgR) (G : Gd) (hE : gE G = 0) (w : World) (h : G.ok w) (hD : Dirs w) : Calls Tryd.prog 44 #[.agg #[.int .i64 G.x, .int .i64 G.z, .int .i64 G.w, .int .i64 G.d, .slice G.ga G.L.length G.gc], .func (.func 45) #[.agg #[.int .i64 C.cl, .int .i64 C.cb, .int .i64 C.ht, .int .i64 C.ri, .int .i64 C.ru, .int .i64 C.wd, .int .i64 C.dp, .int .i64 G.x, .int .i64 G.z, .int .i64 G.w, .int .i64 G.d, .slice G.ga G.L.length G.gc]] #[]] w fun e w' => ∃ v, e = .returned v ∧ RowsK Lk.enc 4 w' v (lkL C G) ∧ New w w' := by
  obtain ⟨i0, hi0, hz0, hz1, hz2⟩ := info_parts lk_info
  obtain ⟨i1, hi1, hy0, hy1, hy2⟩ := info_parts lks_info
  have KT := Lib.hid (fun s W (q : New w W) => lk_links C G hE s w W q h (hD.new q))
  have HH : Hid (RowsK Fl.enc 3 w (.slice G.ga G.L.length G.gc) G.L) := Lib.hid h
  have hb := placeB_iff.1 (gd_is hE).1
  have HE := Lib.hid hE
  have HLN := Lib.hid (gd_is hE).2.1
  have hlen : G.L.length ≤ 4096 := by
    have := mul_64 hb.2.2.1.1 hb.2.2.1.2 hb.2.2.2.1 hb.2.2.2.2
    have := (gd_is hE).2.1
    omega
  obtain ⟨n, hn⟩ : ∃ n, n = G.L.length := ⟨_, rfl⟩
  rw [← hn] at KT HH hlen ⊢
  have HN := Lib.hid hn
  obtain ⟨ga, hga⟩ : ∃ q, q = G.ga := ⟨_, rfl⟩
  rw [← hga] at KT HH ⊢
  obtain ⟨wN, hwN⟩ : ∃ q, q = G.w.toNat := ⟨_, rfl⟩
  have HW := Lib.hid hwN
  have hwi : G.w = wN := by omega
  have HWI := Lib.hid hwi
  rw [hwi] at KT ⊢
  have hw64 : wN ≤ 64 := by omega
  have hx64 : -64 ≤ G.x ∧ G.x ≤ 64 := by omega
  have hz64 : -64 ≤ G.z ∧ G.z ≤ 64 := by omega
  have hwp : Hid (0 < n → 0 < wN) := Lib.hid (fun hp => by
    have h1 := HLN.out
    rw [hwi, ← hn] at h1
    rcases Nat.eq_zero_or_pos wN with q | q
    · rw [q] at h1; simp at h1; omega
    · exact q)
  have hdv : Hid (∀ i, i < n → i / wN ≤ 4096) := Lib.hid (fun i h => by have := Nat.div_le_self i wN; omega)
  have HLL : Hid (lkL C G = (List.range n).map (lkC C G)) := Lib.hid (by unfold lkL; rw [← hn])
  have HTK := Lib.hid (fun i k (q : k < (gcol G i).length) => lkC_take C G i q)
  have HTL := Lib.hid (fun i => lkL_take C G i)
  have HCL := Lib.hid (fun i => lkC_len C G i)
  generalize lkL C G = LL at *
  clear hn h hE hga hwN hwi hb hD
  go_enter Tryd.func44, Tryd.ntmps44
  go_upto_region 2 with fail
  refine Code.at (fun W0 hW => ?_)
  have n0 : New w W0 := by subst hW; (repeat (first | (with_reducible exact New.refl _) | (with_reducible assumption) | ((with_reducible refine New.setB ?_ ?_ _); focus (first | omega | (simp; omega) | (simp; done))) | (with_reducible refine New.alloc ?_ _) | (with_reducible refine New.drew ?_) | (with_reducible refine New.drewN ?_ _) | (with_reducible refine New.hat ?_ _) | ((with_reducible apply New.snart); (with_reducible assumption))))
  have g0 : W0.cell? ⟨w.heap.size, 0, none⟩ = some (.int .i64 G.x) := by subst hW; go_simp
  have g1 : W0.cell? ⟨w.heap.size, 1, none⟩ = some (.int .i64 G.z) := by subst hW; go_simp
  have g2 : W0.cell? ⟨w.heap.size, 2, none⟩ = some (.int .i64 wN) := by subst hW; go_simp
  have g3 : W0.cell? ⟨w.heap.size, 3, none⟩ = some (.int .i64 G.d) := by subst hW; go_simp
  have g4 : W0.cell? ⟨w.heap.size, 4, none⟩ = some (.slice ga n G.gc) := by subst hW; go_simp
  clear hW
  have HG := Lib.hid (fun W (q : New W0 W) => And.intro (q.keep g0) (And.intro (q.keep g1) (And.intro (q.keep g2) (And.intro (q.keep g3) (q.keep g4)))))
  obtain ⟨base, hbase⟩ : ∃ q, q = W0.heap.size := ⟨_, rfl⟩
  have HBS := Lib.hid hbase
  have N0 := Lib.hid n0
  clear hbase n0
  go_wp2_with fail
  clear g0 g1 g2 g3 g4
  go_loopg [13, 5] n (fun gk s13 s5 wr => ∃ (i : Nat) (ra : Option Addr) (rn rc : Nat) (us : List Value), s13 = .int .i64 i ∧ s5 = .slice ra rn rc ∧ i ≤ n ∧ n - i ≤ gk ∧ Hid (RowsOK Lk.enc 4 70 base wr (.slice ra rn rc) us ((List.range i).map (lkC C G))) ∧ Hid (New W0 wr))
  case atStart => exact ⟨0, none, 0, 0, [], rfl, rfl, by omega, by omega, Lib.hid RowsOK.nil, Lib.hid (New.refl _)⟩
  case round =>
    obtain ⟨i, ra, rn, rc, us, rfl, rfl, hi', hgk, HRO, hnr⟩ := hrel
    by_cases hlt : i < n
    · have HGK := Lib.hid hgk
      have hil : i < G.L.length := by rw [← HN.out]; exact hlt
      obtain ⟨b, off, a, c, rfl, hc, hs⟩ := (HH.out.keep (N0.out.trans hnr.out)).at i hil
      have hc8 := gcol_len HE.out i
      have hcl := gcol_at hil
      rw [← hcl] at hc hs
      obtain ⟨m, hm⟩ : ∃ q, q = (gcol G i).length := ⟨_, rfl⟩
      rw [← hm] at hc8 hc
      have HM := Lib.hid hm
      rename World => Wo
      obtain ⟨base2, hb2⟩ : ∃ q, q = Wo.heap.size := ⟨_, rfl⟩
      have HB2 := Lib.hid hb2
      clear hb2 hgk hm hcl hs
      go_wp2_with fail
      clear hc
      go_loopg [20, 8] m (fun gk s20 s8 wr => ∃ (k : Nat) (ca : Option Addr) (cn cc : Nat), s20 = .int .i64 k ∧ s8 = .slice ca cn cc ∧ k ≤ m ∧ m - k ≤ gk ∧ Hid (wr.ownsRow base2 72 4 (.slice ca cn cc) ((lkC C G i).take k).length (((lkC C G i).take k).flatMap Lk.enc)) ∧ Hid (New Wo wr))
      case atStart => exact ⟨0, none, 0, 0, rfl, rfl, by omega, by omega, Lib.hid (by rw [List.take_zero]; exact World.ownsRow_nil _ _ _ _), Lib.hid (New.refl _)⟩
      case round =>
        obtain ⟨k, ca, cn, cc, rfl, rfl, hk, hgk, hown, hnk⟩ := hrel
        by_cases hkt : k < m
        · have hkl : k < (gcol G i).length := by rw [← HM.out]; exact hkt
          have hsu := HTK.out i k hkl
          have hst : sdI G i k = ⟨G.x + ((i % wN : Nat) : Int), G.z + ((i / wN : Nat) : Int), k⟩ := by unfold sdI; rw [← HW.out]
          rw [hst] at hsu
          have hsl : ((lkC C G i).take k).length ≤ k := by rw [List.length_take]; omega
          have hwp' := hwp.out (by omega)
          have hmod : i % wN < wN := Nat.mod_lt _ hwp'
          have hdv' := hdv.out i hlt
          obtain ⟨xm, hxm⟩ : ∃ q, q = i % wN := ⟨_, rfl⟩
          obtain ⟨zm, hzm⟩ : ∃ q, q = i / wN := ⟨_, rfl⟩
          have hr1 : ((i : Int).tmod (wN : Int)) = (xm : Int) := by rw [hxm]; rfl
          have hr2 : ((i : Int).tdiv (wN : Int)) = (zm : Int) := by rw [hzm]; rfl
          rw [← hxm] at hmod hsu
          rw [← hzm] at hdv' hsu
          have HSU := Lib.hid hsu
          have hxw : IntKind.i64.wrap (G.x + (xm : Int)) = G.x + xm := IntWalk.i64_in _ (by omega)
          have hzw : IntKind.i64.wrap (G.z + (zm : Int)) = G.z + zm := IntWalk.i64_in _ (by omega)
          have hw1 : IntKind.i64.wrap (xm : Int) = xm := IntWalk.i64_in _ (by omega)
          have hw2 : IntKind.i64.wrap (zm : Int) = zm := IntWalk.i64_in _ (by omega)
          have hwne : ¬ wN = 0 := by omega
          have KTi := Lib.hid (fun W q => KT.out ⟨G.x + (xm : Nat), G.z + (zm : Nat), k⟩ W q)
          obtain ⟨x, hx⟩ : ∃ x, x = lkS C G ⟨G.x + (xm : Nat), G.z + (zm : Nat), k⟩ := ⟨_, rfl⟩
          rw [← hx] at KTi HSU
          obtain ⟨pre, hpre⟩ : ∃ q, q = (lkC C G i).take k := ⟨_, rfl⟩
          rw [← hpre] at HSU hown hsl
          have hn3 := N0.out.trans (hnr.out.trans hnk.out)
          have HN3 := Lib.hid hn3
          have hr5 : base2 ≤ wr.heap.size := by rw [HB2.out]; exact hnk.out.size
          clear hxm hzm hst hsu hx hpre hn3
          obtain ⟨g0, g1, g2, g3, g4⟩ := HG.out _ (hnr.out.trans hnk.out)
          clear g3 g4
          go_upto_region 9 with fail
          refine wp_region_loose 20 (fixV [.slice ca cn cc, .func (.func 45) #[.agg #[.int .i64 C.cl, .int .i64 C.cb, .int .i64 C.ht, .int .i64 C.ri, .int .i64 C.ru, .int .i64 C.wd, .int .i64 C.dp, .int .i64 G.x, .int .i64 G.z, .int .i64 (wN : Nat), .int .i64 G.d, .slice (some ⟨b, off, none⟩) n G.gc]] #[], .pointer (some ⟨w.heap.size, 0, none⟩), .int .i64 G.x, .int .i64 (i : Nat), .pointer (some ⟨w.heap.size, 2, none⟩), .int .i64 (wN : Nat), .int .i64 (xm : Nat), .int .i64 (G.x + (xm : Nat)), .pointer (some ⟨w.heap.size, 1, none⟩), .int .i64 G.z, .int .i64 (i : Nat), .pointer (some ⟨w.heap.size, 2, none⟩), .int .i64 (wN : Nat), .int .i64 (zm : Nat), .int .i64 (G.z + (zm : Nat)), .int .i64 (k : Nat), .agg #[.int .i64 (G.x + (xm : Nat)), .int .i64 (G.z + (zm : Nat)), .int .i64 (k : Nat)], .agg #[.int .i64 x.a, .int .i64 x.b, .int .i64 x.c, .int .i64 x.d]] (fun W v => Sl Lk.enc 4 W v [x])) (by kernel_rfl) (by kernel_rfl) (fixV_keep (fun _ _ _ h n => h.keep n) _) ?_ ?_
          · intro i' o hi2 ho a' w' nn hr hdd
            rcases (show i' = 0 ∨ i' = 1 ∨ i' = 2 ∨ i' = 3 ∨ i' = 4 ∨ i' = 5 ∨ i' = 6 ∨ i' = 7 ∨ i' = 8 ∨ i' = 9 ∨ i' = 10 ∨ i' = 11 ∨ i' = 12 ∨ i' = 13 ∨ i' = 14 ∨ i' = 15 ∨ i' = 16 ∨ i' = 17 ∨ i' = 18 ∨ i' = 19 by omega) with rfl | rfl | rfl | rfl | rfl | rfl | rfl | rfl | rfl | rfl | rfl | rfl | rfl | rfl | rfl | rfl | rfl | rfl | rfl | rfl <;> obtain rfl := Option.some.inj ho
            · have r8 : (a'.tmps[8]?).getD undef = .slice ca cn cc := (eval_get a' 8).symm.trans (hr 8 (by kernel_rfl))
              exact yields_value (.slice ca cn cc) (by go_simp) ⟨New.refl _, rfl⟩
            · have r1 : (a'.tmps[1]?).getD undef = .func (.func 45) #[.agg #[.int .i64 C.cl, .int .i64 C.cb, .int .i64 C.ht, .int .i64 C.ri, .int .i64 C.ru, .int .i64 C.wd, .int .i64 C.dp, .int .i64 G.x, .int .i64 G.z, .int .i64 (wN : Nat), .int .i64 G.d, .slice (some ⟨b, off, none⟩) n G.gc]] #[] := (eval_get a' 1).symm.trans (hr 1 (by kernel_rfl))
              exact yields_value (.func (.func 45) #[.agg #[.int .i64 C.cl, .int .i64 C.cb, .int .i64 C.ht, .int .i64 C.ri, .int .i64 C.ru, .int .i64 C.wd, .int .i64 C.dp, .int .i64 G.x, .int .i64 G.z, .int .i64 (wN : Nat), .int .i64 G.d, .slice (some ⟨b, off, none⟩) n G.gc]] #[]) (by go_simp) ⟨New.refl _, rfl⟩
            · have r2 : (a'.tmps[2]?).getD undef = .pointer (some ⟨w.heap.size, 0, none⟩) := (eval_get a' 2).symm.trans (hr 2 (by kernel_rfl))
              exact yields_value (.pointer (some ⟨w.heap.size, 0, none⟩)) (by go_simp) ⟨New.refl _, rfl⟩
            · have r25 : (a'.tmps[25]?).getD undef = .pointer (some ⟨w.heap.size, 0, none⟩) := (eval_get a' 25).symm.trans (hdd 2 25 (by omega) (by kernel_rfl) (by kernel_rfl))
              replace g0 := nn.keep g0
              exact yields_value (.int .i64 G.x) (by go_simp) ⟨New.refl _, rfl⟩
            · have r6 : (a'.tmps[6]?).getD undef = .int .i64 (i : Nat) := (eval_get a' 6).symm.trans (hr 6 (by kernel_rfl))
              exact yields_value (.int .i64 (i : Nat)) (by go_simp) ⟨New.refl _, rfl⟩
            · have r2 : (a'.tmps[2]?).getD undef = .pointer (some ⟨w.heap.size, 0, none⟩) := (eval_get a' 2).symm.trans (hr 2 (by kernel_rfl))
              exact yields_value (.pointer (some ⟨w.heap.size, 2, none⟩)) (by go_simp) ⟨New.refl _, rfl⟩
            · have r28 : (a'.tmps[28]?).getD undef = .pointer (some ⟨w.heap.size, 2, none⟩) := (eval_get a' 28).symm.trans (hdd 5 28 (by omega) (by kernel_rfl) (by kernel_rfl))
              replace g2 := nn.keep g2
              exact yields_value (.int .i64 (wN : Nat)) (by go_simp) ⟨New.refl _, rfl⟩
            · have r27 : (a'.tmps[27]?).getD undef = .int .i64 (i : Nat) := (eval_get a' 27).symm.trans (hdd 4 27 (by omega) (by kernel_rfl) (by kernel_rfl))
              have r29 : (a'.tmps[29]?).getD undef = .int .i64 (wN : Nat) := (eval_get a' 29).symm.trans (hdd 6 29 (by omega) (by kernel_rfl) (by kernel_rfl))
              exact yields_value (.int .i64 (xm : Nat)) (by go_simp) ⟨New.refl _, rfl⟩
            · have r26 : (a'.tmps[26]?).getD undef = .int .i64 G.x := (eval_get a' 26).symm.trans (hdd 3 26 (by omega) (by kernel_rfl) (by kernel_rfl))
              have r30 : (a'.tmps[30]?).getD undef = .int .i64 (xm : Nat) := (eval_get a' 30).symm.trans (hdd 7 30 (by omega) (by kernel_rfl) (by kernel_rfl))
              exact yields_value (.int .i64 (G.x + (xm : Nat))) (by go_simp) ⟨New.refl _, rfl⟩
            · have r2 : (a'.tmps[2]?).getD undef = .pointer (some ⟨w.heap.size, 0, none⟩) := (eval_get a' 2).symm.trans (hr 2 (by kernel_rfl))
              exact yields_value (.pointer (some ⟨w.heap.size, 1, none⟩)) (by go_simp) ⟨New.refl _, rfl⟩
            · have r32 : (a'.tmps[32]?).getD undef = .pointer (some ⟨w.heap.size, 1, none⟩) := (eval_get a' 32).symm.trans (hdd 9 32 (by omega) (by kernel_rfl) (by kernel_rfl))
              replace g1 := nn.keep g1
              exact yields_value (.int .i64 G.z) (by go_simp) ⟨New.refl _, rfl⟩
            · have r6 : (a'.tmps[6]?).getD undef = .int .i64 (i : Nat) := (eval_get a' 6).symm.trans (hr 6 (by kernel_rfl))
              exact yields_value (.int .i64 (i : Nat)) (by go_simp) ⟨New.refl _, rfl⟩
            · have r2 : (a'.tmps[2]?).getD undef = .pointer (some ⟨w.heap.size, 0, none⟩) := (eval_get a' 2).symm.trans (hr 2 (by kernel_rfl))
              exact yields_value (.pointer (some ⟨w.heap.size, 2, none⟩)) (by go_simp) ⟨New.refl _, rfl⟩
            · have r35 : (a'.tmps[35]?).getD undef = .pointer (some ⟨w.heap.size, 2, none⟩) := (eval_get a' 35).symm.trans (hdd 12 35 (by omega) (by kernel_rfl) (by kernel_rfl))
              replace g2 := nn.keep g2
              exact yields_value (.int .i64 (wN : Nat)) (by go_simp) ⟨New.refl _, rfl⟩
            · have r34 : (a'.tmps[34]?).getD undef = .int .i64 (i : Nat) := (eval_get a' 34).symm.trans (hdd 11 34 (by omega) (by kernel_rfl) (by kernel_rfl))
              have r36 : (a'.tmps[36]?).getD undef = .int .i64 (wN : Nat) := (eval_get a' 36).symm.trans (hdd 13 36 (by omega) (by kernel_rfl) (by kernel_rfl))
              exact yields_value (.int .i64 (zm : Nat)) (by go_simp) ⟨New.refl _, rfl⟩
            · have r33 : (a'.tmps[33]?).getD undef = .int .i64 G.z := (eval_get a' 33).symm.trans (hdd 10 33 (by omega) (by kernel_rfl) (by kernel_rfl))
              have r37 : (a'.tmps[37]?).getD undef = .int .i64 (zm : Nat) := (eval_get a' 37).symm.trans (hdd 14 37 (by omega) (by kernel_rfl) (by kernel_rfl))
              exact yields_value (.int .i64 (G.z + (zm : Nat))) (by go_simp) ⟨New.refl _, rfl⟩
            · have r9 : (a'.tmps[9]?).getD undef = .int .i64 (k : Nat) := (eval_get a' 9).symm.trans (hr 9 (by kernel_rfl))
              exact yields_value (.int .i64 (k : Nat)) (by go_simp) ⟨New.refl _, rfl⟩
            · have r31 : (a'.tmps[31]?).getD undef = .int .i64 (G.x + (xm : Nat)) := (eval_get a' 31).symm.trans (hdd 8 31 (by omega) (by kernel_rfl) (by kernel_rfl))
              have r38 : (a'.tmps[38]?).getD undef = .int .i64 (G.z + (zm : Nat)) := (eval_get a' 38).symm.trans (hdd 15 38 (by omega) (by kernel_rfl) (by kernel_rfl))
              have r39 : (a'.tmps[39]?).getD undef = .int .i64 (k : Nat) := (eval_get a' 39).symm.trans (hdd 16 39 (by omega) (by kernel_rfl) (by kernel_rfl))
              exact yields_value (.agg #[.int .i64 (G.x + (xm : Nat)), .int .i64 (G.z + (zm : Nat)), .int .i64 (k : Nat)]) (by go_simp) ⟨New.refl _, rfl⟩
            · have r24 : (a'.tmps[24]?).getD undef = .func (.func 45) #[.agg #[.int .i64 C.cl, .int .i64 C.cb, .int .i64 C.ht, .int .i64 C.ri, .int .i64 C.ru, .int .i64 C.wd, .int .i64 C.dp, .int .i64 G.x, .int .i64 G.z, .int .i64 (wN : Nat), .int .i64 G.d, .slice (some ⟨b, off, none⟩) n G.gc]] #[] := (eval_get a' 24).symm.trans (hdd 1 24 (by omega) (by kernel_rfl) (by kernel_rfl))
              have r40 : (a'.tmps[40]?).getD undef = .agg #[.int .i64 (G.x + (xm : Nat)), .int .i64 (G.z + (zm : Nat)), .int .i64 (k : Nat)] := (eval_get a' 40).symm.trans (hdd 17 40 (by omega) (by kernel_rfl) (by kernel_rfl))
              exact yields_enter 45 #[.agg #[.int .i64 C.cl, .int .i64 C.cb, .int .i64 C.ht, .int .i64 C.ri, .int .i64 C.ru, .int .i64 C.wd, .int .i64 C.dp, .int .i64 G.x, .int .i64 G.z, .int .i64 (wN : Nat), .int .i64 G.d, .slice (some ⟨b, off, none⟩) n G.gc], .agg #[.int .i64 (G.x + (xm : Nat)), .int .i64 (G.z + (zm : Nat)), .int .i64 (k : Nat)]] (by go_simp) ((KTi.out w' (HN3.out.trans nn)).mono fun e w'' ⟨he, hn⟩ => ⟨_, he, hn, rfl⟩)
            · have r41 : (a'.tmps[41]?).getD undef = .agg #[.int .i64 x.a, .int .i64 x.b, .int .i64 x.c, .int .i64 x.d] := (eval_get a' 41).symm.trans (hdd 18 41 (by omega) (by kernel_rfl) (by kernel_rfl))
              exact yields_value (w' := w'.alloc (.cells #[.int .i64 x.a, .int .i64 x.b, .int .i64 x.c, .int .i64 x.d] 72)) (.slice (some ⟨w'.heap.size, 0, none⟩) 1 1) (by go_simp) ⟨(New.refl w').alloc _, lk_new w' x _⟩
          · intro vs w' nn hv
            have e0 : vs 0 = .slice ca cn cc := hv 0 (by omega)
            have s19 : Sl Lk.enc 4 w' (vs 19) [x] := hv 19 (by omega)
            simp only [List.take_succ_cons, List.take_zero, List.drop_succ_cons, List.drop_zero, putL, Act.put, List.setIfInBounds_toArray, List.set_cons_zero, List.set_cons_succ, Nat.reduceAdd, Nat.zero_add]
            rw [e0]
            generalize vs 19 = u19 at *
            have nn5 := hnk.out.trans nn
            have own6 := own_new hown.out nn
            have hr6 : base2 ≤ w'.heap.size := by rw [HB2.out]; exact nn5.size
            clear hv e0 nn g0 g1 g2 hr5
            replace s19 := Lib.hid s19
            go_wp2_with (at_builtin; refine wpList_append_sl rfl _ _ 70 rfl Lk.enc_len Lk.enc_one base2 72 i0 _ 32 Tryd.underlying70 hi0 hz0 hz1 hz2 rfl (by decide) _ pre rfl own6 _ [x] rfl s19.out (by unfold maxLen; simp; omega) (by simp; omega) hr6 ?_; intro v' w1 hown' hnew _; obtain ⟨a', d', N', hN', rfl⟩ := own_shape2 hown'; clear hN'; have nw1 := hnew Wo nn5 (Nat.le_of_eq HB2.out.symm))
            go_roundg (m - (k + 1))
            case measure => omega
            case rel => exact ⟨k + 1, a', N', d', by go_num, rfl, by omega, by omega, Lib.hid (by rw [HSU.out]; exact hown'), Lib.hid nw1⟩
        · obtain rfl : k = m := by omega
          have HOW : Hid (wr.ownsRow base2 72 4 (.slice ca cn cc) (lkC C G i).length ((lkC C G i).flatMap Lk.enc)) := Lib.hid (by
            have h := hown.out
            rw [List.take_of_length_le (by rw [HCL.out, HM.out]; exact Nat.le_refl _)] at h
            exact h)
          have HRn := Lib.hid (HRO.out.new hnk.out)
          have HNN := Lib.hid (hnr.out.trans hnk.out)
          have hbz : base ≤ wr.heap.size := by rw [HBS.out]; exact HNN.out.size
          have hsl := own_sl Lk.enc_len HOW.out
          have hcn : (lkC C G i).length = cn := by obtain ⟨a1, c1, e1, -⟩ := hsl; injection e1 with _ e1; exact e1.symm
          have HSL := Lib.hid hsl
          have HT := Lib.hid (HTL.out i)
          have HOB := Lib.hid (fun g e => own_block HOW.out g e)
          generalize lkC C G i = col at *
          clear hown hsl hgk
          go_upto_region 12 with (at_builtin; refine wpList_append_own_at _ rfl _ _ 41 rfl base 70 i1 (.slice none 0 0) 1 24 Tryd.underlying41 hi1 hy0 hy1 hy2 rfl (by decide) _ _ _ rfl (own_new HRn.out.own ((New.refl _).alloc _)) ⟨wr.heap.size, 0, none⟩ 1 1 [.slice ca cn cc] rfl rfl (by intro j u hj; cases j with | zero => (simp at hj; subst hj; go_simp) | succ j => simp at hj) (by intro u hu; rw [List.mem_singleton] at hu; subst hu; rfl) (by have := HRn.out.len; unfold maxLen; simp at this; omega) (by have := HRn.out.len; simp at this; omega) (by simp; omega) ?_; intro v' w4 hown' hgrow _ hat; obtain ⟨a', d', N', hN', rfl⟩ := own_shape2 hown'; clear hN')
          have hgrow' : (wr.alloc (.cells #[.slice ca cn cc] 70)).grownBy w4 (Value.slice ra rn rc).ownBlock := hgrow
          have hat' : (Value.slice a' N' d').ownBlock = (Value.slice ra rn rc).ownBlock ∨ (Value.slice a' N' d').ownBlock = some (wr.alloc (.cells #[.slice ca cn cc] 70)).heap.size := hat
          have na : New wr (wr.alloc (.cells #[.slice ca cn cc] 70)) := (New.refl _).alloc _
          have HP : Hid (RowsOK Lk.enc 4 70 base w4 (.slice a' N' d') (us ++ [.slice ca cn cc]) ((List.range (i + 1)).map (lkC C G))) := Lib.hid (by
            rw [HT.out]
            refine (HRn.out.new na).push Lk.enc_len (by omega) (HSL.out.keep na) (fun _ g e e2 => ?_) hown' hgrow' hat'
            have q1 := HOB.out g e
            have q2 := (HRO.out.own.lt g e2).2
            have q3 := HB2.out
            omega)
          have HN4 : Hid (New W0 w4) := Lib.hid (newGrown (HNN.out.trans na) hgrow' (fun j hj => by have := (HRO.out.own.lt j hj).1; have := HBS.out; omega))
          clear hgrow hgrow' hat hat' hown' na hcn
          go_wp2_with fail
          go_roundg (n - (i + 1))
          case measure => have := HGK.out; omega
          case rel => exact ⟨i + 1, a', N', d', _, by go_num, rfl, by omega, by omega, HP, HN4⟩
    · obtain rfl : i = n := by omega
      have HO : Hid (RowsK Lk.enc 4 wr (.slice ra rn rc) LL) := Lib.hid (by
        rw [HLL.out]
        exact HRO.out.rows)
      go_wp2_with fail
      go_ret
      exact ⟨_, rfl, HO.out, N0.out.trans hnr.out⟩

end Go.Proofs.YtgoggogcbjfofaaDoor

/- Package links: Build. -/
namespace Go.Proofs.YtgoggogcbjfofaaDoor
open Go.RowKit
set_option linter.unusedVariables false

/-- The links of a grid, or nothing beside an error. -/
def lkT (C : CfgR) (G : Gd) : List (List Lk) := if lkE C G = 0 then lkL C G else []
/-- What Build tells. -/
def LBuilt (er : Int) (L : List (List Lk)) (w : World) (e : Ending) (w' : World) : Prop := ∃ v, e = .returned (.tuple #[v, .int .i64 er]) ∧ RowsK Lk.enc 4 w' v L ∧ New w w'

set_option maxHeartbeats 8000000 in
set_option maxRecDepth 100000 in
theorem lk_Build (C : CfgR) (G : Gd) (w : World) (h : G.ok w) (hD : Dirs w) : Calls Tryd.prog 32 #[.agg #[.int .i64 C.cl, .int .i64 C.cb, .int .i64 C.ht, .int .i64 C.ri, .int .i64 C.ru, .int .i64 C.wd, .int .i64 C.dp], .agg #[.int .i64 G.x, .int .i64 G.z, .int .i64 G.w, .int .i64 G.d, .slice G.ga G.L.length G.gc]] w (LBuilt (lkE C G) (lkT C G) w) := by
  have KG := Lib.hid (fun W (q : New w W) => lk_groundOf C G W (h.keep q))
  have KB := Lib.hid (fun q => grV_bad (C := C) (G := G) q)
  have KF := Lib.hid (fun q => grV_fine (C := C) (G := G) q)
  have KL : Hid (lkE C G = 0 → ∀ W, New w W → Calls Tryd.prog 44 #[.agg #[.int .i64 G.x, .int .i64 G.z, .int .i64 G.w, .int .i64 G.d, .slice G.ga G.L.length G.gc], .func (.func 45) #[.agg #[.int .i64 C.cl, .int .i64 C.cb, .int .i64 C.ht, .int .i64 C.ri, .int .i64 C.ru, .int .i64 C.wd, .int .i64 C.dp, .int .i64 G.x, .int .i64 G.z, .int .i64 G.w, .int .i64 G.d, .slice G.ga G.L.length G.gc]] #[]] W fun e w' => ∃ v, e = .returned v ∧ RowsK Lk.enc 4 w' v (lkL C G) ∧ New W w') := Lib.hid (fun q W n => lk_columns C G (lkE_is.1 q).2 W (h.keep n) (hD.new n))
  have HT : Hid (lkT C G = if lkE C G = 0 then lkL C G else []) := Lib.hid rfl
  generalize lkT C G = T at *
  generalize lkL C G = L at *
  generalize grV C G = gv at *
  obtain ⟨n, hn⟩ : ∃ n, n = G.L.length := ⟨_, rfl⟩
  rw [← hn] at KG KF KL ⊢
  clear hn h hD
  generalize lkE C G = le at *
  obtain ⟨Q, hQ⟩ : ∃ Q, Q = LBuilt le T w := ⟨_, rfl⟩
  rw [← hQ]
  have HQ := Lib.hid hQ
  clear hQ
  by_cases hle : le = 0
  · have hT : T = L := by rw [HT.out, if_pos hle]
    have hv := KF.out hle
    have KL2 := Lib.hid (KL.out hle)
    subst hle
    rw [hv] at KG
    clear HT KB KF KL hv
    subst hT
    go_enter Tryd.func32, Tryd.ntmps32
    go_wp2_with fail
    refine Calls.at (fun W hW => ?_)
    have n0 : New w W := by subst hW; (repeat (first | (with_reducible exact New.refl _) | (with_reducible assumption) | ((with_reducible refine New.setB ?_ ?_ _); focus (first | omega | (simp; omega) | (simp; done))) | (with_reducible refine New.alloc ?_ _) | (with_reducible refine New.drew ?_) | (with_reducible refine New.drewN ?_ _) | (with_reducible refine New.hat ?_ _) | ((with_reducible apply New.snart); (with_reducible assumption))))
    have g0 : W.cell? ⟨w.heap.size + 1, 0, none⟩ = some (.int .i64 G.x) := by subst hW; go_simp
    have g1 : W.cell? ⟨w.heap.size + 1, 1, none⟩ = some (.int .i64 G.z) := by subst hW; go_simp
    have g2 : W.cell? ⟨w.heap.size + 1, 2, none⟩ = some (.int .i64 G.w) := by subst hW; go_simp
    have g3 : W.cell? ⟨w.heap.size + 1, 3, none⟩ = some (.int .i64 G.d) := by subst hW; go_simp
    have g4 : W.cell? ⟨w.heap.size + 1, 4, none⟩ = some (.slice G.ga n G.gc) := by subst hW; go_simp
    clear hW
    refine (KG.out _ n0).mono ?_
    rintro e w1 ⟨rfl, n1⟩
    replace g0 := n1.keep g0
    replace g1 := n1.keep g1
    replace g2 := n1.keep g2
    replace g3 := n1.keep g3
    replace g4 := n1.keep g4
    have N1 := n0.trans n1
    have hz3 := World.block_lt_of_cell? _ _ g0
    simp only [] at hz3
    clear n0 n1 KG
    go_wp2_with fail
    refine Calls.at (fun W2 hW => ?_)
    have N2 : New w W2 := by subst hW; (repeat (first | (with_reducible exact New.refl _) | (with_reducible assumption) | ((with_reducible refine New.setB ?_ ?_ _); focus (first | omega | (simp; omega) | (simp; done))) | (with_reducible refine New.alloc ?_ _) | (with_reducible refine New.drew ?_) | (with_reducible refine New.drewN ?_ _) | (with_reducible refine New.hat ?_ _) | ((with_reducible apply New.snart); (with_reducible assumption))))
    clear hW g0 g1 g2 g3 g4
    refine (KL2.out _ N2).mono ?_
    rintro e w3 ⟨v, rfl, hr, n3⟩
    have N3 := N2.trans n3
    have HR := Lib.hid hr
    clear n3 N2 N1 KL2 hr
    go_wp2_with fail
    rw [HQ.out]
    exact ⟨v, rfl, HR.out, N3⟩
  · have hT : T = [] := by rw [HT.out, if_neg hle]
    have hv := KB.out hle
    rw [hv] at KG
    have hne : (le != 0) = true := by rw [bne_iff_ne]; exact hle
    clear HT KB KF KL hv hle
    subst hT
    go_enter Tryd.func32, Tryd.ntmps32
    go_wp2_with fail
    refine Calls.at (fun W hW => ?_)
    have n0 : New w W := by subst hW; (repeat (first | (with_reducible exact New.refl _) | (with_reducible assumption) | ((with_reducible refine New.setB ?_ ?_ _); focus (first | omega | (simp; omega) | (simp; done))) | (with_reducible refine New.alloc ?_ _) | (with_reducible refine New.drew ?_) | (with_reducible refine New.drewN ?_ _) | (with_reducible refine New.hat ?_ _) | ((with_reducible apply New.snart); (with_reducible assumption))))
    clear hW
    refine (KG.out _ n0).mono ?_
    rintro e w1 ⟨rfl, n1⟩
    have N1 := n0.trans n1
    clear n0 n1 KG
    go_wp2_with fail
    rw [HQ.out]
    exact ⟨_, rfl, RowsK.nil, by (repeat (first | (with_reducible exact New.refl _) | (with_reducible assumption) | ((with_reducible refine New.setB ?_ ?_ _); focus (first | omega | (simp; omega) | (simp; done))) | (with_reducible refine New.alloc ?_ _) | (with_reducible refine New.drew ?_) | (with_reducible refine New.drewN ?_ _) | (with_reducible refine New.hat ?_ _) | ((with_reducible apply New.snart); (with_reducible assumption))))⟩

end Go.Proofs.YtgoggogcbjfofaaDoor
