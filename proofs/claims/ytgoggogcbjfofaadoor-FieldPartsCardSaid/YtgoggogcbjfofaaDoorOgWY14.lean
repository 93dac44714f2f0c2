import Derived.Test.YtgoggogcbjfofaaDoorOgGY14
import Derived.Test.YtgoggogcbjfofaaDoorSteady
import Derived.Test.YtgoggogcbjfofaaDoorSoWY14

/- Rows of rows while they are made. No function of the program in sight. -/
namespace Go.Proofs.YtgoggogcbjfofaaDoor
open Go.RowKit
set_option linter.unusedVariables false

section
variable {α : Type} {enc : α → List Value} {k : Nat}
structure RowsOK (enc : α → List Value) (k : Nat) (tG : TypeId) (base : Nat) (W : World) (v : Value) (us : List Value) (L : List (List α)) : Prop where
  len : us.length = L.length
  own : W.ownsRow base tG 1 v us.length us
  each : ∀ j (h : j < L.length), ∃ u, us[j]? = some u ∧ Sl enc k W u L[j] ∧ (0 < L[j].length → ∀ g, u.ownBlock = some g → v.ownBlock ≠ some g)
theorem slk_other {w w' : World} {row : Option Nat} {u : Value} {l : List α} (h : Sl enc k w u l) (hg : w.grownBy w' row) (hne : 0 < l.length → ∀ g, u.ownBlock = some g → row ≠ some g) : Sl enc k w' u l := by
  obtain ⟨a, c, rfl, h1, h2, h3, h4⟩ := h
  refine ⟨a, c, rfl, h1, h2, h3, fun h0 => ?_⟩
  obtain ⟨b, off, rfl, hr⟩ := h4 h0
  refine ⟨b, off, rfl, fun j hj i hi => ?_⟩
  have hc := hr j hj i hi
  exact hg.cell hc (fun e => hne h0 b (by simp [Value.ownBlock]) e.symm)
theorem slk_lt (hk : ∀ a, (enc a).length = k) (hk0 : 0 < k) {w : World} {u : Value} {l : List α} (h : Sl enc k w u l) (h0 : 0 < l.length) {g : Nat} (e : u.ownBlock = some g) : g < w.heap.size := by
  obtain ⟨a, c, rfl, h1, h2, h3, h4⟩ := h
  obtain ⟨b, off, rfl, hr⟩ := h4 h0
  obtain rfl : b = g := by simpa [Value.ownBlock] using e
  exact World.block_lt_of_cell? _ _ (hr 0 h0 0 (by rw [hk]; exact hk0))
theorem slk_one {w : World} {u : Value} {l : List α} (h : Sl enc k w u l) : u.oneCell' = true := by
  obtain ⟨a, c, rfl, -⟩ := h
  rfl
variable {tG : TypeId} {base : Nat} {W W1 : World} {v v' : Value} {us : List Value} {L : List (List α)}
theorem RowsOK.nil : RowsOK enc k tG base W (.slice none 0 0) [] [] := ⟨rfl, World.ownsRow_nil _ _ _ _, fun j h => absurd h (by simp)⟩
theorem RowsOK.new (h : RowsOK enc k tG base W v us L) (n : New W W1) : RowsOK enc k tG base W1 v us L := ⟨h.len, own_new h.own n, fun j hj => by obtain ⟨u, e, hs, hn⟩ := h.each j hj; exact ⟨u, e, hs.keep n, hn⟩⟩
theorem RowsOK.push (hk : ∀ a, (enc a).length = k) (hk0 : 0 < k) (h : RowsOK enc k tG base W v us L) {u : Value} {l : List α} (hs : Sl enc k W u l) (hn : 0 < l.length → ∀ g, u.ownBlock = some g → v.ownBlock ≠ some g) (hown : W1.ownsRow base tG 1 v' (us.length + 1) (us ++ [u])) (hg : W.grownBy W1 v.ownBlock) (hat : v'.ownBlock = v.ownBlock ∨ v'.ownBlock = some W.heap.size) :
    RowsOK enc k tG base W1 v' (us ++ [u]) (L ++ [l]) := by
  have one : ∀ (x : Value) (m : List α), Sl enc k W x m → (0 < m.length → ∀ g, x.ownBlock = some g → v.ownBlock ≠ some g) → Sl enc k W1 x m ∧ (0 < m.length → ∀ g, x.ownBlock = some g → v'.ownBlock ≠ some g) := fun x m hx hxn =>
    ⟨slk_other hx hg hxn, fun h0 g e => by
      rcases hat with q | q
      · rw [q]; exact hxn h0 g e
      · rw [q]
        have := slk_lt hk hk0 hx h0 e
        intro e2
        injection e2 with e2
        omega⟩
  refine ⟨by simp [h.len], by simpa using hown, fun j hj => ?_⟩
  by_cases hjl : j < L.length
  · obtain ⟨x, e, hx, hxn⟩ := h.each j hjl
    have e2 : (L ++ [l])[j] = L[j] := List.getElem_append_left hjl
    rw [e2]
    exact ⟨x, by rw [List.getElem?_append_left (by rw [h.len]; exact hjl)]; exact e, one x _ hx hxn⟩
  · have hjl' : j = L.length := by simp at hj; omega
    subst hjl'
    have e2 : (L ++ [l])[L.length] = l := by simp
    rw [e2]
    exact ⟨u, by rw [List.getElem?_append_right (by rw [h.len]; exact Nat.le_refl _), h.len]; simp, one u _ hs hn⟩
/-- A store into a block below the rows' own. -/
theorem RowsOK.put (hk : ∀ a, (enc a).length = k) (hk0 : 0 < k) (h : RowsOK enc k tG base W v us L) {p : Addr} (hp : p.block < base) (hb : ∀ j (hj : j < L.length), 0 < L[j].length → ∀ u, us[j]? = some u → u.ownBlock ≠ some p.block) (x : Value) : RowsOK enc k tG base (W.setCell p x) v us L := by
  refine ⟨h.len, ownsRow_setCell_below h.own hp x, fun j hj => ?_⟩
  obtain ⟨u, e, hs, hn⟩ := h.each j hj
  refine ⟨u, e, ?_, hn⟩
  obtain ⟨a, c, rfl, h1, h2, h3, h4⟩ := hs
  refine ⟨a, c, rfl, h1, h2, h3, fun h0 => ?_⟩
  obtain ⟨b, off, rfl, hr⟩ := h4 h0
  have hne : b ≠ p.block := fun q => hb j hj h0 _ e (by simp [Value.ownBlock, q])
  refine ⟨b, off, rfl, fun i hi q hq => ?_⟩
  rw [World.cell?_of_block (a := ⟨b, off + i * k + q, none⟩) (Below.heap_setCell _ _ _ _ hne)]
  exact hr i hi q hq
theorem RowsOK.rows (h : RowsOK enc k tG base W v us L) : RowsK enc k W v L :=
  ⟨us, h.len, own_sl (enc := oneV) (k := 1) (l := us) (fun _ => rfl) (by rw [oneV_flat]; exact h.own), fun j hj => by obtain ⟨u, e, hs, _⟩ := h.each j hj; exact ⟨u, e, hs⟩⟩
end

end Go.Proofs.YtgoggogcbjfofaaDoor
