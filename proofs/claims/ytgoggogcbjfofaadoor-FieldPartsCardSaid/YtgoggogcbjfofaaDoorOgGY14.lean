import Derived.Test.YtgoggogcbjfofaaDoorOgAY14
import Derived.Test.YtgoggogcbjfofaaDoorFlat

/- Rows of rows that are read: grids. No function of the program in sight. -/
namespace Go.Proofs.YtgoggogcbjfofaaDoor
open Go.ChangeShapes Go.WideShapes Go.RowKit Go.Deep
set_option linter.unusedVariables false

def oneV (u : Value) : List Value := [u]
theorem oneV_flat (us : List Value) : us.flatMap oneV = us := by
  induction us with
  | nil => rfl
  | cons u us ih => rw [List.flatMap_cons, ih]; rfl

section
variable {α : Type}
/-- Rows, in a row. -/
def RowsK (enc : α → List Value) (k : Nat) (w : World) (v : Value) (L : List (List α)) : Prop := ∃ us : List Value, us.length = L.length ∧ Sl oneV 1 w v us ∧ ∀ j (h : j < L.length), ∃ u, us[j]? = some u ∧ Sl enc k w u L[j]
theorem RowsK.keep {enc : α → List Value} {k : Nat} {w w' : World} {v : Value} {L : List (List α)} (h : RowsK enc k w v L) (n : New w w') : RowsK enc k w' v L := by
  obtain ⟨us, h1, h2, h3⟩ := h
  exact ⟨us, h1, h2.keep n, fun j hj => by obtain ⟨u, e, hs⟩ := h3 j hj; exact ⟨u, e, hs.keep n⟩⟩
theorem RowsK.nil {enc : α → List Value} {k : Nat} {w : World} : RowsK enc k w (.slice none 0 0) [] := ⟨[], rfl, Sl.nil, fun j h => absurd h (by simp)⟩
theorem RowsK.shape {enc : α → List Value} {k : Nat} {w : World} {v : Value} {L : List (List α)} (h : RowsK enc k w v L) : ∃ a c, v = .slice a L.length c := by
  obtain ⟨us, h1, ⟨a, c, e, -⟩, -⟩ := h
  exact ⟨a, c, by rw [← h1]; exact e⟩
/-- The j-th row of the rows. -/
theorem RowsK.at {enc : α → List Value} {k n c : Nat} {w : World} {ga : Option Addr} {L : List (List α)} (h : RowsK enc k w (.slice ga n c) L) (j : Nat) (hj : j < L.length) :
    ∃ b off a d, ga = some ⟨b, off, none⟩ ∧ w.cell? ⟨b, off + j, none⟩ = some (.slice a L[j].length d) ∧ Sl enc k w (.slice a L[j].length d) L[j] := by
  obtain ⟨us, h1, h2, h3⟩ := h
  obtain ⟨u, hu, hs⟩ := h3 j hj
  obtain ⟨a, d, rfl, hs2⟩ := id hs
  obtain ⟨-, -, -, -, hr⟩ := h2.row'
  have hju : j < us.length := by rw [h1]; exact hj
  obtain ⟨b, off, rfl, ha⟩ := hr (by omega)
  refine ⟨b, off, a, d, rfl, ?_, hs⟩
  have hc := ha j hju 0 (by simp [oneV])
  rw [Nat.mul_one, Nat.add_zero] at hc
  rw [hc]
  congr 1
  show us[j] = _
  rw [List.getElem?_eq_getElem hju] at hu
  exact Option.some.inj hu
theorem RowsK.addr {enc : α → List Value} {k n c : Nat} {w : World} {ga : Option Addr} {L : List (List α)} (h : RowsK enc k w (.slice ga n c) L) (h0 : 0 < L.length) : ∃ b off, ga = some ⟨b, off, none⟩ := by
  obtain ⟨b, off, -, -, e, -⟩ := h.at 0 h0
  exact ⟨b, off, e⟩

/-- Rows of rows of structs that came in. -/
theorem open_rows [Inhabited α] {H : Type} {enc : TypeId × Value → H} {P : Program} {w : World} {base : Nat} {spare : Nat → Bool} {held : Bool} {t s e : TypeId} {cs : List Value} {x : DataW H × List MemPlace} {fuel : Nat} {ks : List Kd} (en : α → List Value) (k : Nat) (hkl : ∀ a, (en a).length = k) (hk0 : 0 < k)
    (ht : P.underlying t = some (.slice s)) (hsc : P.cellsOf s = 1) (hs : P.underlying s = some (.slice e)) (hce : P.cellsOf e = k) (hk : flat P 64 e = some ks) (hen : ∀ vs, Fits ks vs → ∃ a, en a = vs) (h : DataW.trod enc P w base spare held fuel t cs = some x) : ∃ (v : Value) (L : List (List α)), cs = [v] ∧ RowsK en k w v L := by
  rcases open_slice ht h with ⟨hc, _⟩ | ⟨a', len', cap', m, n', D, Pl, hc, hb, hl, hm, hmm, _, hx⟩
  · exact ⟨_, [], hc, RowsK.nil⟩
  · have hlm : len' ≤ m := by rw [hmm]; split <;> omega
    have each : ∀ i, i < len' → ∃ q : Value × List α, w.cell? (a'.add i) = some q.1 ∧ Sl en k w q.1 q.2 := fun i hi => by
      obtain ⟨cs', g1, g2⟩ := hx i (by omega)
      rw [hsc] at g1
      obtain ⟨_, hlen, hcell⟩ := World.cells?_some g1
      obtain ⟨v, l, rfl, hsl⟩ := open_row en k hkl hk0 hs hce hk hen g2
      refine ⟨(v, l), ?_, hsl⟩
      have := hcell 0 (by omega)
      simpa [Addr.add_zero'] using this
    obtain ⟨f, hf⟩ := choose_lt each
    obtain ⟨ab, ao, as'⟩ := a'
    refine ⟨_, (List.range len').map fun i => (f i).2, hc, (List.range len').map fun i => (f i).1, by simp, ⟨some ⟨ab, ao, as'⟩, cap', by simp, by simpa using hl, hm, fun h => (by cases h), fun h0 => ?_⟩, fun j hj => ?_⟩
    · simp only [List.length_map, List.length_range] at h0
      have hs : as' = none := by
        have h1 := (hf 0 h0).1
        cases as' with
        | none => rfl
        | some x =>
          rw [Addr.add_zero'] at h1
          exact absurd (spot_none h1) (by simp)
      subst hs
      refine ⟨ab, ao, rfl, fun j hj i hi => ?_⟩
      simp only [List.length_map, List.length_range] at hj
      have hi0 : i = 0 := by simp [oneV] at hi; exact hi
      subst hi0
      have := (hf j hj).1
      simp only [add_none] at this
      simpa [oneV] using this
    · simp only [List.length_map, List.length_range] at hj
      refine ⟨(f j).1, by simp [hj], ?_⟩
      simp only [List.getElem_map, List.getElem_range]
      exact (hf j hj).2
end

theorem fl_of (vs : List Value) (h : Fits [.num .i64, .num .i64, .num .i64] vs) : ∃ a : Fl, a.enc = vs := by
  obtain ⟨_, _, e0, ⟨a0, rfl, _⟩, h0⟩ := h.cons
  obtain ⟨_, _, e1, ⟨a1, rfl, _⟩, h1⟩ := h0.cons
  obtain ⟨_, _, e2, ⟨a2, rfl, _⟩, h2⟩ := h1.cons
  have en := h2.nil
  subst en
  subst e2
  subst e1
  subst e0
  exact ⟨⟨a0, a1, a2⟩, rfl⟩

/-- A grid, as it is handed. -/
structure Gd where
  (x z w d : Int)
  L : List (List Fl)
  ga : Option Addr
  gc : Nat
def Gd.ok (G : Gd) (w : World) : Prop := RowsK Fl.enc 3 w (.slice G.ga G.L.length G.gc) G.L
def Gd.enc (G : Gd) : List Value := #[.int .i64 G.x, .int .i64 G.z, .int .i64 G.w, .int .i64 G.d, .slice G.ga G.L.length G.gc].toList
theorem Gd.enc_len (G : Gd) : G.enc.length = 5 := rfl
theorem Gd.at {w : World} {b : Nat} {G : Gd} (h : CellsAt w b 0 G.enc) : w.cell? ⟨b, 0, none⟩ = some (.int .i64 G.x) ∧ w.cell? ⟨b, 1, none⟩ = some (.int .i64 G.z) ∧ w.cell? ⟨b, 2, none⟩ = some (.int .i64 G.w) ∧ w.cell? ⟨b, 3, none⟩ = some (.int .i64 G.d) ∧ w.cell? ⟨b, 4, none⟩ = some (.slice G.ga G.L.length G.gc) :=
  ⟨h 0 (by rw [Gd.enc_len]; omega), h 1 (by rw [Gd.enc_len]; omega), h 2 (by rw [Gd.enc_len]; omega), h 3 (by rw [Gd.enc_len]; omega), h 4 (by rw [Gd.enc_len]; omega)⟩

set_option maxRecDepth 100000 in
set_option maxHeartbeats 1000000 in
theorem open_grid {H : Type} {enc : TypeId × Value → H} {w : World} {base : Nat} {spare : Nat → Bool} {held : Bool} {r : Reach} {b0 : Nat} {v : Value} {d : DataW H} {p : List MemPlace}
    (hv : Value.okWide Tryd.prog w r b0 26 v) (h : DataW.Trod enc Tryd.prog w base spare held 26 v d p) : ∃ G : Gd, v = .agg #[.int .i64 G.x, .int .i64 G.z, .int .i64 G.w, .int .i64 G.d, .slice G.ga G.L.length G.gc] ∧ G.ok w := by
  obtain ⟨cs, rfl, _⟩ := okWide_struct Tryd.underlying26 hv
  obtain ⟨fuel, hf⟩ := h
  obtain ⟨xs, m', _, _, hlen, hxs, hi⟩ := DataW.trod_struct Tryd.underlying26 hf
  have hx3 : xs.length = 5 := hxs
  have h0 := hi 0 _ rfl
  have h1 := hi 1 _ rfl
  have h2 := hi 2 _ rfl
  have h3 := hi 3 _ rfl
  have h4 := hi 4 _ rfl
  rw [List.getElem?_eq_getElem (by omega)] at h0 h1 h2 h3 h4
  have q0 := fits_flat (ks := [.num .i64]) 64 (by kernel_rfl) h0
  have q1 := fits_flat (ks := [.num .i64]) 64 (by kernel_rfl) h1
  have q2 := fits_flat (ks := [.num .i64]) 64 (by kernel_rfl) h2
  have q3 := fits_flat (ks := [.num .i64]) 64 (by kernel_rfl) h3
  obtain ⟨v4, L, e4, s4⟩ := open_rows Fl.enc 3 Fl.enc_len (by omega) Tryd.underlying24 (by kernel_rfl) Tryd.underlying44 (by kernel_rfl) (by kernel_rfl) fl_of h4
  have ci : Tryd.prog.cellsOf 3 = 1 := by kernel_rfl
  have cr : Tryd.prog.cellsOf 24 = 1 := by kernel_rfl
  have cg : Tryd.prog.cellsOf 26 = 5 := by kernel_rfl
  have hl : cs.toList.length = 5 := by rw [← cg]; exact hlen
  have f0 : Fits [.num .i64] ((cs.toList.drop 0).take 1) := by rw [← ci]; exact q0
  have f1 : Fits [.num .i64] ((cs.toList.drop 1).take 1) := by rw [← ci]; exact q1
  have f2 : Fits [.num .i64] ((cs.toList.drop 2).take 1) := by rw [← ci]; exact q2
  have f3 : Fits [.num .i64] ((cs.toList.drop 3).take 1) := by rw [← ci]; exact q3
  have f4 : (cs.toList.drop 4).take 1 = [v4] := by rw [← cr]; exact e4
  obtain ⟨l⟩ := cs
  simp only at hl f0 f1 f2 f3 f4
  match l, hl with
  | [y0, y1, y2, y3, y4], _ =>
    simp at f0 f1 f2 f3 f4
    subst f4
    obtain ⟨⟨x, rfl, -⟩, -⟩ := f0
    obtain ⟨⟨z, rfl, -⟩, -⟩ := f1
    obtain ⟨⟨wi, rfl, -⟩, -⟩ := f2
    obtain ⟨⟨dp, rfl, -⟩, -⟩ := f3
    obtain ⟨a, c, rfl⟩ := s4.shape
    exact ⟨⟨x, z, wi, dp, L, a, c⟩, rfl, s4⟩

end Go.Proofs.YtgoggogcbjfofaaDoor
