import Derived.Test.YtgoggogcbjfofaaDoorFdCpY14

/- Layer 14: clearances in a mirrored grid, plain. No function of the program in sight. -/
namespace Go.Proofs.YtgoggogcbjfofaaDoor
open Go.RowKit
set_option linter.unusedVariables false

/-- The next direction, as a number. -/
def nxN (d : Nat) : Nat := (d + 1) % 4
theorem nxN_lt (d : Nat) : nxN d < 4 := Nat.mod_lt _ (by omega)
theorem nextD_nat {d : Nat} (h : d < 4) : nextD (d : Int) = ((nxN d : Nat) : Int) := by
  rcases (show d = 0 ∨ d = 1 ∨ d = 2 ∨ d = 3 by omega) with rfl | rfl | rfl | rfl <;> decide

section
variable {α β : Type} {go : α → Int → Option α} {go' : β → Int → Option β} {f : α → β} {p : Nat → Nat}
/-- Carried over with the directions turned. -/
structure MirP (go : α → Int → Option α) (go' : β → Int → Option β) (f : α → β) (p : Nat → Nat) : Prop where
  lt : ∀ d, d < 4 → p d < 4
  inv : ∀ d, d < 4 → p (p d) = d
  nxt : ∀ d, d < 4 → nxN (p (nxN d)) = p d
  goes : ∀ s (d : Nat), d < 4 → go' (f s) ((p d : Nat) : Int) = (go s (d : Int)).map f
  inj : ∀ s t, f s = f t → s = t
theorem rndP_mir (H : MirP go go' f p) (s : α) {d e : Nat} (hd : d < 4) (he : e < 4) : rndP go' (f s) ((p d : Nat) : Int) ((p e : Nat) : Int) = (rndP go s (d : Int) (e : Int)).map f := by
  unfold rndP
  rw [H.goes s d hd]
  cases q : go s (d : Int) with
  | none => rfl
  | some m => exact H.goes m e he
theorem go_mir (H : MirP go go' f p) (s : α) {d : Nat} (hd : d < 4) : go' (f s) (d : Int) = (go s ((p d : Nat) : Int)).map f := by
  have := H.goes s (p d) (H.lt d hd)
  rwa [H.inv d hd] at this
variable [DecidableEq α] [DecidableEq β]
theorem diaP_mir (H : MirP go go' f p) (s : α) {d e : Nat} (hd : d < 4) (he : e < 4) : diaP go' (f s) ((p d : Nat) : Int) ((p e : Nat) : Int) = (diaP go s (d : Int) (e : Int)).map f := by
  unfold diaP
  rw [rndP_mir H s hd he, rndP_mir H s he hd]
  cases p1 : rndP go s (d : Int) (e : Int) with
  | none => rfl
  | some t =>
    cases q : rndP go s (e : Int) (d : Int) with
    | none => rfl
    | some u =>
      show (if f t = f u then some (f t) else none) = (if t = u then some t else none).map f
      by_cases e1 : t = u
      · subst e1; simp
      · rw [if_neg e1, if_neg (fun e2 => e1 (H.inj t u e2))]
        rfl
/-- The diagonals over there are those here. -/
theorem dia_mir (H : MirP go go' f p) (s : α) {d : Nat} (hd : d < 4) : diaP go' (f s) (d : Int) (nextD (d : Int)) = (diaP go s ((p (nxN d) : Nat) : Int) (nextD ((p (nxN d) : Nat) : Int))).map f := by
  have h1 := nxN_lt d
  have h2 := H.lt _ h1
  rw [nextD_nat hd, nextD_nat h2, H.nxt d hd, diaP_comm (go := go)]
  have := diaP_mir H s (H.lt d hd) h2
  rw [H.inv d hd, H.inv _ h1] at this
  exact this
theorem dia_mir2 (H : MirP go go' f p) (s : α) {d : Nat} (hd : d < 4) : diaP go' (f s) ((p (nxN d) : Nat) : Int) (nextD ((p (nxN d) : Nat) : Int)) = (diaP go s (d : Int) (nextD (d : Int))).map f := by
  rw [nextD_nat (H.lt _ (nxN_lt d)), H.nxt d hd, diaP_comm, diaP_mir H s hd (nxN_lt d), ← nextD_nat hd]
theorem mem_mir (H : MirP go go' f p) (s : α) {u : β} : u ∈ arP go' (f s) ↔ ∃ t ∈ arP go s, u = f t := by
  unfold arP
  constructor
  · intro h
    obtain ⟨d, hd, q | q⟩ := mem_arN.1 h
    · rw [go_mir H s hd] at q
      obtain ⟨t, ht, e⟩ := Option.map_eq_some_iff.1 q
      exact ⟨t, mem_arN.2 ⟨p d, H.lt d hd, .inl ht⟩, e.symm⟩
    · rw [dia_mir H s hd] at q
      obtain ⟨t, ht, e⟩ := Option.map_eq_some_iff.1 q
      exact ⟨t, mem_arN.2 ⟨p (nxN d), H.lt _ (nxN_lt d), .inr ht⟩, e.symm⟩
  · rintro ⟨t, h, rfl⟩
    obtain ⟨d, hd, q | q⟩ := mem_arN.1 h
    · exact mem_arN.2 ⟨p d, H.lt d hd, .inl (by rw [H.goes s d hd, q]; rfl)⟩
    · exact mem_arN.2 ⟨p (nxN d), H.lt _ (nxN_lt d), .inr (by rw [dia_mir2 H s hd, q]; rfl)⟩
theorem ful_mir (H : MirP go go' f p) (s : α) : fulP go' (f s) = fulP go s := by
  rw [Bool.eq_iff_iff, fulP_iff, fulP_iff]
  constructor
  · intro h d hd
    obtain ⟨⟨t, ht⟩, -⟩ := h (p d) (H.lt d hd)
    obtain ⟨-, u, hu⟩ := h (p (nxN d)) (H.lt _ (nxN_lt d))
    rw [H.goes s d hd] at ht
    obtain ⟨t', ht', -⟩ := Option.map_eq_some_iff.1 ht
    rw [dia_mir2 H s hd] at hu
    obtain ⟨u', hu', -⟩ := Option.map_eq_some_iff.1 hu
    exact ⟨⟨t', ht'⟩, u', hu'⟩
  · intro h d hd
    obtain ⟨⟨t, ht⟩, -⟩ := h (p d) (H.lt d hd)
    obtain ⟨-, u, hu⟩ := h (p (nxN d)) (H.lt _ (nxN_lt d))
    exact ⟨⟨f t, by rw [go_mir H s hd, ht]; rfl⟩, f u, by rw [dia_mir H s hd, hu]; rfl⟩
theorem geB_mir (H : MirP go go' f p) : ∀ (n : Nat) (s : α), geB go' n (f s) = geB go n s
  | 0, _ => rfl
  | n + 1, s => by
    rw [Bool.eq_iff_iff, geB_succ, geB_succ, ful_mir H]
    constructor
    · rintro ⟨h1, h2⟩
      exact ⟨h1, fun t ht => by rw [← geB_mir H n t]; exact h2 _ ((mem_mir H s).2 ⟨t, ht, rfl⟩)⟩
    · rintro ⟨h1, h2⟩
      refine ⟨h1, fun u hu => ?_⟩
      obtain ⟨t, ht, rfl⟩ := (mem_mir H s).1 hu
      rw [geB_mir H n t]
      exact h2 t ht
theorem clr_mir (H : MirP go go' f p) : ∀ (m : Nat) (s : α), clr go' m (f s) = clr go m s
  | 0, _ => rfl
  | m + 1, s => by rw [clr, clr, geB_mir H, clr_mir H m]
end

/-- Where a place of the mirrored grid lies in the grid. -/
def mirS (G : Gd) (how : Nat) (s : Sd) : Sd := if how = 0 then ⟨G.x + G.w - 1 - s.x, G.z + s.z, s.k⟩ else if how = 1 then ⟨G.x + s.x, G.z + G.d - 1 - s.z, s.k⟩ else ⟨G.x + s.z, G.z + s.x, s.k⟩
def mirD (how d : Nat) : Nat := if how = 0 then (if d = 0 then 2 else if d = 2 then 0 else d) else if how = 1 then (if d = 1 then 3 else if d = 3 then 1 else d) else (if d = 0 then 1 else if d = 1 then 0 else if d = 2 then 3 else if d = 3 then 2 else d)
def mirW (G : Gd) (how : Nat) : Int := if how = 2 then G.d else G.w
def mirH (G : Gd) (how : Nat) : Int := if how = 2 then G.w else G.d
/-- The row and the place in it, in the grid, of a column of the mirrored one. -/
def mirA (G : Gd) (how x z : Nat) : Nat := if how = 0 then z else if how = 1 then G.d.toNat - 1 - z else x
def mirB (G : Gd) (how x z : Nat) : Nat := if how = 0 then G.w.toNat - 1 - x else if how = 1 then x else z
def mirI (G : Gd) (how i : Nat) : Nat := mirA G how (i % (mirW G how).toNat) (i / (mirW G how).toNat) * G.w.toNat + mirB G how (i % (mirW G how).toNat) (i / (mirW G how).toNat)
def mirL (G : Gd) (how n : Nat) : List (List Fl) := (List.range n).map fun i => gcol G (mirI G how i)
theorem mirL_len (G : Gd) (how n : Nat) : (mirL G how n).length = n := by unfold mirL; simp
theorem mirL_succ (G : Gd) (how n : Nat) : mirL G how (n + 1) = mirL G how n ++ [gcol G (mirI G how n)] := by
  unfold mirL
  rw [List.range_succ, List.map_append]
  rfl
def mirG (G : Gd) (how : Nat) (ga : Option Addr) (gc : Nat) : Gd := ⟨0, 0, mirW G how, mirH G how, mirL G how ((mirH G how).toNat * (mirW G how).toNat), ga, gc⟩

theorem mir_len {G : Gd} (hE : gE G = 0) {how : Nat} (hh : how < 3) : G.L.length = G.d.toNat * G.w.toNat := by
  obtain ⟨hpl, hl, -⟩ := gd_is hE
  have hb := placeB_iff.1 hpl
  have e1 : ((G.d.toNat * G.w.toNat : Nat) : Int) = G.d * G.w := by
    rw [Int.natCast_mul, Int.toNat_of_nonneg (by omega), Int.toNat_of_nonneg (by omega)]
  rw [Int.mul_comm] at hl
  omega
theorem mir_wh {G : Gd} (hE : gE G = 0) {how : Nat} (hh : how < 3) : (0 ≤ mirW G how ∧ mirW G how ≤ 64) ∧ (0 ≤ mirH G how ∧ mirH G how ≤ 64) ∧ (mirH G how).toNat * (mirW G how).toNat = G.d.toNat * G.w.toNat := by
  have hb := placeB_iff.1 (gd_is hE).1
  unfold mirW mirH
  split
  · exact ⟨by omega, by omega, Nat.mul_comm _ _⟩
  · exact ⟨by omega, by omega, rfl⟩
/-- Which row and place these are. -/
theorem mir_ab {G : Gd} (hE : gE G = 0) {how : Nat} (hh : how < 3) {x z : Nat} (hx : x < (mirW G how).toNat) (hz : z < (mirH G how).toNat) : mirA G how x z < G.d.toNat ∧ mirB G how x z < G.w.toNat := by
  unfold mirW at hx
  unfold mirH at hz
  unfold mirA mirB
  rcases (show how = 0 ∨ how = 1 ∨ how = 2 by omega) with rfl | rfl | rfl <;> simp at hx hz ⊢ <;> omega
theorem mir_i {G : Gd} (hE : gE G = 0) {how : Nat} (hh : how < 3) {i : Nat} (hi : i < G.d.toNat * G.w.toNat) : i % (mirW G how).toNat < (mirW G how).toNat ∧ i / (mirW G how).toNat < (mirH G how).toNat ∧ 0 < (mirW G how).toNat := by
  have h1 := (mir_wh hE hh).2.2
  have h0 : 0 < (mirW G how).toNat := by
    rcases Nat.eq_zero_or_pos (mirW G how).toNat with q | q
    · rw [q, Nat.mul_zero] at h1
      omega
    · exact q
  refine ⟨Nat.mod_lt _ h0, ?_, h0⟩
  rw [Nat.div_lt_iff_lt_mul h0, h1]
  exact hi
theorem mir_lt {G : Gd} (hE : gE G = 0) {how : Nat} (hh : how < 3) {i : Nat} (hi : i < G.d.toNat * G.w.toNat) : mirI G how i < G.d.toNat * G.w.toNat := by
  obtain ⟨h1, h2, h3⟩ := mir_i hE hh hi
  obtain ⟨h4, h5⟩ := mir_ab hE hh h1 h2
  unfold mirI
  have h6 : (mirA G how (i % (mirW G how).toNat) (i / (mirW G how).toNat) + 1) * G.w.toNat ≤ G.d.toNat * G.w.toNat := Nat.mul_le_mul_right _ (by omega)
  rw [Nat.add_mul] at h6
  omega
theorem mir_ok {G : Gd} (hE : gE G = 0) {how : Nat} (hh : how < 3) (ga : Option Addr) (gc : Nat) : gE (mirG G how ga gc) = 0 := by
  obtain ⟨h1, h2, h3⟩ := mir_wh hE hh
  have hl := mir_len hE hh
  refine gd_fine (placeB_iff.2 ⟨?_, ?_, h1, h2⟩) ?_ ?_
  · show -64 ≤ (0 : Int) ∧ (0 : Int) ≤ 64
    omega
  · show -64 ≤ (0 : Int) ∧ (0 : Int) ≤ 64
    omega
  · show ((mirL G how ((mirH G how).toNat * (mirW G how).toNat)).length : Int) = mirW G how * mirH G how
    rw [mirL_len, Int.natCast_mul, Int.toNat_of_nonneg h1.1, Int.toNat_of_nonneg h2.1, Int.mul_comm]
  · intro j hj
    have hj2 : j < (mirH G how).toNat * (mirW G how).toNat := by
      have : (mirG G how ga gc).L.length = (mirH G how).toNat * (mirW G how).toNat := mirL_len _ _ _
      omega
    have e : (mirG G how ga gc).L[j] = gcol G (mirI G how j) := by
      show (mirL G how ((mirH G how).toNat * (mirW G how).toNat))[j]'(by rw [mirL_len]; exact hj2) = _
      unfold mirL
      rw [List.getElem_map, List.getElem_range]
    have h4 : mirI G how j < G.L.length := by rw [hl]; exact mir_lt hE hh (by omega)
    rw [e, gcol_at h4]
    exact (gd_is hE).2.2 _ _
theorem mir_gcol {G : Gd} (hE : gE G = 0) {how : Nat} (hh : how < 3) {ga : Option Addr} {gc i : Nat} (hi : i < G.d.toNat * G.w.toNat) : gcol (mirG G how ga gc) i = gcol G (mirI G how i) := by
  have h := (mir_wh hE hh).2.2
  show ((mirL G how ((mirH G how).toNat * (mirW G how).toNat))[i]?).getD [] = _
  unfold mirL
  rw [List.getElem?_map, List.getElem?_range (by omega)]
  rfl
theorem mir_in {G : Gd} (hE : gE G = 0) {how : Nat} (hh : how < 3) {ga : Option Addr} {gc : Nat} (s : Sd) : inG (mirG G how ga gc) s.x s.z = inG G (mirS G how s).x (mirS G how s).z := by
  rw [Bool.eq_iff_iff, inG_iff, inG_iff]
  show ((0 : Int) ≤ s.x ∧ s.x ≤ 0 + mirW G how - 1) ∧ (0 : Int) ≤ s.z ∧ s.z ≤ 0 + mirH G how - 1 ↔ _
  unfold mirW mirH mirS
  rcases (show how = 0 ∨ how = 1 ∨ how = 2 by omega) with rfl | rfl | rfl <;> simp <;> omega
theorem mir_at {G : Gd} (hE : gE G = 0) {how : Nat} (hh : how < 3) {ga : Option Addr} {gc : Nat} (s : Sd) : atG (mirG G how ga gc) s.x s.z = atG G (mirS G how s).x (mirS G how s).z := by
  have hM := mir_ok hE hh ga gc
  have e := mir_in hE hh (ga := ga) (gc := gc) s
  cases h : inG (mirG G how ga gc) s.x s.z
  · rw [atG_out h, atG_out (by rw [← e]; exact h)]
  · have h2 : inG G (mirS G how s).x (mirS G how s).z = true := by rw [← e]; exact h
    rw [atG_col hM h, atG_col hE h2]
    have i1 := ixG_is hM h
    have i2 := ixG_is hE h2
    have q1 := inG_iff.1 h
    have q2 := inG_iff.1 h2
    have hb := placeB_iff.1 (gd_is hE).1
    obtain ⟨w1, w2, w3⟩ := mir_wh hE hh
    replace q1 : ((0 : Int) ≤ s.x ∧ s.x ≤ 0 + mirW G how - 1) ∧ (0 : Int) ≤ s.z ∧ s.z ≤ 0 + mirH G how - 1 := q1
    obtain ⟨a, ha⟩ : ∃ a : Nat, s.x = a := ⟨s.x.toNat, by omega⟩
    obtain ⟨b, hb2⟩ : ∃ b : Nat, s.z = b := ⟨s.z.toNat, by omega⟩
    have haw : a < (mirW G how).toNat := by omega
    have hbh : b < (mirH G how).toNat := by omega
    have e1 : ixG (mirG G how ga gc) s.x s.z = a + b * (mirW G how).toNat := by
      have : ((ixG (mirG G how ga gc) s.x s.z : Nat) : Int) = ((a + b * (mirW G how).toNat : Nat) : Int) := by
        rw [i1.2.2.1, Int.natCast_add, Int.natCast_mul, Int.toNat_of_nonneg w1.1]
        show (s.z - 0) * mirW G how + (s.x - 0) = _
        rw [ha, hb2]
        simp only [Int.sub_zero]
        omega
      exact Int.ofNat_inj.1 this
    have hlt : a + b * (mirW G how).toNat < G.d.toNat * G.w.toNat := by
      have h3 : (b + 1) * (mirW G how).toNat ≤ (mirH G how).toNat * (mirW G how).toNat := Nat.mul_le_mul_right _ (by omega)
      rw [Nat.add_mul] at h3
      omega
    rw [e1, mir_gcol hE hh hlt]
    unfold mirI
    rw [Nat.add_mul_mod_self_right, Nat.mod_eq_of_lt haw, Nat.add_mul_div_right _ _ (by omega), Nat.div_eq_of_lt haw, Nat.zero_add]
    congr 1
    obtain ⟨m1, m2⟩ := mir_ab hE hh haw hbh
    have hA : ((mirA G how a b : Nat) : Int) = (mirS G how s).z - G.z := by
      unfold mirW mirH at *
      unfold mirA mirS at *
      rcases (show how = 0 ∨ how = 1 ∨ how = 2 by omega) with rfl | rfl | rfl <;> simp at * <;> omega
    have hB : ((mirB G how a b : Nat) : Int) = (mirS G how s).x - G.x := by
      unfold mirW mirH at *
      unfold mirB mirS at *
      rcases (show how = 0 ∨ how = 1 ∨ how = 2 by omega) with rfl | rfl | rfl <;> simp at * <;> omega
    have : ((mirA G how a b * G.w.toNat + mirB G how a b : Nat) : Int) = ((ixG G (mirS G how s).x (mirS G how s).z : Nat) : Int) := by
      rw [i2.2.2.1, Int.natCast_add, Int.natCast_mul, Int.toNat_of_nonneg (by omega), hA, hB]
    exact Int.ofNat_inj.1 this
theorem mir_step {G : Gd} (hE : gE G = 0) {how : Nat} (hh : how < 3) (s : Sd) {d : Nat} (hd : d < 4) (k : Int) : mirS G how ⟨s.x + dxD d, s.z + dzD d, k⟩ = ⟨(mirS G how s).x + dxD ((mirD how d : Nat) : Int), (mirS G how s).z + dzD ((mirD how d : Nat) : Int), k⟩ := by
  unfold mirS mirD
  rcases (show how = 0 ∨ how = 1 ∨ how = 2 by omega) with rfl | rfl | rfl <;> rcases (show d = 0 ∨ d = 1 ∨ d = 2 ∨ d = 3 by omega) with rfl | rfl | rfl | rfl <;> simp [dxD, dzD] <;> omega
theorem mir_k {G : Gd} (hE : gE G = 0) {how : Nat} (hh : how < 3) (s : Sd) : (mirS G how s).k = s.k := by
  unfold mirS
  split
  · rfl
  · split <;> rfl
theorem mir_fl {G : Gd} (hE : gE G = 0) {how : Nat} (hh : how < 3) {ga : Option Addr} {gc : Nat} (s : Sd) : flG G (mirS G how s) = flG (mirG G how ga gc) s := by
  unfold flG
  rw [mir_k hE hh s, mir_at hE hh s]
theorem mir_okD {G : Gd} (hE : gE G = 0) {how : Nat} (hh : how < 3) {d : Nat} (hd : d < 4) : okD (d : Int) = true := by
  rcases (show d = 0 ∨ d = 1 ∨ d = 2 ∨ d = 3 by omega) with rfl | rfl | rfl | rfl <;> decide
theorem mirD_lt {G : Gd} (hE : gE G = 0) {how : Nat} (hh : how < 3) {d : Nat} (hd : d < 4) : mirD how d < 4 := by
  rcases (show how = 0 ∨ how = 1 ∨ how = 2 by omega) with rfl | rfl | rfl <;> rcases (show d = 0 ∨ d = 1 ∨ d = 2 ∨ d = 3 by omega) with rfl | rfl | rfl | rfl <;> decide
theorem mir_to {G : Gd} (hE : gE G = 0) {how : Nat} (hh : how < 3) (C : CfgR) {ga : Option Addr} {gc : Nat} (s : Sd) {d : Nat} (hd : d < 4) : toS C G (mirS G how s) ((mirD how d : Nat) : Int) = (toS C (mirG G how ga gc) s (d : Int)).map (mirS G how) := by
  have hs := mir_step hE hh s hd 0
  have hx : (mirS G how s).x + dxD ((mirD how d : Nat) : Int) = (mirS G how ⟨s.x + dxD d, s.z + dzD d, 0⟩).x := by rw [hs]
  have hz : (mirS G how s).z + dzD ((mirD how d : Nat) : Int) = (mirS G how ⟨s.x + dxD d, s.z + dzD d, 0⟩).z := by rw [hs]
  unfold toS
  rw [mir_fl hE hh (ga := ga) (gc := gc) s]
  cases flG (mirG G how ga gc) s with
  | none => rfl
  | some a =>
    simp only
    rw [if_pos (mir_okD hE hh (mirD_lt hE hh hd)), if_pos (mir_okD hE hh hd), Option.map_map]
    rw [show atG G ((mirS G how s).x + dxD ((mirD how d : Nat) : Int)) ((mirS G how s).z + dzD ((mirD how d : Nat) : Int)) = atG (mirG G how ga gc) (s.x + dxD d) (s.z + dzD d) by
      rw [hx, hz]
      exact (mir_at hE hh (ga := ga) (gc := gc) ⟨s.x + dxD d, s.z + dzD d, 0⟩).symm]
    congr 1
    funext n
    exact (mir_step hE hh s hd n).symm
theorem mir_inj {G : Gd} (hE : gE G = 0) {how : Nat} (hh : how < 3) (s t : Sd) (h : mirS G how s = mirS G how t) : s = t := by
  obtain ⟨a0, a1, a2⟩ := s
  obtain ⟨b0, b1, b2⟩ := t
  unfold mirS at h
  rcases (show how = 0 ∨ how = 1 ∨ how = 2 by omega) with rfl | rfl | rfl <;> simp at h ⊢ <;> omega
theorem mir_P {G : Gd} (hE : gE G = 0) {how : Nat} (hh : how < 3) (C : CfgR) (ga : Option Addr) (gc : Nat) : MirP (toS C (mirG G how ga gc)) (toS C G) (mirS G how) (mirD how) where
  lt := fun d hd => mirD_lt hE hh hd
  inv := fun d hd => by
    rcases (show how = 0 ∨ how = 1 ∨ how = 2 by omega) with rfl | rfl | rfl <;> rcases (show d = 0 ∨ d = 1 ∨ d = 2 ∨ d = 3 by omega) with rfl | rfl | rfl | rfl <;> decide
  nxt := fun d hd => by
    rcases (show how = 0 ∨ how = 1 ∨ how = 2 by omega) with rfl | rfl | rfl <;> rcases (show d = 0 ∨ d = 1 ∨ d = 2 ∨ d = 3 by omega) with rfl | rfl | rfl | rfl <;> decide
  goes := fun s d hd => mir_to hE hh C s hd
  inj := mir_inj hE hh
theorem mir_sd {G : Gd} (hE : gE G = 0) {how : Nat} (hh : how < 3) {ga : Option Addr} {gc i : Nat} (hi : i < G.d.toNat * G.w.toNat) (k : Nat) : sdI G (mirI G how i) k = mirS G how (sdI (mirG G how ga gc) i k) := by
  obtain ⟨h1, h2, h3⟩ := mir_i hE hh hi
  obtain ⟨h4, h5⟩ := mir_ab hE hh h1 h2
  have hb := placeB_iff.1 (gd_is hE).1
  have e1 : sdI (mirG G how ga gc) i k = ⟨((i % (mirW G how).toNat : Nat) : Int), ((i / (mirW G how).toNat : Nat) : Int), k⟩ := by
    unfold sdI mirG
    simp
  have e2 : sdI G (mirI G how i) k = ⟨G.x + ((mirB G how (i % (mirW G how).toNat) (i / (mirW G how).toNat) : Nat) : Int), G.z + ((mirA G how (i % (mirW G how).toNat) (i / (mirW G how).toNat) : Nat) : Int), k⟩ := by
    unfold sdI mirI
    rw [Nat.add_comm, Nat.add_mul_mod_self_right, Nat.mod_eq_of_lt h5, Nat.add_mul_div_right _ _ (by omega), Nat.div_eq_of_lt h5, Nat.zero_add]
  rw [e1, e2]
  clear e1 e2
  generalize i % (mirW G how).toNat = a at *
  generalize i / (mirW G how).toNat = b at *
  unfold mirW at h1
  unfold mirH at h2
  unfold mirA mirB mirS
  rcases (show how = 0 ∨ how = 1 ∨ how = 2 by omega) with rfl | rfl | rfl <;> simp at h1 h2 ⊢ <;> omega
theorem mir_row {G : Gd} (hE : gE G = 0) {how : Nat} (hh : how < 3) (C : CfgR) {ga : Option Addr} {gc i : Nat} (hi : i < G.d.toNat * G.w.toNat) : fdC C (mirG G how ga gc) i = fdC C G (mirI G how i) := by
  unfold fdC
  rw [mir_gcol hE hh hi]
  refine List.map_congr_left (fun k _ => ?_)
  rw [mir_sd hE hh (ga := ga) (gc := gc) hi k, clr_mir (mir_P hE hh C ga gc)]
/-- The rows of clearances of the mirrored grid. -/
theorem mir_rows {G : Gd} (hE : gE G = 0) {how : Nat} (hh : how < 3) (C : CfgR) (ga : Option Addr) (gc i : Nat) (hi : i < G.d.toNat * G.w.toNat) : ∃ (h1 : mirI G how i < (fdL C G).length), ∃ (h2 : i < (fdL C (mirG G how ga gc)).length), (fdL C (mirG G how ga gc))[i] = (fdL C G)[mirI G how i] := by
  have hl := mir_len hE hh
  have h3 := (mir_wh hE hh).2.2
  refine ⟨by rw [fdL_len, hl]; exact mir_lt hE hh hi, by rw [fdL_len]; show i < (mirL G how _).length; rw [mirL_len]; omega, ?_⟩
  rw [fdL_row, fdL_row]
  exact mir_row hE hh C hi

end Go.Proofs.YtgoggogcbjfofaaDoor
