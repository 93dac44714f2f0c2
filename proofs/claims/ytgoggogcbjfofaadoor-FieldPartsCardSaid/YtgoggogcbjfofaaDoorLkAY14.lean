import Derived.Test.YtgoggogcbjfofaaDoorOgIY14
import Derived.RangeFuncNested
import Derived.Test.YtgoggogcbjfofaaDoorSlAppY14
import Derived.Test.YtgoggogcbjfofaaDoorSoCY14

/- Package open: columnsOf, at. -/
namespace Go.Proofs.YtgoggogcbjfofaaDoor
open Go.RowKit
set_option linter.unusedVariables false

def Gd.zero : Gd := ⟨0, 0, 0, 0, [], none, 0⟩
theorem Gd.zero_ok (w : World) : Gd.zero.ok w := RowsK.nil
theorem Gd.zero_E : gE Gd.zero = 0 := by kernel_rfl
theorem Gd.ok.keep {G : Gd} {w w' : World} (h : G.ok w) (n : New w w') : G.ok w' := RowsK.keep h n
/-- A grid's columns: of one that may not be there are none. -/
def colG (G : Gd) : Gd := if gE G = 0 then G else Gd.zero
theorem colG_ok {G : Gd} {w : World} (h : G.ok w) : (colG G).ok w := by
  unfold colG
  split
  · exact h
  · exact Gd.zero_ok w
theorem colG_E (G : Gd) : gE (colG G) = 0 := by
  unfold colG
  split
  · rename_i h; exact h
  · exact Gd.zero_E

end Go.Proofs.YtgoggogcbjfofaaDoor

/- Package open: a column of a grid. -/
namespace Go.Proofs.YtgoggogcbjfofaaDoor
open Go.RowKit
set_option linter.unusedVariables false

def inG (G : Gd) (x z : Int) : Bool := wiB x G.x (G.x + G.w - 1) && wiB z G.z (G.z + G.d - 1)
def ixG (G : Gd) (x z : Int) : Nat := ((z - G.z) * G.w + (x - G.x)).toNat
/-- A column's floors. -/
def atG (G : Gd) (x z : Int) : List Fl := if inG G x z = true then (G.L[ixG G x z]?).getD [] else []
theorem inG_iff {G : Gd} {x z : Int} : inG G x z = true ↔ (G.x ≤ x ∧ x ≤ G.x + G.w - 1) ∧ (G.z ≤ z ∧ z ≤ G.z + G.d - 1) := by
  unfold inG
  simp only [Bool.and_eq_true, wiB_iff]
/-- Where a column of the grid stands. -/
theorem ixG_is {G : Gd} (hE : gE G = 0) {x z : Int} (h : inG G x z = true) : 0 ≤ (z - G.z) * G.w ∧ (z - G.z) * G.w ≤ 4096 ∧ (ixG G x z : Int) = (z - G.z) * G.w + (x - G.x) ∧ ixG G x z < G.L.length := by
  obtain ⟨hp, hl, -⟩ := gd_is hE
  have hb := placeB_iff.1 hp
  have hi := inG_iff.1 h
  have h1 : 0 ≤ (z - G.z) * G.w := Int.mul_nonneg (by omega) (by omega)
  have h2 : (z - G.z) * G.w ≤ (G.d - 1) * G.w := Int.mul_le_mul_of_nonneg_right (by omega) (by omega)
  have h3 : (G.d - 1) * G.w = G.w * G.d - G.w := by rw [Int.sub_mul, Int.one_mul, Int.mul_comm]
  have h4 := mul_64 (show 0 ≤ G.w by omega) (show G.w ≤ 64 by omega) (show 0 ≤ G.d by omega) (show G.d ≤ 64 by omega)
  have h5 : (ixG G x z : Int) = (z - G.z) * G.w + (x - G.x) := by unfold ixG; omega
  exact ⟨h1, by omega, h5, by omega⟩
theorem atG_in {G : Gd} (hE : gE G = 0) {x z : Int} (h : inG G x z = true) : atG G x z = G.L[ixG G x z]'(ixG_is hE h).2.2.2 := by
  unfold atG
  rw [if_pos h, List.getElem?_eq_getElem (ixG_is hE h).2.2.2]
  rfl
theorem atG_out {G : Gd} {x z : Int} (h : inG G x z = false) : atG G x z = [] := by unfold atG; rw [if_neg (by rw [h]; simp)]
theorem atG_len {G : Gd} (hE : gE G = 0) (x z : Int) : (atG G x z).length ≤ 8 := by
  cases h : inG G x z
  · rw [atG_out h]; simp
  · rw [atG_in hE h]
    exact riseB_len ((gd_is hE).2.2 _ _)

end Go.Proofs.YtgoggogcbjfofaaDoor

/- Package open: floors and where they are; stands. -/
namespace Go.Proofs.YtgoggogcbjfofaaDoor
open Go.RowKit
set_option linter.unusedVariables false

/-- A floor, and where it is. -/
structure St where
  (x z y : Int)
  f : Fl
instance : Inhabited St := ⟨⟨0, 0, 0, Fl.zero⟩⟩
def St.enc (s : St) : List Value := #[.int .i64 s.x, .int .i64 s.z, .int .i64 s.y, .int .i64 s.f.y, .int .i64 s.f.top, .int .i64 s.f.area].toList
theorem St.enc_len (s : St) : s.enc.length = 6 := rfl
theorem St.enc_one (x : St) : ∀ u ∈ x.enc, u.oneCell' = true := by
  intro u hu
  simp [St.enc] at hu
  rcases hu with rfl | rfl | rfl | rfl | rfl | rfl <;> rfl
theorem St.cells {w : World} {b off : Nat} {l : List St} (H : RowAt St.enc 6 w b off l) (j : Nat) (h : j < l.length) :
    w.cell? ⟨b, off + j * 6, none⟩ = some (.int .i64 l[j].x) ∧ w.cell? ⟨b, off + j * 6 + 1, none⟩ = some (.int .i64 l[j].z) ∧ w.cell? ⟨b, off + j * 6 + 2, none⟩ = some (.int .i64 l[j].y) ∧ w.cell? ⟨b, off + j * 6 + 3, none⟩ = some (.int .i64 l[j].f.y) ∧ w.cell? ⟨b, off + j * 6 + 4, none⟩ = some (.int .i64 l[j].f.top) ∧ w.cell? ⟨b, off + j * 6 + 5, none⟩ = some (.int .i64 l[j].f.area) :=
  ⟨H j h 0 (by rw [St.enc_len]; omega), H j h 1 (by rw [St.enc_len]; omega), H j h 2 (by rw [St.enc_len]; omega), H j h 3 (by rw [St.enc_len]; omega), H j h 4 (by rw [St.enc_len]; omega), H j h 5 (by rw [St.enc_len]; omega)⟩
/-- One in a block of its own. -/
theorem st_new (w : World) (s : St) (t : TypeId) : Sl St.enc 6 (w.alloc (.cells #[.int .i64 s.x, .int .i64 s.z, .int .i64 s.y, .int .i64 s.f.y, .int .i64 s.f.top, .int .i64 s.f.area] t)) (.slice (some ⟨w.heap.size, 0, none⟩) 1 1) [s] :=
  ⟨_, _, rfl, Nat.le_refl _, by unfold maxLen; omega, fun h => (by cases h), fun _ => ⟨w.heap.size, 0, rfl, fun j hj i hi => by
    have hj' : j = 0 := by simpa using hj
    subst hj'
    have hi' : i < 6 := hi
    have hz := heap_new w (.cells #[.int .i64 s.x, .int .i64 s.z, .int .i64 s.y, .int .i64 s.f.y, .int .i64 s.f.top, .int .i64 s.f.area] t)
    rcases (show i = 0 ∨ i = 1 ∨ i = 2 ∨ i = 3 ∨ i = 4 ∨ i = 5 by omega) with rfl | rfl | rfl | rfl | rfl | rfl <;> exact cell_of_heap hz rfl⟩⟩

/-! Plain: all floors, column by column. -/
def stOf (G : Gd) (i : Nat) (f : Fl) : St := ⟨G.x + ((i % G.w.toNat : Nat) : Int), G.z + ((i / G.w.toNat : Nat) : Int), f.y, f⟩
def gcol (G : Gd) (i : Nat) : List Fl := (G.L[i]?).getD []
theorem gcol_at {G : Gd} {i : Nat} (h : i < G.L.length) : gcol G i = G.L[i] := by unfold gcol; rw [List.getElem?_eq_getElem h]; rfl
/-- The floors of the first n columns. -/
def stTo (G : Gd) (n : Nat) : List St := (List.range n).flatMap fun i => (gcol G i).map (stOf G i)
theorem stTo_succ (G : Gd) (n : Nat) : stTo G (n + 1) = stTo G n ++ (gcol G n).map (stOf G n) := by
  unfold stTo
  rw [List.range_succ, List.flatMap_append]
  simp
/-- .. and of the next one the first k. -/
def stAt (G : Gd) (n k : Nat) : List St := stTo G n ++ ((gcol G n).take k).map (stOf G n)
theorem stAt_zero (G : Gd) (n : Nat) : stAt G n 0 = stTo G n := by unfold stAt; simp
theorem stAt_succ {G : Gd} {n k : Nat} (h : k < (gcol G n).length) : stAt G n (k + 1) = stAt G n k ++ [stOf G n (gcol G n)[k]] := by
  unfold stAt
  rw [List.take_succ_eq_append_getElem h, List.map_append, List.append_assoc]
  rfl
theorem stAt_all {G : Gd} {n k : Nat} (h : (gcol G n).length ≤ k) : stAt G n k = stTo G (n + 1) := by
  unfold stAt
  rw [List.take_of_length_le h, stTo_succ]
def allG (G : Gd) : List St := stTo G G.L.length
theorem gcol_len {G : Gd} (hE : gE G = 0) (i : Nat) : (gcol G i).length ≤ 8 := by
  by_cases h : i < G.L.length
  · rw [gcol_at h]; exact riseB_len ((gd_is hE).2.2 i h)
  · unfold gcol; rw [List.getElem?_eq_none (by omega)]; simp
theorem stTo_len {G : Gd} (hE : gE G = 0) : ∀ n, (stTo G n).length ≤ 8 * n
  | 0 => by unfold stTo; simp
  | n + 1 => by
    rw [stTo_succ, List.length_append, List.length_map]
    have h1 := stTo_len hE n
    have h2 := gcol_len hE n
    omega
theorem stAt_len {G : Gd} (hE : gE G = 0) (n k : Nat) : (stAt G n k).length ≤ 8 * n + 8 := by
  unfold stAt
  rw [List.length_append, List.length_map, List.length_take]
  have h1 := stTo_len hE n
  have h2 := gcol_len hE n
  omega

/-- Where the loops stand. -/
theorem gd_step {G : Gd} (hE : gE G = 0) {a b : Nat} (ha : (a : Int) < G.d) (hb : (b : Int) < G.w) : inG G (G.x + b) (G.z + a) = true ∧ ixG G (G.x + b) (G.z + a) = a * G.w.toNat + b ∧ a * G.w.toNat + b < G.L.length ∧ (a * G.w.toNat + b) % G.w.toNat = b ∧ (a * G.w.toNat + b) / G.w.toNat = a := by
  have hb' := placeB_iff.1 (gd_is hE).1
  have hin : inG G (G.x + b) (G.z + a) = true := inG_iff.2 (by omega)
  obtain ⟨h1, h2, h3, h4⟩ := ixG_is hE hin
  have e1 : G.z + (a : Int) - G.z = a := by omega
  have e2 : G.x + (b : Int) - G.x = b := by omega
  rw [e1, e2] at h3
  obtain ⟨n, hn⟩ : ∃ n : Nat, G.w = n := ⟨G.w.toNat, by omega⟩
  have hx : ixG G (G.x + b) (G.z + a) = a * G.w.toNat + b := by
    rw [hn] at h3 ⊢
    have : ((ixG G (G.x + b) (G.z + a) : Nat) : Int) = ((a * n + b : Nat) : Int) := by rw [h3]; push_cast; rfl
    simpa using Int.ofNat.inj this
  refine ⟨hin, hx, by rw [← hx]; exact h4, ?_, ?_⟩
  · rw [Nat.mul_comm, Nat.mul_add_mod, Nat.mod_eq_of_lt (by omega)]
  · rw [Nat.mul_comm, Nat.mul_add_div (by omega), Nat.div_eq_of_lt (by omega), Nat.add_zero]

end Go.Proofs.YtgoggogcbjfofaaDoor

/- Layer 13: which floor leads to which, plain. No function of the program in sight. -/
namespace Go.Proofs.YtgoggogcbjfofaaDoor
open Go.RowKit
set_option linter.unusedVariables false

def dxD (d : Int) : Int := if d = 0 then 1 else if d = 2 then -1 else 0
def dzD (d : Int) : Int := if d = 1 then 1 else if d = 3 then -1 else 0
def okD (d : Int) : Bool := wiB d 0 3
theorem okD_cases {d : Int} (h : okD d = true) : d = 0 ∨ d = 1 ∨ d = 2 ∨ d = 3 := by
  have := wiB_iff.1 h
  omega
theorem dxD_small (d : Int) : -1 ≤ dxD d ∧ dxD d ≤ 1 := by unfold dxD; split; omega; split <;> omega
theorem dzD_small (d : Int) : -1 ≤ dzD d ∧ dzD d ≤ 1 := by unfold dzD; split; omega; split <;> omega
theorem okD_off {d : Int} (h : okD d = false) : dxD d = 0 ∧ dzD d = 0 := by
  have := wiB_not.1 h
  unfold dxD dzD
  rw [if_neg (by omega), if_neg (by omega), if_neg (by omega), if_neg (by omega)]
  exact ⟨rfl, rfl⟩
/-- The other way. -/
def backD (d : Int) : Int := Int.tmod (d + 2) 4
theorem backD_ok {d : Int} (h : okD d = true) : okD (backD d) = true ∧ dxD (backD d) = - dxD d ∧ dzD (backD d) = - dzD d := by
  rcases okD_cases h with rfl | rfl | rfl | rfl <;> exact ⟨by decide, by decide, by decide⟩

/-! Linked. -/
def farB (n : Int) : Bool := wiB n (-1099511627776) 1099511627776
def lkB (C : CfgR) (a b : Fl) : Bool := (farB a.y && (farB a.top && (farB b.y && farB b.top))) && (decide (0 < a.area) && (decide (0 < b.area) && (decide (max a.y b.y - min a.y b.y ≤ C.cb) && decide (C.ht ≤ min a.top b.top - max a.y b.y))))
theorem lkB_iff {C : CfgR} {a b : Fl} : lkB C a b = true ↔ ((-1099511627776 ≤ a.y ∧ a.y ≤ 1099511627776) ∧ (-1099511627776 ≤ a.top ∧ a.top ≤ 1099511627776) ∧ (-1099511627776 ≤ b.y ∧ b.y ≤ 1099511627776) ∧ -1099511627776 ≤ b.top ∧ b.top ≤ 1099511627776) ∧ 0 < a.area ∧ 0 < b.area ∧ max a.y b.y - min a.y b.y ≤ C.cb ∧ C.ht ≤ min a.top b.top - max a.y b.y := by
  unfold lkB farB
  simp only [Bool.and_eq_true, wiB_iff, decide_eq_true_eq]
theorem lkB_comm (C : CfgR) (a b : Fl) : lkB C a b = lkB C b a := by
  rw [Bool.eq_iff_iff, lkB_iff, lkB_iff]
  constructor <;> (intro h; omega)
/-- Linked, by a config that may not be, too. -/
def lkF (C : CfgR) (a b : Fl) : Bool := decide (C.err = 0) && lkB C a b
theorem lkF_comm (C : CfgR) (a b : Fl) : lkF C a b = lkF C b a := by unfold lkF; rw [lkB_comm]
theorem lkF_fine {C : CfgR} (h : C.err = 0) (a b : Fl) : lkF C a b = lkB C a b := by unfold lkF; rw [decide_eq_true h]; rfl
theorem lkF_bad {C : CfgR} (h : C.err ≠ 0) (a b : Fl) : lkF C a b = false := by unfold lkF; rw [decide_eq_false h]; rfl
theorem lkF_none (C : CfgR) (a b : Fl) : lkF C ⟨a.y, a.top, 0⟩ b = false := by
  cases h : lkF C ⟨a.y, a.top, 0⟩ b
  · rfl
  · unfold lkF at h
    simp only [Bool.and_eq_true] at h
    have := (lkB_iff.1 h.2).2.1
    simp only at this
    omega
theorem lkF_area (C : CfgR) (a b : Fl) {n : Int} (h1 : 0 < a.area) (h2 : 0 < n) : lkF C ⟨a.y, a.top, n⟩ b = lkF C a b := by
  unfold lkF
  congr 1
  rw [Bool.eq_iff_iff, lkB_iff, lkB_iff]
  simp only
  constructor <;> (intro h; omega)
theorem fine_step {C : CfgR} (h : C.err = 0) : 0 ≤ C.cb ∧ C.cb + 1 ≤ C.ht ∧ C.ht ≤ 32 := by
  unfold CfgR.err checkE checkB at h
  split at h
  · rename_i h2
    simp only [Bool.and_eq_true, decide_eq_true_eq] at h2
    omega
  · cases h
theorem err_or (C : CfgR) : C.err = 0 ∨ C.err = 20 := by unfold CfgR.err checkE; split <;> simp

/-- Where a floor is. -/
structure Sd where
  (x z k : Int)
instance : Inhabited Sd := ⟨⟨0, 0, 0⟩⟩
def Sd.zero : Sd := ⟨0, 0, 0⟩
def Sd.eqB (a b : Sd) : Bool := a.x == b.x && a.z == b.z && a.k == b.k
theorem Sd.eqB_iff (a b : Sd) : a.eqB b = true ↔ a = b := by
  obtain ⟨a0, a1, a2⟩ := a
  obtain ⟨b0, b1, b2⟩ := b
  simp [Sd.eqB, and_assoc]
instance : DecidableEq Sd := fun a b => decidable_of_iff _ (Sd.eqB_iff a b)
def sdO (o : Option Sd) : Sd := o.getD Sd.zero

/-- The floor that is there. -/
def flG (G : Gd) (s : Sd) : Option Fl := if 0 ≤ s.k then (atG G s.x s.z)[s.k.toNat]? else none
theorem flG_none {G : Gd} {s : Sd} (h : ¬ (0 ≤ s.k ∧ s.k < (atG G s.x s.z).length)) : flG G s = none := by
  unfold flG
  split
  · rw [List.getElem?_eq_none (by omega)]
  · rfl
theorem flG_some {G : Gd} {s : Sd} {k : Nat} (e : s.k = k) (h : k < (atG G s.x s.z).length) : flG G s = some (atG G s.x s.z)[k] := by
  unfold flG
  rw [if_pos (by omega), show s.k.toNat = k by omega, List.getElem?_eq_getElem h]
theorem flG_is {G : Gd} {s : Sd} {a : Fl} (h : flG G s = some a) : ∃ k : Nat, s.k = k ∧ ∃ h : k < (atG G s.x s.z).length, a = (atG G s.x s.z)[k] := by
  unfold flG at h
  split at h
  · obtain ⟨h1, h2⟩ := List.getElem?_eq_some_iff.1 h
    exact ⟨s.k.toNat, by omega, h1, h2.symm⟩
  · cases h
theorem flG_in {G : Gd} {s : Sd} {a : Fl} (h : flG G s = some a) : inG G s.x s.z = true := by
  cases q : inG G s.x s.z
  · obtain ⟨k, -, hk, -⟩ := flG_is h
    rw [atG_out q] at hk
    cases hk
  · rfl

/-- To where a floor leads. -/
def toS (C : CfgR) (G : Gd) (s : Sd) (d : Int) : Option Sd := match flG G s with
  | some a => if okD d = true then ((atG G (s.x + dxD d) (s.z + dzD d)).findIdx? (lkB C a)).map (fun n : Nat => (⟨s.x + dxD d, s.z + dzD d, n⟩ : Sd)) else none
  | none => none
theorem toS_floor {C : CfgR} {G : Gd} {s : Sd} (h : flG G s = none) (d : Int) : toS C G s d = none := by unfold toS; rw [h]
theorem toS_dir {C : CfgR} {G : Gd} {s : Sd} {d : Int} (h : okD d = false) : toS C G s d = none := by unfold toS; split; rw [if_neg (by rw [h]; simp)]; rfl
theorem toS_hit {C : CfgR} {G : Gd} {s : Sd} {d : Int} {a : Fl} {l : List Fl} (h : flG G s = some a) (hd : okD d = true) (hl : l = atG G (s.x + dxD d) (s.z + dzD d)) {i : Nat} (hi : i < l.length) (h1 : lkB C a l[i] = true) (h2 : ∀ j (hj : j < l.length), j < i → lkB C a l[j] = false) : toS C G s d = some ⟨s.x + dxD d, s.z + dzD d, i⟩ := by
  unfold toS
  rw [h]
  simp only
  rw [if_pos hd, ← hl, List.findIdx?_eq_some_iff_getElem.2 ⟨hi, h1, fun j hj => by rw [h2 j (by omega) hj]; simp⟩]
  rfl
theorem toS_miss {C : CfgR} {G : Gd} {s : Sd} {d : Int} {a : Fl} {l : List Fl} (h : flG G s = some a) (hd : okD d = true) (hl : l = atG G (s.x + dxD d) (s.z + dzD d)) (h2 : ∀ j (hj : j < l.length), lkB C a l[j] = false) : toS C G s d = none := by
  unfold toS
  rw [h]
  simp only
  rw [if_pos hd, ← hl, List.findIdx?_eq_none_iff.2 (fun x hx => by obtain ⟨j, hj, rfl⟩ := List.getElem_of_mem hx; exact h2 j hj)]
  rfl
theorem toS_is {C : CfgR} {G : Gd} {s t : Sd} {d : Int} (h : toS C G s d = some t) : okD d = true ∧ ∃ a b, flG G s = some a ∧ flG G t = some b ∧ lkB C a b = true ∧ t.x = s.x + dxD d ∧ t.z = s.z + dzD d := by
  unfold toS at h
  split at h
  · rename_i a ha
    split at h
    · rename_i hd
      obtain ⟨n, hn, rfl⟩ := Option.map_eq_some_iff.1 h
      obtain ⟨hi, h1, h2⟩ := List.findIdx?_eq_some_iff_getElem.1 hn
      exact ⟨hd, a, _, ha, flG_some rfl hi, h1, rfl, rfl⟩
    · cases h
  · cases h
/-- Floors of a column rise. -/
theorem rise_top {l : List Fl} (h : riseB l = true) {i j : Nat} (hij : i < j) (hj : j < l.length) : l[i].top ≤ l[j].y := by
  unfold riseB at h
  simp only [Bool.and_eq_true, decide_eq_true_eq, List.all_eq_true] at h
  have one : ∀ k (hk : k < l.length), (leastAt l k ≤ l[k].y) ∧ l[k].y < l[k].top := fun k hk => by
    have h2 := h.2 k (List.mem_range.2 hk)
    rw [okAt_at hk] at h2
    unfold okF at h2
    simp only [Bool.and_eq_true, wiB_iff] at h2
    omega
  have go : ∀ n (hn : i + 1 + n < l.length), l[i].top ≤ l[i + 1 + n].y := fun n => by
    induction n with
    | zero =>
      intro hn
      have h1 := (one (i + 1) hn).1
      rw [leastAt_succ (by omega)] at h1
      exact h1
    | succ n ih =>
      intro hn
      have h0 := ih (by omega)
      have h1 := one (i + 1 + n) (by omega)
      have h2 := (one (i + 1 + n + 1) (by omega)).1
      rw [leastAt_succ (by omega)] at h2
      show l[i].top ≤ l[i + 1 + n + 1].y
      omega
  have := go (j - (i + 1)) (by omega)
  have e : i + 1 + (j - (i + 1)) = j := by omega
  simp only [e] at this
  exact this
/-- With one of a column at most. -/
theorem lk_one {C : CfgR} (hC : C.err = 0) {l : List Fl} (h : riseB l = true) {a : Fl} {i j : Nat} (hi : i < l.length) (hj : j < l.length) (h1 : lkB C a l[i] = true) (h2 : lkB C a l[j] = true) : i = j := by
  have hs := fine_step hC
  have p1 := lkB_iff.1 h1
  have p2 := lkB_iff.1 h2
  rcases Nat.lt_trichotomy i j with q | q | q
  · have := rise_top h q hj
    omega
  · exact q
  · have := rise_top h q hi
    omega
theorem at_rise {G : Gd} (hE : gE G = 0) (x z : Int) : riseB (atG G x z) = true := by
  cases h : inG G x z
  · rw [atG_out h]; rfl
  · rw [atG_in hE h]; exact (gd_is hE).2.2 _ _
theorem toS_of {C : CfgR} {G : Gd} (hC : C.err = 0) (hE : gE G = 0) {s t : Sd} {d : Int} {a b : Fl} (hd : okD d = true) (h1 : flG G s = some a) (h2 : flG G t = some b) (h3 : lkB C a b = true) (hx : t.x = s.x + dxD d) (hz : t.z = s.z + dzD d) : toS C G s d = some t := by
  obtain ⟨k, hk, hkl, rfl⟩ := flG_is h2
  have e : atG G (s.x + dxD d) (s.z + dzD d) = atG G t.x t.z := by rw [hx, hz]
  have := toS_hit (C := C) (l := atG G t.x t.z) h1 hd e.symm hkl h3 (fun j hj hjk => by
    cases q : lkB C a (atG G t.x t.z)[j]
    · rfl
    · exact absurd (lk_one hC (at_rise hE t.x t.z) hj hkl q h3) (by omega))
  rw [this]
  obtain ⟨tx, tz, tk⟩ := t
  simp only at hx hz hk
  subst hx hz hk
  rfl
/-- Links go both ways. -/
theorem toS_back {C : CfgR} {G : Gd} (hC : C.err = 0) (hE : gE G = 0) {s t : Sd} {d : Int} (h : toS C G s d = some t) : toS C G t (backD d) = some s := by
  obtain ⟨hd, a, b, ha, hb, hl, hx, hz⟩ := toS_is h
  obtain ⟨k1, k2, k3⟩ := backD_ok hd
  exact toS_of hC hE k1 hb ha (by rw [lkB_comm]; exact hl) (by omega) (by omega)

/-! Diagonals. -/
/-- One way round. -/
def rndS (C : CfgR) (G : Gd) (s : Sd) (d e : Int) : Option Sd := match toS C G s d with
  | some m => toS C G m e
  | none => none
/-- Are both of one axis? -/
def axB (d e : Int) : Bool := dxD d == 0 && dxD e == 0 || !(dxD d == 0) && !(dxD e == 0)
def diaS (C : CfgR) (G : Gd) (s : Sd) (d e : Int) : Option Sd := if okD d = true ∧ okD e = true ∧ axB d e = false then (match rndS C G s d e, rndS C G s e d with
  | some t, some u => if t = u then some t else none
  | _, _ => none) else none
theorem rndS_dir {C : CfgR} {G : Gd} {s : Sd} {d e : Int} (h : okD d = false ∨ okD e = false) : rndS C G s d e = none := by
  unfold rndS
  rcases h with h | h
  · rw [toS_dir h]
  · split
    · exact toS_dir h
    · rfl
/-- Where directions are not of one axis, what both ways round say is the diagonal. -/
theorem diaS_rnd {C : CfgR} {G : Gd} {s : Sd} {d e : Int} (h : okD d = true → okD e = true → axB d e = false) : diaS C G s d e = match rndS C G s d e, rndS C G s e d with
  | some t, some u => if t = u then some t else none
  | _, _ => none := by
  unfold diaS
  by_cases hd : okD d = true
  · by_cases he : okD e = true
    · rw [if_pos ⟨hd, he, h hd he⟩]
    · rw [if_neg (fun q => he q.2.1), rndS_dir (.inr (by simpa using he))]
  · rw [if_neg (fun q => hd q.1), rndS_dir (.inl (by simpa using hd))]
theorem diaS_ax {C : CfgR} {G : Gd} {s : Sd} {d e : Int} (h : ¬ (okD d = true ∧ okD e = true ∧ axB d e = false)) : diaS C G s d e = none := by unfold diaS; rw [if_neg h]
theorem diaS_is {C : CfgR} {G : Gd} {s t : Sd} {d e : Int} (h : diaS C G s d e = some t) : (okD d = true ∧ okD e = true ∧ axB d e = false) ∧ rndS C G s d e = some t ∧ rndS C G s e d = some t := by
  unfold diaS at h
  split at h
  · rename_i h1
    refine ⟨h1, ?_⟩
    split at h
    · rename_i t' u e1 e2
      split at h
      · rename_i e3
        subst e3
        cases h
        exact ⟨e1, e2⟩
      · cases h
    · cases h
  · cases h
theorem diaS_of {C : CfgR} {G : Gd} {s t : Sd} {d e : Int} (h : okD d = true ∧ okD e = true ∧ axB d e = false) (h1 : rndS C G s d e = some t) (h2 : rndS C G s e d = some t) : diaS C G s d e = some t := by
  unfold diaS
  rw [if_pos h, h1, h2]
  simp
theorem rndS_is {C : CfgR} {G : Gd} {s t : Sd} {d e : Int} (h : rndS C G s d e = some t) : ∃ m, toS C G s d = some m ∧ toS C G m e = some t := by
  unfold rndS at h
  split at h
  · rename_i m hm
    exact ⟨m, hm, h⟩
  · cases h
theorem rndS_of {C : CfgR} {G : Gd} {s m t : Sd} {d e : Int} (h1 : toS C G s d = some m) (h2 : toS C G m e = some t) : rndS C G s d e = some t := by unfold rndS; rw [h1]; exact h2
theorem rndS_at {C : CfgR} {G : Gd} {s t : Sd} {d e : Int} (h : rndS C G s d e = some t) : t.x = s.x + dxD d + dxD e ∧ t.z = s.z + dzD d + dzD e := by
  obtain ⟨m, h1, h2⟩ := rndS_is h
  obtain ⟨-, _, _, -, -, -, x1, z1⟩ := toS_is h1
  obtain ⟨-, _, _, -, -, -, x2, z2⟩ := toS_is h2
  omega
theorem axB_back {d e : Int} (hd : okD d = true) (he : okD e = true) (h : axB d e = false) : axB (backD d) (backD e) = false ∧ axB e d = false := by
  rcases okD_cases hd with rfl | rfl | rfl | rfl <;> rcases okD_cases he with rfl | rfl | rfl | rfl <;> first | (exact absurd h (by decide)) | exact ⟨by decide, by decide⟩
theorem diaS_back {C : CfgR} {G : Gd} (hC : C.err = 0) (hE : gE G = 0) {s t : Sd} {d e : Int} (h : diaS C G s d e = some t) : diaS C G t (backD d) (backD e) = some s ∧ diaS C G s e d = some t := by
  obtain ⟨⟨hd, he, ha⟩, h1, h2⟩ := diaS_is h
  obtain ⟨m, a1, a2⟩ := rndS_is h1
  obtain ⟨n, b1, b2⟩ := rndS_is h2
  obtain ⟨k1, k2⟩ := axB_back hd he ha
  exact ⟨diaS_of ⟨(backD_ok hd).1, (backD_ok he).1, k1⟩ (rndS_of (toS_back hC hE b2) (toS_back hC hE b1)) (rndS_of (toS_back hC hE a2) (toS_back hC hE a1)), diaS_of ⟨he, hd, k2⟩ h2 h1⟩

/-! The eight; all links. -/
def nB (b : Bool) : Int := if b = true then 1 else 0
theorem nB_small (b : Bool) : 0 ≤ nB b ∧ nB b ≤ 1 := by unfold nB; split <;> omega
/-- The next direction. -/
def nextD (d : Int) : Int := Int.tmod (d + 1) 4
/-- How many of the eight there are in the first n directions. -/
def cntE (C : CfgR) (G : Gd) (s : Sd) : Nat → Int
  | 0 => 0
  | n + 1 => cntE C G s n + nB (toS C G s n).isSome + nB (diaS C G s n (nextD n)).isSome
theorem cntE_small (C : CfgR) (G : Gd) (s : Sd) : ∀ n : Nat, 0 ≤ cntE C G s n ∧ cntE C G s n ≤ 2 * n
  | 0 => by unfold cntE; omega
  | n + 1 => by
    have h1 := cntE_small C G s n
    have h2 := nB_small (toS C G s n).isSome
    have h3 := nB_small (diaS C G s n (nextD n)).isSome
    unfold cntE
    omega
/-- A floor's links. -/
structure Lk where
  (a b c d : Int)
instance : Inhabited Lk := ⟨⟨0, 0, 0, 0⟩⟩
def Lk.enc (x : Lk) : List Value := #[.int .i64 x.a, .int .i64 x.b, .int .i64 x.c, .int .i64 x.d].toList
theorem Lk.enc_len (x : Lk) : x.enc.length = 4 := rfl
theorem Lk.enc_one (x : Lk) : ∀ u ∈ x.enc, u.oneCell' = true := by
  intro u hu
  simp [Lk.enc] at hu
  rcases hu with rfl | rfl | rfl | rfl <;> rfl
def Lk.eqB (a b : Lk) : Bool := a.a == b.a && a.b == b.b && a.c == b.c && a.d == b.d
theorem Lk.eqB_iff (a b : Lk) : a.eqB b = true ↔ a = b := by
  obtain ⟨a0, a1, a2, a3⟩ := a
  obtain ⟨b0, b1, b2, b3⟩ := b
  simp [Lk.eqB, and_assoc]
instance : DecidableEq Lk := fun a b => decidable_of_iff _ (Lk.eqB_iff a b)
theorem Lk.cells {w : World} {b off : Nat} {l : List Lk} (H : RowAt Lk.enc 4 w b off l) (j : Nat) (h : j < l.length) :
    w.cell? ⟨b, off + j * 4, none⟩ = some (.int .i64 l[j].a) ∧ w.cell? ⟨b, off + j * 4 + 1, none⟩ = some (.int .i64 l[j].b) ∧ w.cell? ⟨b, off + j * 4 + 2, none⟩ = some (.int .i64 l[j].c) ∧ w.cell? ⟨b, off + j * 4 + 3, none⟩ = some (.int .i64 l[j].d) :=
  ⟨H j h 0 (by rw [Lk.enc_len]; omega), H j h 1 (by rw [Lk.enc_len]; omega), H j h 2 (by rw [Lk.enc_len]; omega), H j h 3 (by rw [Lk.enc_len]; omega)⟩
/-- One link, or -1. -/
def oneL (o : Option Sd) : Int := match o with
  | some t => t.k
  | none => -1
def lkS (C : CfgR) (G : Gd) (s : Sd) : Lk := ⟨oneL (toS C G s 0), oneL (toS C G s 1), oneL (toS C G s 2), oneL (toS C G s 3)⟩
/-- Where the k-th floor of the i-th column is. -/
def sdI (G : Gd) (i k : Nat) : Sd := ⟨G.x + ((i % G.w.toNat : Nat) : Int), G.z + ((i / G.w.toNat : Nat) : Int), k⟩
def lkC (C : CfgR) (G : Gd) (i : Nat) : List Lk := (List.range (gcol G i).length).map fun k => lkS C G (sdI G i k)
def lkL (C : CfgR) (G : Gd) : List (List Lk) := (List.range G.L.length).map (lkC C G)
theorem lkC_len (C : CfgR) (G : Gd) (i : Nat) : (lkC C G i).length = (gcol G i).length := by unfold lkC; simp
theorem lkL_len (C : CfgR) (G : Gd) : (lkL C G).length = G.L.length := by unfold lkL; simp

/-! Of any grid. -/
/-- Why not. -/
def lkE (C : CfgR) (G : Gd) : Int := if C.err = 0 then gE G else 20
theorem lkE_is {C : CfgR} {G : Gd} : lkE C G = 0 ↔ C.err = 0 ∧ gE G = 0 := by
  unfold lkE
  split
  · rename_i h; exact ⟨fun q => ⟨h, q⟩, fun q => q.2⟩
  · rename_i h; exact ⟨fun q => absurd q (by decide), fun q => absurd q.1 h⟩
def CfgR.zero : CfgR := ⟨0, 0, 0, 0, 0, 0, 0⟩
/-- The ground. -/
def grC (C : CfgR) (G : Gd) : CfgR := if lkE C G = 0 then C else CfgR.zero
def grG (C : CfgR) (G : Gd) : Gd := if lkE C G = 0 then G else Gd.zero
theorem grG_E (C : CfgR) (G : Gd) : gE (grG C G) = 0 := by
  unfold grG
  split
  · rename_i h; exact (lkE_is.1 h).2
  · rfl
theorem at_zero (x z : Int) : atG Gd.zero x z = [] := by
  refine atG_out ?_
  cases q : inG Gd.zero x z with
  | false => rfl
  | true =>
    have := inG_iff.1 q
    simp only [Gd.zero] at this
    omega
theorem flG_zero (s : Sd) : flG Gd.zero s = none := flG_none (by rw [at_zero]; simp)
theorem toS_zero (C : CfgR) (s : Sd) (d : Int) : toS C Gd.zero s d = none := toS_floor (flG_zero s) d
theorem rndS_zero (C : CfgR) (s : Sd) (d e : Int) : rndS C Gd.zero s d e = none := by unfold rndS; rw [toS_zero]
theorem diaS_zero (C : CfgR) (s : Sd) (d e : Int) : diaS C Gd.zero s d e = none := by
  unfold diaS
  split
  · rw [rndS_zero]
  · rfl
theorem cntE_zero (C : CfgR) (s : Sd) : ∀ n, cntE C Gd.zero s n = 0
  | 0 => rfl
  | n + 1 => by unfold cntE; rw [cntE_zero C s n, toS_zero, diaS_zero]; rfl
/-- Far from the grid no floor is. -/
theorem flG_far {G : Gd} (hE : gE G = 0) {s : Sd} (h : ¬ ((-1000 ≤ s.x ∧ s.x ≤ 1000) ∧ -1000 ≤ s.z ∧ s.z ≤ 1000)) : flG G s = none := by
  cases q : flG G s with
  | none => rfl
  | some a =>
    have h1 := inG_iff.1 (flG_in q)
    have h2 := placeB_iff.1 (gd_is hE).1
    exact absurd (show _ by omega) h

end Go.Proofs.YtgoggogcbjfofaaDoor
