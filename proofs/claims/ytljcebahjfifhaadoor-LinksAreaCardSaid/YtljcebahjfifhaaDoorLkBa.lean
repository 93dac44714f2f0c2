import Derived.Test.YtljcebahjfifhaaDoorOgN
import Derived.Test.YtljcebahjfifhaaDoorSoC
import Derived.Test.YtljcebahjfifhaaDoorLkD
import Derived.Test.YtljcebahjfifhaaDoorOgI
import Derived.Test.YtljcebahjfifhaaDoorWholeI

/- Layer 13: which floor leads to which, plain. No function of the program in sight. -/
namespace Go.Proofs.YtljcebahjfifhaaDoor
open Go.RowKit
set_option linter.unusedVariables false

def dxD (d : Int) : Int := if d = 0 then 1 else if d = 2 then -1 else 0
def dzD (d : Int) : Int := if d = 1 then 1 else if d = 3 then -1 else 0
def okD (d : Int) : Bool := wiB d 0 3
theorem okD_cases {d : Int} (h : okD d = true) : d = 0 ∨ d = 1 ∨ d = 2 ∨ d = 3 := by
  have := wiB_iff.1 h
  omega
theorem dxD_small (d : Int) : -1 ≤ dxD d ∧ dxD d ≤ 1 := by unfold dxD; split; omega; split <;> omega
theorem dzD_small (d : Int) : -1 ≤ dzD d ∧ dzD d ≤ 1 := by unfold dzD; split; omega; split <;> omega
theorem okD_off {d : Int} (h : okD d = false) : dxD d = 0 ∧ dzD d = 0 := by
  have := wiB_not.1 h
  unfold dxD dzD
  rw [if_neg (by omega), if_neg (by omega), if_neg (by omega), if_neg (by omega)]
  exact ⟨rfl, rfl⟩
/-- The other way. -/
def backD (d : Int) : Int := Int.tmod (d + 2) 4
theorem backD_ok {d : Int} (h : okD d = true) : okD (backD d) = true ∧ dxD (backD d) = - dxD d ∧ dzD (backD d) = - dzD d := by
  rcases okD_cases h with rfl | rfl | rfl | rfl <;> exact ⟨by decide, by decide, by decide⟩

/-! Linked. -/
def farB (n : Int) : Bool := wiB n (-1099511627776) 1099511627776
def lkB (C : CfgR) (a b : Fl) : Bool := (farB a.y && (farB a.top && (farB b.y && farB b.top))) && (decide (0 < a.area) && (decide (0 < b.area) && (decide (max a.y b.y - min a.y b.y ≤ C.cb) && decide (C.ht ≤ min a.top b.top - max a.y b.y))))
theorem lkB_iff {C : CfgR} {a b : Fl} : lkB C a b = true ↔ ((-1099511627776 ≤ a.y ∧ a.y ≤ 1099511627776) ∧ (-1099511627776 ≤ a.top ∧ a.top ≤ 1099511627776) ∧ (-1099511627776 ≤ b.y ∧ b.y ≤ 1099511627776) ∧ -1099511627776 ≤ b.top ∧ b.top ≤ 1099511627776) ∧ 0 < a.area ∧ 0 < b.area ∧ max a.y b.y - min a.y b.y ≤ C.cb ∧ C.ht ≤ min a.top b.top - max a.y b.y := by
  unfold lkB farB
  simp only [Bool.and_eq_true, wiB_iff, decide_eq_true_eq]
theorem lkB_comm (C : CfgR) (a b : Fl) : lkB C a b = lkB C b a := by
  rw [Bool.eq_iff_iff, lkB_iff, lkB_iff]
  constructor <;> (intro h; omega)
/-- Linked, by a config that may not be, too. -/
def lkF (C : CfgR) (a b : Fl) : Bool := decide (C.err = 0) && lkB C a b
theorem lkF_comm (C : CfgR) (a b : Fl) : lkF C a b = lkF C b a := by unfold lkF; rw [lkB_comm]
theorem lkF_fine {C : CfgR} (h : C.err = 0) (a b : Fl) : lkF C a b = lkB C a b := by unfold lkF; rw [decide_eq_true h]; rfl
theorem lkF_bad {C : CfgR} (h : C.err ≠ 0) (a b : Fl) : lkF C a b = false := by unfold lkF; rw [decide_eq_false h]; rfl
theorem lkF_none (C : CfgR) (a b : Fl) : lkF C ⟨a.y, a.top, 0⟩ b = false := by
  cases h : lkF C ⟨a.y, a.top, 0⟩ b
  · rfl
  · unfold lkF at h
    simp only [Bool.and_eq_true] at h
    have := (lkB_iff.1 h.2).2.1
    simp only at this
    omega
theorem lkF_area (C : CfgR) (a b : Fl) {n : Int} (h1 : 0 < a.area) (h2 : 0 < n) : lkF C ⟨a.y, a.top, n⟩ b = lkF C a b := by
  unfold lkF
  congr 1
  rw [Bool.eq_iff_iff, lkB_iff, lkB_iff]
  simp only
  constructor <;> (intro h; omega)
theorem fine_step {C : CfgR} (h : C.err = 0) : 0 ≤ C.cb ∧ C.cb + 1 ≤ C.ht ∧ C.ht ≤ 32 := by
  unfold CfgR.err checkE checkB at h
  split at h
  · rename_i h2
    simp only [Bool.and_eq_true, decide_eq_true_eq] at h2
    omega
  · cases h
theorem err_or (C : CfgR) : C.err = 0 ∨ C.err = 20 := by unfold CfgR.err checkE; split <;> simp

/-- Where a floor is. -/
structure Sd where
  (x z k : Int)
instance : Inhabited Sd := ⟨⟨0, 0, 0⟩⟩
def Sd.zero : Sd := ⟨0, 0, 0⟩
def Sd.eqB (a b : Sd) : Bool := a.x == b.x && a.z == b.z && a.k == b.k
theorem Sd.eqB_iff (a b : Sd) : a.eqB b = true ↔ a = b := by
  obtain ⟨a0, a1, a2⟩ := a
  obtain ⟨b0, b1, b2⟩ := b
  simp [Sd.eqB, and_assoc]
instance : DecidableEq Sd := fun a b => decidable_of_iff _ (Sd.eqB_iff a b)
def sdO (o : Option Sd) : Sd := o.getD Sd.zero

/-- The floor that is there. -/
def flG (G : Gd) (s : Sd) : Option Fl := if 0 ≤ s.k then (atG G s.x s.z)[s.k.toNat]? else none
theorem flG_none {G : Gd} {s : Sd} (h : ¬ (0 ≤ s.k ∧ s.k < (atG G s.x s.z).length)) : flG G s = none := by
  unfold flG
  split
  · rw [List.getElem?_eq_none (by omega)]
  · rfl
theorem flG_some {G : Gd} {s : Sd} {k : Nat} (e : s.k = k) (h : k < (atG G s.x s.z).length) : flG G s = some (atG G s.x s.z)[k] := by
  unfold flG
  rw [if_pos (by omega), show s.k.toNat = k by omega, List.getElem?_eq_getElem h]
theorem flG_is {G : Gd} {s : Sd} {a : Fl} (h : flG G s = some a) : ∃ k : Nat, s.k = k ∧ ∃ h : k < (atG G s.x s.z).length, a = (atG G s.x s.z)[k] := by
  unfold flG at h
  split at h
  · obtain ⟨h1, h2⟩ := List.getElem?_eq_some_iff.1 h
    exact ⟨s.k.toNat, by omega, h1, h2.symm⟩
  · cases h
theorem flG_in {G : Gd} {s : Sd} {a : Fl} (h : flG G s = some a) : inG G s.x s.z = true := by
  cases q : inG G s.x s.z
  · obtain ⟨k, -, hk, -⟩ := flG_is h
    rw [atG_out q] at hk
    cases hk
  · rfl

/-- To where a floor leads. -/
def toS (C : CfgR) (G : Gd) (s : Sd) (d : Int) : Option Sd := match flG G s with
  | some a => if okD d = true then ((atG G (s.x + dxD d) (s.z + dzD d)).findIdx? (lkB C a)).map (fun n : Nat => (⟨s.x + dxD d, s.z + dzD d, n⟩ : Sd)) else none
  | none => none
theorem toS_floor {C : CfgR} {G : Gd} {s : Sd} (h : flG G s = none) (d : Int) : toS C G s d = none := by unfold toS; rw [h]
theorem toS_dir {C : CfgR} {G : Gd} {s : Sd} {d : Int} (h : okD d = false) : toS C G s d = none := by unfold toS; split; rw [if_neg (by rw [h]; simp)]; rfl
theorem toS_hit {C : CfgR} {G : Gd} {s : Sd} {d : Int} {a : Fl} {l : List Fl} (h : flG G s = some a) (hd : okD d = true) (hl : l = atG G (s.x + dxD d) (s.z + dzD d)) {i : Nat} (hi : i < l.length) (h1 : lkB C a l[i] = true) (h2 : ∀ j (hj : j < l.length), j < i → lkB C a l[j] = false) : toS C G s d = some ⟨s.x + dxD d, s.z + dzD d, i⟩ := by
  unfold toS
  rw [h]
  simp only
  rw [if_pos hd, ← hl, List.findIdx?_eq_some_iff_getElem.2 ⟨hi, h1, fun j hj => by rw [h2 j (by omega) hj]; simp⟩]
  rfl
theorem toS_miss {C : CfgR} {G : Gd} {s : Sd} {d : Int} {a : Fl} {l : List Fl} (h : flG G s = some a) (hd : okD d = true) (hl : l = atG G (s.x + dxD d) (s.z + dzD d)) (h2 : ∀ j (hj : j < l.length), lkB C a l[j] = false) : toS C G s d = none := by
  unfold toS
  rw [h]
  simp only
  rw [if_pos hd, ← hl, List.findIdx?_eq_none_iff.2 (fun x hx => by obtain ⟨j, hj, rfl⟩ := List.getElem_of_mem hx; exact h2 j hj)]
  rfl
theorem toS_is {C : CfgR} {G : Gd} {s t : Sd} {d : Int} (h : toS C G s d = some t) : okD d = true ∧ ∃ a b, flG G s = some a ∧ flG G t = some b ∧ lkB C a b = true ∧ t.x = s.x + dxD d ∧ t.z = s.z + dzD d := by
  unfold toS at h
  split at h
  · rename_i a ha
    split at h
    · rename_i hd
      obtain ⟨n, hn, rfl⟩ := Option.map_eq_some_iff.1 h
      obtain ⟨hi, h1, h2⟩ := List.findIdx?_eq_some_iff_getElem.1 hn
      exact ⟨hd, a, _, ha, flG_some rfl hi, h1, rfl, rfl⟩
    · cases h
  · cases h
/-- Floors of a column rise. -/
theorem rise_top {l : List Fl} (h : riseB l = true) {i j : Nat} (hij : i < j) (hj : j < l.length) : l[i].top ≤ l[j].y := by
  unfold riseB at h
  simp only [Bool.and_eq_true, decide_eq_true_eq, List.all_eq_true] at h
  have one : ∀ k (hk : k < l.length), (leastAt l k ≤ l[k].y) ∧ l[k].y < l[k].top := fun k hk => by
    have h2 := h.2 k (List.mem_range.2 hk)
    rw [okAt_at hk] at h2
    unfold okF at h2
    simp only [Bool.and_eq_true, wiB_iff] at h2
    omega
  have go : ∀ n (hn : i + 1 + n < l.length), l[i].top ≤ l[i + 1 + n].y := fun n => by
    induction n with
    | zero =>
      intro hn
      have h1 := (one (i + 1) hn).1
      rw [leastAt_succ (by omega)] at h1
      exact h1
    | succ n ih =>
      intro hn
      have h0 := ih (by omega)
      have h1 := one (i + 1 + n) (by omega)
      have h2 := (one (i + 1 + n + 1) (by omega)).1
      rw [leastAt_succ (by omega)] at h2
      show l[i].top ≤ l[i + 1 + n + 1].y
      omega
  have := go (j - (i + 1)) (by omega)
  have e : i + 1 + (j - (i + 1)) = j := by omega
  simp only [e] at this
  exact this
/-- With one of a column at most. -/
theorem lk_one {C : CfgR} (hC : C.err = 0) {l : List Fl} (h : riseB l = true) {a : Fl} {i j : Nat} (hi : i < l.length) (hj : j < l.length) (h1 : lkB C a l[i] = true) (h2 : lkB C a l[j] = true) : i = j := by
  have hs := fine_step hC
  have p1 := lkB_iff.1 h1
  have p2 := lkB_iff.1 h2
  rcases Nat.lt_trichotomy i j with q | q | q
  · have := rise_top h q hj
    omega
  · exact q
  · have := rise_top h q hi
    omega
theorem at_rise {G : Gd} (hE : gE G = 0) (x z : Int) : riseB (atG G x z) = true := by
  cases h : inG G x z
  · rw [atG_out h]; rfl
  · rw [atG_in hE h]; exact (gd_is hE).2.2 _ _
theorem toS_of {C : CfgR} {G : Gd} (hC : C.err = 0) (hE : gE G = 0) {s t : Sd} {d : Int} {a b : Fl} (hd : okD d = true) (h1 : flG G s = some a) (h2 : flG G t = some b) (h3 : lkB C a b = true) (hx : t.x = s.x + dxD d) (hz : t.z = s.z + dzD d) : toS C G s d = some t := by
  obtain ⟨k, hk, hkl, rfl⟩ := flG_is h2
  have e : atG G (s.x + dxD d) (s.z + dzD d) = atG G t.x t.z := by rw [hx, hz]
  have := toS_hit (C := C) (l := atG G t.x t.z) h1 hd e.symm hkl h3 (fun j hj hjk => by
    cases q : lkB C a (atG G t.x t.z)[j]
    · rfl
    · exact absurd (lk_one hC (at_rise hE t.x t.z) hj hkl q h3) (by omega))
  rw [this]
  obtain ⟨tx, tz, tk⟩ := t
  simp only at hx hz hk
  subst hx hz hk
  rfl
/-- Links go both ways. -/
theorem toS_back {C : CfgR} {G : Gd} (hC : C.err = 0) (hE : gE G = 0) {s t : Sd} {d : Int} (h : toS C G s d = some t) : toS C G t (backD d) = some s := by
  obtain ⟨hd, a, b, ha, hb, hl, hx, hz⟩ := toS_is h
  obtain ⟨k1, k2, k3⟩ := backD_ok hd
  exact toS_of hC hE k1 hb ha (by rw [lkB_comm]; exact hl) (by omega) (by omega)

/-! Diagonals. -/
/-- One way round. -/
def rndS (C : CfgR) (G : Gd) (s : Sd) (d e : Int) : Option Sd := match toS C G s d with
  | some m => toS C G m e
  | none => none
/-- Are both of one axis? -/
def axB (d e : Int) : Bool := dxD d == 0 && dxD e == 0 || !(dxD d == 0) && !(dxD e == 0)
def diaS (C : CfgR) (G : Gd) (s : Sd) (d e : Int) : Option Sd := if okD d = true ∧ okD e = true ∧ axB d e = false then (match rndS C G s d e, rndS C G s e d with
  | some t, some u => if t = u then some t else none
  | _, _ => none) else none
theorem rndS_dir {C : CfgR} {G : Gd} {s : Sd} {d e : Int} (h : okD d = false ∨ okD e = false) : rndS C G s d e = none := by
  unfold rndS
  rcases h with h | h
  · rw [toS_dir h]
  · split
    · exact toS_dir h
    · rfl
/-- Where directions are not of one axis, what both ways round say is the diagonal. -/
theorem diaS_rnd {C : CfgR} {G : Gd} {s : Sd} {d e : Int} (h : okD d = true → okD e = true → axB d e = false) : diaS C G s d e = match rndS C G s d e, rndS C G s e d with
  | some t, some u => if t = u then some t else none
  | _, _ => none := by
  unfold diaS
  by_cases hd : okD d = true
  · by_cases he : okD e = true
    · rw [if_pos ⟨hd, he, h hd he⟩]
    · rw [if_neg (fun q => he q.2.1), rndS_dir (.inr (by simpa using he))]
  · rw [if_neg (fun q => hd q.1), rndS_dir (.inl (by simpa using hd))]
theorem diaS_ax {C : CfgR} {G : Gd} {s : Sd} {d e : Int} (h : ¬ (okD d = true ∧ okD e = true ∧ axB d e = false)) : diaS C G s d e = none := by unfold diaS; rw [if_neg h]
theorem diaS_is {C : CfgR} {G : Gd} {s t : Sd} {d e : Int} (h : diaS C G s d e = some t) : (okD d = true ∧ okD e = true ∧ axB d e = false) ∧ rndS C G s d e = some t ∧ rndS C G s e d = some t := by
  unfold diaS at h
  split at h
  · rename_i h1
    refine ⟨h1, ?_⟩
    split at h
    · rename_i t' u e1 e2
      split at h
      · rename_i e3
        subst e3
        cases h
        exact ⟨e1, e2⟩
      · cases h
    · cases h
  · cases h
theorem diaS_of {C : CfgR} {G : Gd} {s t : Sd} {d e : Int} (h : okD d = true ∧ okD e = true ∧ axB d e = false) (h1 : rndS C G s d e = some t) (h2 : rndS C G s e d = some t) : diaS C G s d e = some t := by
  unfold diaS
  rw [if_pos h, h1, h2]
  simp
theorem rndS_is {C : CfgR} {G : Gd} {s t : Sd} {d e : Int} (h : rndS C G s d e = some t) : ∃ m, toS C G s d = some m ∧ toS C G m e = some t := by
  unfold rndS at h
  split at h
  · rename_i m hm
    exact ⟨m, hm, h⟩
  · cases h
theorem rndS_of {C : CfgR} {G : Gd} {s m t : Sd} {d e : Int} (h1 : toS C G s d = some m) (h2 : toS C G m e = some t) : rndS C G s d e = some t := by unfold rndS; rw [h1]; exact h2
theorem rndS_at {C : CfgR} {G : Gd} {s t : Sd} {d e : Int} (h : rndS C G s d e = some t) : t.x = s.x + dxD d + dxD e ∧ t.z = s.z + dzD d + dzD e := by
  obtain ⟨m, h1, h2⟩ := rndS_is h
  obtain ⟨-, _, _, -, -, -, x1, z1⟩ := toS_is h1
  obtain ⟨-, _, _, -, -, -, x2, z2⟩ := toS_is h2
  omega
theorem axB_back {d e : Int} (hd : okD d = true) (he : okD e = true) (h : axB d e = false) : axB (backD d) (backD e) = false ∧ axB e d = false := by
  rcases okD_cases hd with rfl | rfl | rfl | rfl <;> rcases okD_cases he with rfl | rfl | rfl | rfl <;> first | (exact absurd h (by decide)) | exact ⟨by decide, by decide⟩
theorem diaS_back {C : CfgR} {G : Gd} (hC : C.err = 0) (hE : gE G = 0) {s t : Sd} {d e : Int} (h : diaS C G s d e = some t) : diaS C G t (backD d) (backD e) = some s ∧ diaS C G s e d = some t := by
  obtain ⟨⟨hd, he, ha⟩, h1, h2⟩ := diaS_is h
  obtain ⟨m, a1, a2⟩ := rndS_is h1
  obtain ⟨n, b1, b2⟩ := rndS_is h2
  obtain ⟨k1, k2⟩ := axB_back hd he ha
  exact ⟨diaS_of ⟨(backD_ok hd).1, (backD_ok he).1, k1⟩ (rndS_of (toS_back hC hE b2) (toS_back hC hE b1)) (rndS_of (toS_back hC hE a2) (toS_back hC hE a1)), diaS_of ⟨he, hd, k2⟩ h2 h1⟩

/-! The eight; all links. -/
def nB (b : Bool) : Int := if b = true then 1 else 0
theorem nB_small (b : Bool) : 0 ≤ nB b ∧ nB b ≤ 1 := by unfold nB; split <;> omega
/-- The next direction. -/
def nextD (d : Int) : Int := Int.tmod (d + 1) 4
/-- How many of the eight there are in the first n directions. -/
def cntE (C : CfgR) (G : Gd) (s : Sd) : Nat → Int
  | 0 => 0
  | n + 1 => cntE C G s n + nB (toS C G s n).isSome + nB (diaS C G s n (nextD n)).isSome
theorem cntE_small (C : CfgR) (G : Gd) (s : Sd) : ∀ n : Nat, 0 ≤ cntE C G s n ∧ cntE C G s n ≤ 2 * n
  | 0 => by unfold cntE; omega
  | n + 1 => by
    have h1 := cntE_small C G s n
    have h2 := nB_small (toS C G s n).isSome
    have h3 := nB_small (diaS C G s n (nextD n)).isSome
    unfold cntE
    omega
/-- A floor's links. -/
structure Lk where
  (a b c d : Int)
instance : Inhabited Lk := ⟨⟨0, 0, 0, 0⟩⟩
def Lk.enc (x : Lk) : List Value := #[.int .i64 x.a, .int .i64 x.b, .int .i64 x.c, .int .i64 x.d].toList
theorem Lk.enc_len (x : Lk) : x.enc.length = 4 := rfl
theorem Lk.enc_one (x : Lk) : ∀ u ∈ x.enc, u.oneCell' = true := by
  intro u hu
  simp [Lk.enc] at hu
  rcases hu with rfl | rfl | rfl | rfl <;> rfl
def Lk.eqB (a b : Lk) : Bool := a.a == b.a && a.b == b.b && a.c == b.c && a.d == b.d
theorem Lk.eqB_iff (a b : Lk) : a.eqB b = true ↔ a = b := by
  obtain ⟨a0, a1, a2, a3⟩ := a
  obtain ⟨b0, b1, b2, b3⟩ := b
  simp [Lk.eqB, and_assoc]
instance : DecidableEq Lk := fun a b => decidable_of_iff _ (Lk.eqB_iff a b)
theorem Lk.cells {w : World} {b off : Nat} {l : List Lk} (H : RowAt Lk.enc 4 w b off l) (j : Nat) (h : j < l.length) :
    w.cell? ⟨b, off + j * 4, none⟩ = some (.int .i64 l[j].a) ∧ w.cell? ⟨b, off + j * 4 + 1, none⟩ = some (.int .i64 l[j].b) ∧ w.cell? ⟨b, off + j * 4 + 2, none⟩ = some (.int .i64 l[j].c) ∧ w.cell? ⟨b, off + j * 4 + 3, none⟩ = some (.int .i64 l[j].d) :=
  ⟨H j h 0 (by rw [Lk.enc_len]; omega), H j h 1 (by rw [Lk.enc_len]; omega), H j h 2 (by rw [Lk.enc_len]; omega), H j h 3 (by rw [Lk.enc_len]; omega)⟩
/-- One link, or -1. -/
def oneL (o : Option Sd) : Int := match o with
  | some t => t.k
  | none => -1
def lkS (C : CfgR) (G : Gd) (s : Sd) : Lk := ⟨oneL (toS C G s 0), oneL (toS C G s 1), oneL (toS C G s 2), oneL (toS C G s 3)⟩
/-- Where the k-th floor of the i-th column is. -/
def sdI (G : Gd) (i k : Nat) : Sd := ⟨G.x + ((i % G.w.toNat : Nat) : Int), G.z + ((i / G.w.toNat : Nat) : Int), k⟩
def lkC (C : CfgR) (G : Gd) (i : Nat) : List Lk := (List.range (gcol G i).length).map fun k => lkS C G (sdI G i k)
def lkL (C : CfgR) (G : Gd) : List (List Lk) := (List.range G.L.length).map (lkC C G)
theorem lkC_len (C : CfgR) (G : Gd) (i : Nat) : (lkC C G i).length = (gcol G i).length := by unfold lkC; simp
theorem lkL_len (C : CfgR) (G : Gd) : (lkL C G).length = G.L.length := by unfold lkL; simp

/-! Of any grid. -/
/-- Why not. -/
def lkE (C : CfgR) (G : Gd) : Int := if C.err = 0 then gE G else 20
theorem lkE_is {C : CfgR} {G : Gd} : lkE C G = 0 ↔ C.err = 0 ∧ gE G = 0 := by
  unfold lkE
  split
  · rename_i h; exact ⟨fun q => ⟨h, q⟩, fun q => q.2⟩
  · rename_i h; exact ⟨fun q => absurd q (by decide), fun q => absurd q.1 h⟩
def CfgR.zero : CfgR := ⟨0, 0, 0, 0, 0, 0, 0⟩
/-- The ground. -/
def grC (C : CfgR) (G : Gd) : CfgR := if lkE C G = 0 then C else CfgR.zero
def grG (C : CfgR) (G : Gd) : Gd := if lkE C G = 0 then G else Gd.zero
theorem grG_E (C : CfgR) (G : Gd) : gE (grG C G) = 0 := by
  unfold grG
  split
  · rename_i h; exact (lkE_is.1 h).2
  · rfl
theorem at_zero (x z : Int) : atG Gd.zero x z = [] := by
  refine atG_out ?_
  cases q : inG Gd.zero x z with
  | false => rfl
  | true =>
    have := inG_iff.1 q
    simp only [Gd.zero] at this
    omega
theorem flG_zero (s : Sd) : flG Gd.zero s = none := flG_none (by rw [at_zero]; simp)
theorem toS_zero (C : CfgR) (s : Sd) (d : Int) : toS C Gd.zero s d = none := toS_floor (flG_zero s) d
theorem rndS_zero (C : CfgR) (s : Sd) (d e : Int) : rndS C Gd.zero s d e = none := by unfold rndS; rw [toS_zero]
theorem diaS_zero (C : CfgR) (s : Sd) (d e : Int) : diaS C Gd.zero s d e = none := by
  unfold diaS
  split
  · rw [rndS_zero]
  · rfl
theorem cntE_zero (C : CfgR) (s : Sd) : ∀ n, cntE C Gd.zero s n = 0
  | 0 => rfl
  | n + 1 => by unfold cntE; rw [cntE_zero C s n, toS_zero, diaS_zero]; rfl
/-- Far from the grid no floor is. -/
theorem flG_far {G : Gd} (hE : gE G = 0) {s : Sd} (h : ¬ ((-1000 ≤ s.x ∧ s.x ≤ 1000) ∧ -1000 ≤ s.z ∧ s.z ≤ 1000)) : flG G s = none := by
  cases q : flG G s with
  | none => rfl
  | some a =>
    have h1 := inG_iff.1 (flG_in q)
    have h2 := placeB_iff.1 (gd_is hE).1
    exact absurd (show _ by omega) h

end Go.Proofs.YtljcebahjfifhaaDoor

/- Package links: within, Step; the document's Step. -/
namespace Go.Proofs.YtljcebahjfifhaaDoor
open Go.RowKit
set_option linter.unusedVariables false

set_option maxHeartbeats 1000000 in
theorem lk_within (n lo hi : Int) (w : World) : Calls Tryd.prog 31 #[.int .i64 n, .int .i64 lo, .int .i64 hi] w fun e w' => e = .returned (.bool (wiB n lo hi)) ∧ w = w' := by
  unfold wiB
  by_cases h : lo ≤ n
  · rw [decide_eq_true h]
    go_enter Tryd.func31, Tryd.ntmps31
    go_wp2_with fail
    go_ret
    exact ⟨rfl, rfl⟩
  · rw [decide_eq_false h]
    go_enter Tryd.func31, Tryd.ntmps31
    go_wp2_with fail
    go_ret
    exact ⟨rfl, rfl⟩

/-- What Step tells. -/
def stV (d : Int) : Value := .tuple #[.int .i64 (dxD d), .int .i64 (dzD d), .bool (okD d)]

set_option maxHeartbeats 4000000 in
theorem lk_Step (d : Int) (w : World) (hD : Dirs w) : Calls Tryd.prog 15 #[.int .i64 d] w fun e w' => e = .returned (stV d) ∧ New w w' := by
  have KW := lk_within d 0 3
  obtain ⟨c0, c1, c2, c3, c4, c5, c6, c7⟩ := hD
  cases hk : okD d
  · have hv : stV d = .tuple #[.int .i64 0, .int .i64 0, .bool false] := by unfold stV; rw [hk, (okD_off hk).1, (okD_off hk).2]
    rw [hv]
    unfold okD at hk
    rw [hk] at KW
    clear hv hk
    go_enter Tryd.func15, Tryd.ntmps15
    go_wp2_with fail
    refine (KW _).mono ?_
    rintro e w2 ⟨rfl, rfl⟩
    go_wp2_with fail
    refine bodyPost_ret (v := .tuple #[.int .i64 0, .int .i64 0, .bool false]) (by simp [results, Tryd.results15, go_sem, *]) rfl ?_
    exact ⟨rfl, by (repeat (first | (with_reducible exact New.refl _) | (with_reducible assumption) | ((with_reducible refine New.setB ?_ ?_ _); focus (first | omega | (simp; omega) | (simp; done))) | (with_reducible refine New.alloc ?_ _) | (with_reducible refine New.drew ?_) | (with_reducible refine New.drewN ?_ _) | (with_reducible refine New.hat ?_ _) | ((with_reducible apply New.snart); (with_reducible assumption))))⟩
  · have hk2 := hk
    unfold okD at hk2
    rw [hk2] at KW
    clear hk2
    rcases okD_cases hk with rfl | rfl | rfl | rfl
    · clear hk
      go_enter Tryd.func15, Tryd.ntmps15
      go_wp2_with fail
      refine (KW _).mono ?_
      rintro e w2 ⟨rfl, rfl⟩
      go_wp2_with fail
      refine Code.at (fun W hW => ?_)
      have n0 : New w W := by subst hW; (repeat (first | (with_reducible exact New.refl _) | (with_reducible assumption) | ((with_reducible refine New.setB ?_ ?_ _); focus (first | omega | (simp; omega) | (simp; done))) | (with_reducible refine New.alloc ?_ _) | (with_reducible refine New.drew ?_) | (with_reducible refine New.drewN ?_ _) | (with_reducible refine New.hat ?_ _) | ((with_reducible apply New.snart); (with_reducible assumption))))
      have b0 : W.cell? ⟨w.heap.size, 0, none⟩ = some (.int .i64 1) := by subst hW; go_simp
      have b1 : W.cell? ⟨w.heap.size, 1, none⟩ = some (.int .i64 0) := by subst hW; go_simp
      clear hW
      (refine wp_region_hat (by kernel_rfl) (by kernel_rfl) ?_; intro hatc hatf; (repeat (go_big_quiet_step ((fail)))); refine wpQuiet_nil ?_; rintro _ ⟨q, rfl⟩)
      go_wp2_with fail
      refine bodyPost_ret (v := .tuple #[.int .i64 1, .int .i64 0, .bool true]) (by simp [results, Tryd.results15, go_sem, *]) rfl ?_
      exact ⟨by rfl, n0.trans q.h⟩
    · clear hk
      go_enter Tryd.func15, Tryd.ntmps15
      go_wp2_with fail
      refine (KW _).mono ?_
      rintro e w2 ⟨rfl, rfl⟩
      go_wp2_with fail
      refine Code.at (fun W hW => ?_)
      have n0 : New w W := by subst hW; (repeat (first | (with_reducible exact New.refl _) | (with_reducible assumption) | ((with_reducible refine New.setB ?_ ?_ _); focus (first | omega | (simp; omega) | (simp; done))) | (with_reducible refine New.alloc ?_ _) | (with_reducible refine New.drew ?_) | (with_reducible refine New.drewN ?_ _) | (with_reducible refine New.hat ?_ _) | ((with_reducible apply New.snart); (with_reducible assumption))))
      have b0 : W.cell? ⟨w.heap.size, 0, none⟩ = some (.int .i64 0) := by subst hW; go_simp
      have b1 : W.cell? ⟨w.heap.size, 1, none⟩ = some (.int .i64 1) := by subst hW; go_simp
      clear hW
      (refine wp_region_hat (by kernel_rfl) (by kernel_rfl) ?_; intro hatc hatf; (repeat (go_big_quiet_step ((fail)))); refine wpQuiet_nil ?_; rintro _ ⟨q, rfl⟩)
      go_wp2_with fail
      refine bodyPost_ret (v := .tuple #[.int .i64 0, .int .i64 1, .bool true]) (by simp [results, Tryd.results15, go_sem, *]) rfl ?_
      exact ⟨by rfl, n0.trans q.h⟩
    · clear hk
      go_enter Tryd.func15, Tryd.ntmps15
      go_wp2_with fail
      refine (KW _).mono ?_
      rintro e w2 ⟨rfl, rfl⟩
      go_wp2_with fail
      refine Code.at (fun W hW => ?_)
      have n0 : New w W := by subst hW; (repeat (first | (with_reducible exact New.refl _) | (with_reducible assumption) | ((with_reducible refine New.setB ?_ ?_ _); focus (first | omega | (simp; omega) | (simp; done))) | (with_reducible refine New.alloc ?_ _) | (with_reducible refine New.drew ?_) | (with_reducible refine New.drewN ?_ _) | (with_reducible refine New.hat ?_ _) | ((with_reducible apply New.snart); (with_reducible assumption))))
      have b0 : W.cell? ⟨w.heap.size, 0, none⟩ = some (.int .i64 (-1)) := by subst hW; go_simp
      have b1 : W.cell? ⟨w.heap.size, 1, none⟩ = some (.int .i64 0) := by subst hW; go_simp
      clear hW
      (refine wp_region_hat (by kernel_rfl) (by kernel_rfl) ?_; intro hatc hatf; (repeat (go_big_quiet_step ((fail)))); refine wpQuiet_nil ?_; rintro _ ⟨q, rfl⟩)
      go_wp2_with fail
      refine bodyPost_ret (v := .tuple #[.int .i64 (-1), .int .i64 0, .bool true]) (by simp [results, Tryd.results15, go_sem, *]) rfl ?_
      exact ⟨by rfl, n0.trans q.h⟩
    · clear hk
      go_enter Tryd.func15, Tryd.ntmps15
      go_wp2_with fail
      refine (KW _).mono ?_
      rintro e w2 ⟨rfl, rfl⟩
      go_wp2_with fail
      refine Code.at (fun W hW => ?_)
      have n0 : New w W := by subst hW; (repeat (first | (with_reducible exact New.refl _) | (with_reducible assumption) | ((with_reducible refine New.setB ?_ ?_ _); focus (first | omega | (simp; omega) | (simp; done))) | (with_reducible refine New.alloc ?_ _) | (with_reducible refine New.drew ?_) | (with_reducible refine New.drewN ?_ _) | (with_reducible refine New.hat ?_ _) | ((with_reducible apply New.snart); (with_reducible assumption))))
      have b0 : W.cell? ⟨w.heap.size, 0, none⟩ = some (.int .i64 0) := by subst hW; go_simp
      have b1 : W.cell? ⟨w.heap.size, 1, none⟩ = some (.int .i64 (-1)) := by subst hW; go_simp
      clear hW
      (refine wp_region_hat (by kernel_rfl) (by kernel_rfl) ?_; intro hatc hatf; (repeat (go_big_quiet_step ((fail)))); refine wpQuiet_nil ?_; rintro _ ⟨q, rfl⟩)
      go_wp2_with fail
      refine bodyPost_ret (v := .tuple #[.int .i64 0, .int .i64 (-1), .bool true]) (by simp [results, Tryd.results15, go_sem, *]) rfl ?_
      exact ⟨by rfl, n0.trans q.h⟩

set_option maxHeartbeats 4000000 in
theorem lr_Step (d : Int) (w : World) : Calls Tryd.prog 16 #[.int .i64 d] w fun e w' => e = .returned (stV d) ∧ New w w' := by
  cases hk : okD d
  · have hv : stV d = .tuple #[.int .i64 0, .int .i64 0, .bool false] := by unfold stV; rw [hk, (okD_off hk).1, (okD_off hk).2]
    rw [hv]
    have h := wiB_not.1 hk
    have e0 : (d == 0) = false := by rw [beq_eq_false_iff_ne]; omega
    have e1 : (d == 1) = false := by rw [beq_eq_false_iff_ne]; omega
    have e2 : (d == 2) = false := by rw [beq_eq_false_iff_ne]; omega
    have e3 : (d == 3) = false := by rw [beq_eq_false_iff_ne]; omega
    clear hv hk h
    go_enter Tryd.func16, Tryd.ntmps16
    go_wp2_with fail
    refine bodyPost_ret (v := .tuple #[.int .i64 0, .int .i64 0, .bool false]) (by simp [results, Tryd.results16, go_sem, *]) rfl ?_
    exact ⟨rfl, by (repeat (first | (with_reducible exact New.refl _) | (with_reducible assumption) | ((with_reducible refine New.setB ?_ ?_ _); focus (first | omega | (simp; omega) | (simp; done))) | (with_reducible refine New.alloc ?_ _) | (with_reducible refine New.drew ?_) | (with_reducible refine New.drewN ?_ _) | (with_reducible refine New.hat ?_ _) | ((with_reducible apply New.snart); (with_reducible assumption))))⟩
  · rcases okD_cases hk with rfl | rfl | rfl | rfl
    · clear hk
      go_enter Tryd.func16, Tryd.ntmps16
      go_wp2_with fail
      refine bodyPost_ret (v := .tuple #[.int .i64 1, .int .i64 0, .bool true]) (by simp [results, Tryd.results16, go_sem, *]) rfl ?_
      exact ⟨by rfl, by (repeat (first | (with_reducible exact New.refl _) | (with_reducible assumption) | ((with_reducible refine New.setB ?_ ?_ _); focus (first | omega | (simp; omega) | (simp; done))) | (with_reducible refine New.alloc ?_ _) | (with_reducible refine New.drew ?_) | (with_reducible refine New.drewN ?_ _) | (with_reducible refine New.hat ?_ _) | ((with_reducible apply New.snart); (with_reducible assumption))))⟩
    · clear hk
      go_enter Tryd.func16, Tryd.ntmps16
      go_wp2_with fail
      refine bodyPost_ret (v := .tuple #[.int .i64 0, .int .i64 1, .bool true]) (by simp [results, Tryd.results16, go_sem, *]) rfl ?_
      exact ⟨by rfl, by (repeat (first | (with_reducible exact New.refl _) | (with_reducible assumption) | ((with_reducible refine New.setB ?_ ?_ _); focus (first | omega | (simp; omega) | (simp; done))) | (with_reducible refine New.alloc ?_ _) | (with_reducible refine New.drew ?_) | (with_reducible refine New.drewN ?_ _) | (with_reducible refine New.hat ?_ _) | ((with_reducible apply New.snart); (with_reducible assumption))))⟩
    · clear hk
      go_enter Tryd.func16, Tryd.ntmps16
      go_wp2_with fail
      refine bodyPost_ret (v := .tuple #[.int .i64 (-1), .int .i64 0, .bool true]) (by simp [results, Tryd.results16, go_sem, *]) rfl ?_
      exact ⟨by rfl, by (repeat (first | (with_reducible exact New.refl _) | (with_reducible assumption) | ((with_reducible refine New.setB ?_ ?_ _); focus (first | omega | (simp; omega) | (simp; done))) | (with_reducible refine New.alloc ?_ _) | (with_reducible refine New.drew ?_) | (with_reducible refine New.drewN ?_ _) | (with_reducible refine New.hat ?_ _) | ((with_reducible apply New.snart); (with_reducible assumption))))⟩
    · clear hk
      go_enter Tryd.func16, Tryd.ntmps16
      go_wp2_with fail
      refine bodyPost_ret (v := .tuple #[.int .i64 0, .int .i64 (-1), .bool true]) (by simp [results, Tryd.results16, go_sem, *]) rfl ?_
      exact ⟨by rfl, by (repeat (first | (with_reducible exact New.refl _) | (with_reducible assumption) | ((with_reducible refine New.setB ?_ ?_ _); focus (first | omega | (simp; omega) | (simp; done))) | (with_reducible refine New.alloc ?_ _) | (with_reducible refine New.drew ?_) | (with_reducible refine New.drewN ?_ _) | (with_reducible refine New.hat ?_ _) | ((with_reducible apply New.snart); (with_reducible assumption))))⟩

end Go.Proofs.YtljcebahjfifhaaDoor

/- Package links: linked, Linked. -/
namespace Go.Proofs.YtljcebahjfifhaaDoor
open Go.RowKit
set_option linter.unusedVariables false

theorem lkB_far {C : CfgR} {a b : Fl} (h : ¬ (farB a.y = true ∧ farB a.top = true ∧ farB b.y = true ∧ farB b.top = true)) : lkB C a b = false := by
  cases q : lkB C a b
  · rfl
  · exfalso
    unfold lkB at q
    simp only [Bool.and_eq_true] at q
    exact h ⟨q.1.1, q.1.2.1, q.1.2.2.1, q.1.2.2.2⟩
theorem lkB_near {C : CfgR} {a b : Fl} (h1 : farB a.y = true) (h2 : farB a.top = true) (h3 : farB b.y = true) (h4 : farB b.top = true) : lkB C a b = (decide (0 < a.area) && (decide (0 < b.area) && (decide (max a.y b.y - min a.y b.y ≤ C.cb) && decide (C.ht ≤ min a.top b.top - max a.y b.y)))) := by
  unfold lkB
  rw [h1, h2, h3, h4]
  rfl

set_option maxHeartbeats 8000000 in
set_option maxRecDepth 100000 in
theorem lk_linked (C : CfgR) (a b : Fl) (w : World) : Calls Tryd.prog 33 #[.agg #[.int .i64 C.cl, .int .i64 C.cb, .int .i64 C.ht, .int .i64 C.ri, .int .i64 C.ru, .int .i64 C.wd, .int .i64 C.dp], .agg #[.int .i64 a.y, .int .i64 a.top, .int .i64 a.area], .agg #[.int .i64 b.y, .int .i64 b.top, .int .i64 b.area]] w fun e w' => e = .returned (.bool (lkB C a b)) ∧ New w w' := by
  have KW := Lib.hid (fun n (W : World) => lk_within n (-1099511627776) 1099511627776 W)
  have K1 := fun W => KW.out a.y W
  have K2 := fun W => KW.out a.top W
  have K3 := fun W => KW.out b.y W
  have K4 := fun W => KW.out b.top W
  have HF := Lib.hid (lkB_far (C := C) (a := a) (b := b))
  have HN := Lib.hid (lkB_near (C := C) (a := a) (b := b))
  obtain ⟨r, hr⟩ : ∃ r, r = lkB C a b := ⟨_, rfl⟩
  rw [← hr] at HF HN ⊢
  have HR : Hid (r = lkB C a b) := Lib.hid hr
  clear hr KW
  have i0 : ∀ w, (Instr.index 66 (.agg #[.int .i64 a.y, .int .i64 a.top, .int .i64 b.y, .int .i64 b.top]) (.int .i64 0)).run Tryd.prog w = .ok (.int .i64 a.y) w := fun _ => by kernel_rfl
  have i1 : ∀ w, (Instr.index 66 (.agg #[.int .i64 a.y, .int .i64 a.top, .int .i64 b.y, .int .i64 b.top]) (.int .i64 1)).run Tryd.prog w = .ok (.int .i64 a.top) w := fun _ => by kernel_rfl
  have i2 : ∀ w, (Instr.index 66 (.agg #[.int .i64 a.y, .int .i64 a.top, .int .i64 b.y, .int .i64 b.top]) (.int .i64 2)).run Tryd.prog w = .ok (.int .i64 b.y) w := fun _ => by kernel_rfl
  have i3 : ∀ w, (Instr.index 66 (.agg #[.int .i64 a.y, .int .i64 a.top, .int .i64 b.y, .int .i64 b.top]) (.int .i64 3)).run Tryd.prog w = .ok (.int .i64 b.top) w := fun _ => by kernel_rfl
  cases h1 : farB a.y
  · have HE : Hid (r = false) := Lib.hid (HF.out (fun q => by rw [h1] at q; simp at q))
    unfold farB at h1
    rw [h1] at K1
    clear h1
    go_enter Tryd.func33, Tryd.ntmps33
    go_wp2_with fail
    refine wp_loop_rounds 5 ?_
    rw [rounds_succ]
    go_wp2_with fail
    refine (K1 _).mono ?_
    rintro e w2 ⟨rfl, rfl⟩
    go_wp2_with fail
    go_ret
    exact ⟨by rw [HE.out]; rfl, by (repeat (first | (with_reducible exact New.refl _) | (with_reducible assumption) | ((with_reducible refine New.setB ?_ ?_ _); focus (first | omega | (simp; omega) | (simp; done))) | (with_reducible refine New.alloc ?_ _) | (with_reducible refine New.drew ?_) | (with_reducible refine New.drewN ?_ _) | (with_reducible refine New.hat ?_ _) | ((with_reducible apply New.snart); (with_reducible assumption))))⟩
  cases h2 : farB a.top
  · have HE : Hid (r = false) := Lib.hid (HF.out (fun q => by rw [h2] at q; simp at q))
    unfold farB at h1
    rw [h1] at K1
    clear h1
    unfold farB at h2
    rw [h2] at K2
    clear h2
    go_enter Tryd.func33, Tryd.ntmps33
    go_wp2_with fail
    refine wp_loop_rounds 5 ?_
    rw [rounds_succ]
    go_wp2_with fail
    refine (K1 _).mono ?_
    rintro e w2 ⟨rfl, rfl⟩
    go_wp2_with fail
    rw [rounds_succ]
    go_wp2_with fail
    refine (K2 _).mono ?_
    rintro e w3 ⟨rfl, rfl⟩
    go_wp2_with fail
    go_ret
    exact ⟨by rw [HE.out]; rfl, by (repeat (first | (with_reducible exact New.refl _) | (with_reducible assumption) | ((with_reducible refine New.setB ?_ ?_ _); focus (first | omega | (simp; omega) | (simp; done))) | (with_reducible refine New.alloc ?_ _) | (with_reducible refine New.drew ?_) | (with_reducible refine New.drewN ?_ _) | (with_reducible refine New.hat ?_ _) | ((with_reducible apply New.snart); (with_reducible assumption))))⟩
  cases h3 : farB b.y
  · have HE : Hid (r = false) := Lib.hid (HF.out (fun q => by rw [h3] at q; simp at q))
    unfold farB at h1
    rw [h1] at K1
    clear h1
    unfold farB at h2
    rw [h2] at K2
    clear h2
    unfold farB at h3
    rw [h3] at K3
    clear h3
    go_enter Tryd.func33, Tryd.ntmps33
    go_wp2_with fail
    refine wp_loop_rounds 5 ?_
    rw [rounds_succ]
    go_wp2_with fail
    refine (K1 _).mono ?_
    rintro e w2 ⟨rfl, rfl⟩
    go_wp2_with fail
    rw [rounds_succ]
    go_wp2_with fail
    refine (K2 _).mono ?_
    rintro e w3 ⟨rfl, rfl⟩
    go_wp2_with fail
    rw [rounds_succ]
    go_wp2_with fail
    refine (K3 _).mono ?_
    rintro e w4 ⟨rfl, rfl⟩
    go_wp2_with fail
    go_ret
    exact ⟨by rw [HE.out]; rfl, by (repeat (first | (with_reducible exact New.refl _) | (with_reducible assumption) | ((with_reducible refine New.setB ?_ ?_ _); focus (first | omega | (simp; omega) | (simp; done))) | (with_reducible refine New.alloc ?_ _) | (with_reducible refine New.drew ?_) | (with_reducible refine New.drewN ?_ _) | (with_reducible refine New.hat ?_ _) | ((with_reducible apply New.snart); (with_reducible assumption))))⟩
  cases h4 : farB b.top
  · have HE : Hid (r = false) := Lib.hid (HF.out (fun q => by rw [h4] at q; simp at q))
    unfold farB at h1
    rw [h1] at K1
    clear h1
    unfold farB at h2
    rw [h2] at K2
    clear h2
    unfold farB at h3
    rw [h3] at K3
    clear h3
    unfold farB at h4
    rw [h4] at K4
    clear h4
    go_enter Tryd.func33, Tryd.ntmps33
    go_wp2_with fail
    refine wp_loop_rounds 5 ?_
    rw [rounds_succ]
    go_wp2_with fail
    refine (K1 _).mono ?_
    rintro e w2 ⟨rfl, rfl⟩
    go_wp2_with fail
    rw [rounds_succ]
    go_wp2_with fail
    refine (K2 _).mono ?_
    rintro e w3 ⟨rfl, rfl⟩
    go_wp2_with fail
    rw [rounds_succ]
    go_wp2_with fail
    refine (K3 _).mono ?_
    rintro e w4 ⟨rfl, rfl⟩
    go_wp2_with fail
    rw [rounds_succ]
    go_wp2_with fail
    refine (K4 _).mono ?_
    rintro e w5 ⟨rfl, rfl⟩
    go_wp2_with fail
    go_ret
    exact ⟨by rw [HE.out]; rfl, by (repeat (first | (with_reducible exact New.refl _) | (with_reducible assumption) | ((with_reducible refine New.setB ?_ ?_ _); focus (first | omega | (simp; omega) | (simp; done))) | (with_reducible refine New.alloc ?_ _) | (with_reducible refine New.drew ?_) | (with_reducible refine New.drewN ?_ _) | (with_reducible refine New.hat ?_ _) | ((with_reducible apply New.snart); (with_reducible assumption))))⟩
  have hN := HN.out h1 h2 h3 h4
  have f1 := wiB_iff.1 (show wiB a.y _ _ = true from h1)
  have f2 := wiB_iff.1 (show wiB a.top _ _ = true from h2)
  have f3 := wiB_iff.1 (show wiB b.y _ _ = true from h3)
  have f4 := wiB_iff.1 (show wiB b.top _ _ = true from h4)
  unfold farB at h1
  rw [h1] at K1
  clear h1
  unfold farB at h2
  rw [h2] at K2
  clear h2
  unfold farB at h3
  rw [h3] at K3
  clear h3
  unfold farB at h4
  rw [h4] at K4
  clear h4
  have hs1 : IntKind.i64.wrap (max a.y b.y - min a.y b.y) = max a.y b.y - min a.y b.y := IntWalk.i64_in _ (by omega)
  have hs2 : IntKind.i64.wrap (min a.top b.top - max a.y b.y) = min a.top b.top - max a.y b.y := IntWalk.i64_in _ (by omega)
  clear f1 f2 f3 f4
  have HN2 := Lib.hid hN
  clear hN HN HF HR
  go_enter Tryd.func33, Tryd.ntmps33
  go_wp2_with fail
  refine wp_loop_rounds 5 ?_
  rw [rounds_succ]
  go_wp2_with fail
  refine (K1 _).mono ?_
  rintro e w2 ⟨rfl, rfl⟩
  go_wp2_with fail
  rw [rounds_succ]
  go_wp2_with fail
  refine (K2 _).mono ?_
  rintro e w3 ⟨rfl, rfl⟩
  go_wp2_with fail
  rw [rounds_succ]
  go_wp2_with fail
  refine (K3 _).mono ?_
  rintro e w4 ⟨rfl, rfl⟩
  go_wp2_with fail
  rw [rounds_succ]
  go_wp2_with fail
  refine (K4 _).mono ?_
  rintro e w5 ⟨rfl, rfl⟩
  go_wp2_with fail
  rw [rounds_succ]
  go_wp2_with fail
  refine Code.at (fun W hW => ?_)
  have n0 : New w W := by subst hW; (repeat (first | (with_reducible exact New.refl _) | (with_reducible assumption) | ((with_reducible refine New.setB ?_ ?_ _); focus (first | omega | (simp; omega) | (simp; done))) | (with_reducible refine New.alloc ?_ _) | (with_reducible refine New.drew ?_) | (with_reducible refine New.drewN ?_ _) | (with_reducible refine New.hat ?_ _) | ((with_reducible apply New.snart); (with_reducible assumption))))
  have c1 : W.cell? ⟨w.heap.size, 1, none⟩ = some (.int .i64 C.cb) := by subst hW; go_simp
  have c2 : W.cell? ⟨w.heap.size, 2, none⟩ = some (.int .i64 C.ht) := by subst hW; go_simp
  have a0 : W.cell? ⟨w.heap.size + 1, 0, none⟩ = some (.int .i64 a.y) := by subst hW; go_simp
  have a1 : W.cell? ⟨w.heap.size + 1, 1, none⟩ = some (.int .i64 a.top) := by subst hW; go_simp
  have a2 : W.cell? ⟨w.heap.size + 1, 2, none⟩ = some (.int .i64 a.area) := by subst hW; go_simp
  have b0 : W.cell? ⟨w.heap.size + 1 + 1, 0, none⟩ = some (.int .i64 b.y) := by subst hW; go_simp
  have b1 : W.cell? ⟨w.heap.size + 1 + 1, 1, none⟩ = some (.int .i64 b.top) := by subst hW; go_simp
  have b2 : W.cell? ⟨w.heap.size + 1 + 1, 2, none⟩ = some (.int .i64 b.area) := by subst hW; go_simp
  clear hW i0 i1 i2 i3 K1 K2 K3 K4
  (refine wp_region_hat (by kernel_rfl) (by kernel_rfl) ?_; intro hatc hatf; (repeat (go_big_quiet_step ((fail)))); refine wpQuiet_nil ?_; rintro _ ⟨q, rfl⟩)
  go_wp2_with fail
  all_goals
    go_ret
    refine ⟨?_, n0.trans q.h⟩
    rw [HN2.out]
    first | (simp [*]; done) | (simp [*]; omega)


set_option maxHeartbeats 4000000 in
theorem lk_Linked (C : CfgR) (a b : Fl) (w : World) : Calls Tryd.prog 17 #[.agg #[.int .i64 C.cl, .int .i64 C.cb, .int .i64 C.ht, .int .i64 C.ri, .int .i64 C.ru, .int .i64 C.wd, .int .i64 C.dp], .agg #[.int .i64 a.y, .int .i64 a.top, .int .i64 a.area], .agg #[.int .i64 b.y, .int .i64 b.top, .int .i64 b.area]] w fun e w' => e = .returned (.bool (lkF C a b)) ∧ New w w' := by
  have KC : Hid (∀ W, Calls Tryd.prog 32 #[.agg #[.int .i64 C.cl, .int .i64 C.cb, .int .i64 C.ht, .int .i64 C.ri, .int .i64 C.ru, .int .i64 C.wd, .int .i64 C.dp]] W fun e w' => e = .returned (.int .i64 C.err) ∧ New W w') := Lib.hid (fun W => (check_any C.cl C.cb C.ht C.ri C.ru C.wd C.dp W).mono fun e w' h => ⟨h.1, h.2.1⟩)
  have KL := Lib.hid (fun W => lk_linked C a b W)
  have h1 := err_or C
  have HF := Lib.hid (fun h => lkF_fine (C := C) h a b)
  have HB := Lib.hid (fun h => lkF_bad (C := C) h a b)
  generalize C.err = ce at *
  rcases h1 with rfl | rfl
  · rw [HF.out rfl]
    clear HF HB
    go_enter Tryd.func17, Tryd.ntmps17
    go_wp2_with fail
    refine Calls.at (fun W hW => ?_)
    have n0 : New w W := by subst hW; (repeat (first | (with_reducible exact New.refl _) | (with_reducible assumption) | ((with_reducible refine New.setB ?_ ?_ _); focus (first | omega | (simp; omega) | (simp; done))) | (with_reducible refine New.alloc ?_ _) | (with_reducible refine New.drew ?_) | (with_reducible refine New.drewN ?_ _) | (with_reducible refine New.hat ?_ _) | ((with_reducible apply New.snart); (with_reducible assumption))))
    ((have c0 : W.cell? ⟨w.heap.size, 0, none⟩ = some (.int .i64 C.cl) := (by subst hW; go_simp)); (have c1 : W.cell? ⟨w.heap.size, 1, none⟩ = some (.int .i64 C.cb) := (by subst hW; go_simp)); (have c2 : W.cell? ⟨w.heap.size, 2, none⟩ = some (.int .i64 C.ht) := (by subst hW; go_simp)); (have c3 : W.cell? ⟨w.heap.size, 3, none⟩ = some (.int .i64 C.ri) := (by subst hW; go_simp)); (have c4 : W.cell? ⟨w.heap.size, 4, none⟩ = some (.int .i64 C.ru) := (by subst hW; go_simp)); (have c5 : W.cell? ⟨w.heap.size, 5, none⟩ = some (.int .i64 C.wd) := (by subst hW; go_simp)); (have c6 : W.cell? ⟨w.heap.size, 6, none⟩ = some (.int .i64 C.dp) := (by subst hW; go_simp)))
    have a0 : W.cell? ⟨w.heap.size + 1, 0, none⟩ = some (.int .i64 a.y) := by subst hW; go_simp
    have a1 : W.cell? ⟨w.heap.size + 1, 1, none⟩ = some (.int .i64 a.top) := by subst hW; go_simp
    have a2 : W.cell? ⟨w.heap.size + 1, 2, none⟩ = some (.int .i64 a.area) := by subst hW; go_simp
    have b0 : W.cell? ⟨w.heap.size + 1 + 1, 0, none⟩ = some (.int .i64 b.y) := by subst hW; go_simp
    have b1 : W.cell? ⟨w.heap.size + 1 + 1, 1, none⟩ = some (.int .i64 b.top) := by subst hW; go_simp
    have b2 : W.cell? ⟨w.heap.size + 1 + 1, 2, none⟩ = some (.int .i64 b.area) := by subst hW; go_simp
    clear hW
    refine (KC.out _).mono ?_
    rintro e w1 ⟨rfl, n1⟩
    ((replace c0 := New.keep n1 c0); (replace c1 := New.keep n1 c1); (replace c2 := New.keep n1 c2); (replace c3 := New.keep n1 c3); (replace c4 := New.keep n1 c4); (replace c5 := New.keep n1 c5); (replace c6 := New.keep n1 c6))
    replace a0 := n1.keep a0
    replace a1 := n1.keep a1
    replace a2 := n1.keep a2
    replace b0 := n1.keep b0
    replace b1 := n1.keep b1
    replace b2 := n1.keep b2
    go_wp2_with fail
    refine (KL.out _).mono ?_
    rintro e w2 ⟨rfl, n2⟩
    go_wp2_with fail
    go_ret
    exact ⟨rfl, n0.trans (n1.trans n2)⟩
  · rw [HB.out (by decide)]
    clear HF HB
    go_enter Tryd.func17, Tryd.ntmps17
    go_wp2_with fail
    refine Calls.at (fun W hW => ?_)
    have n0 : New w W := by subst hW; (repeat (first | (with_reducible exact New.refl _) | (with_reducible assumption) | ((with_reducible refine New.setB ?_ ?_ _); focus (first | omega | (simp; omega) | (simp; done))) | (with_reducible refine New.alloc ?_ _) | (with_reducible refine New.drew ?_) | (with_reducible refine New.drewN ?_ _) | (with_reducible refine New.hat ?_ _) | ((with_reducible apply New.snart); (with_reducible assumption))))
    clear hW
    refine (KC.out _).mono ?_
    rintro e w1 ⟨rfl, n1⟩
    go_wp2_with fail
    go_ret
    exact ⟨rfl, n0.trans n1⟩

end Go.Proofs.YtljcebahjfifhaaDoor

/- Layer 13: what the laws say of three pairs; the law LinksArea. -/
namespace Go.Proofs.YtljcebahjfifhaaDoor
open Go.RowKit
set_option linter.unusedVariables false

def wk13 : CfgR := ⟨0, 1, 3, 1, 1, 8, 8⟩
theorem wk13_a : lkF wk13 ⟨0, 9, 1⟩ ⟨1, 9, 1⟩ = true := by decide +kernel
theorem wk13_b : lkF wk13 ⟨0, 9, 1⟩ ⟨2, 9, 1⟩ = false := by decide +kernel
theorem wk13_c : lkF wk13 ⟨0, 3, 1⟩ ⟨1, 9, 1⟩ = false := by decide +kernel

set_option maxHeartbeats 8000000 in
set_option maxRecDepth 100000 in
theorem lk_wakes (w : World) (hD : Dirs w) : Calls Tryd.prog 8 #[] w fun e w' => e = .returned (.bool true) ∧ New w w' := by
  have KS := Lib.hid (fun W (q : New w W) => lk_Step 3 W (hD.new q))
  have hst : stV 3 = .tuple #[.int .i64 0, .int .i64 (-1), .bool true] := by rfl
  rw [hst] at KS
  have K1 := Lib.hid (fun W => lk_Linked wk13 ⟨0, 9, 1⟩ ⟨1, 9, 1⟩ W)
  have K2 := Lib.hid (fun W => lk_Linked wk13 ⟨0, 9, 1⟩ ⟨2, 9, 1⟩ W)
  have K3 := Lib.hid (fun W => lk_Linked wk13 ⟨0, 3, 1⟩ ⟨1, 9, 1⟩ W)
  rw [wk13_a] at K1
  rw [wk13_b] at K2
  rw [wk13_c] at K3
  unfold wk13 at K1 K2 K3
  simp only at K1 K2 K3
  clear hst hD
  go_enter Tryd.func8, Tryd.ntmps8
  go_wp2_with fail
  refine Calls.at (fun W hW => ?_)
  have n0 : New w W := by subst hW; (repeat (first | (with_reducible exact New.refl _) | (with_reducible assumption) | ((with_reducible refine New.setB ?_ ?_ _); focus (first | omega | (simp; omega) | (simp; done))) | (with_reducible refine New.alloc ?_ _) | (with_reducible refine New.drew ?_) | (with_reducible refine New.drewN ?_ _) | (with_reducible refine New.hat ?_ _) | ((with_reducible apply New.snart); (with_reducible assumption))))
  ((have c0 : W.cell? ⟨w.heap.size, 0, none⟩ = some (.int .i64 0) := (by subst hW; go_simp)); (have c1 : W.cell? ⟨w.heap.size, 1, none⟩ = some (.int .i64 1) := (by subst hW; go_simp)); (have c2 : W.cell? ⟨w.heap.size, 2, none⟩ = some (.int .i64 3) := (by subst hW; go_simp)); (have c3 : W.cell? ⟨w.heap.size, 3, none⟩ = some (.int .i64 1) := (by subst hW; go_simp)); (have c4 : W.cell? ⟨w.heap.size, 4, none⟩ = some (.int .i64 1) := (by subst hW; go_simp)); (have c5 : W.cell? ⟨w.heap.size, 5, none⟩ = some (.int .i64 8) := (by subst hW; go_simp)); (have c6 : W.cell? ⟨w.heap.size, 6, none⟩ = some (.int .i64 8) := (by subst hW; go_simp)))
  have a0 : W.cell? ⟨w.heap.size + 1, 0, none⟩ = some (.int .i64 0) := by subst hW; go_simp
  have a1 : W.cell? ⟨w.heap.size + 1, 1, none⟩ = some (.int .i64 9) := by subst hW; go_simp
  have a2 : W.cell? ⟨w.heap.size + 1, 2, none⟩ = some (.int .i64 1) := by subst hW; go_simp
  clear hW
  have HC := Lib.hid (fun W2 (q : New W W2) => And.intro (q.keep c0) (And.intro (q.keep c1) (And.intro (q.keep c2) (And.intro (q.keep c3) (And.intro (q.keep c4) (And.intro (q.keep c5) (And.intro (q.keep c6) (And.intro (q.keep a0) (And.intro (q.keep a1) (q.keep a2))))))))))
  clear c0 c1 c2 c3 c4 c5 c6 a0 a1 a2
  have N0 := Lib.hid n0
  refine (KS.out _ n0).mono ?_
  rintro e w1 ⟨rfl, n1⟩
  obtain ⟨c0, c1, c2, c3, c4, c5, c6, a0, a1, a2⟩ := HC.out _ n1
  go_wp2_with fail
  refine (K1.out _).mono ?_
  rintro e w2 ⟨rfl, n2⟩
  clear c0 c1 c2 c3 c4 c5 c6 a0 a1 a2
  have N2 := n1.trans n2
  obtain ⟨c0, c1, c2, c3, c4, c5, c6, a0, a1, a2⟩ := HC.out _ N2
  go_wp2_with fail
  refine (K2.out _).mono ?_
  rintro e w3 ⟨rfl, n3⟩
  clear c0 c1 c2 c3 c4 c5 c6 a0 a1 a2
  have N3 := N2.trans n3
  obtain ⟨c0, c1, c2, c3, c4, c5, c6, a0, a1, a2⟩ := HC.out _ N3
  go_wp2_with fail
  refine (K3.out _).mono ?_
  rintro e w4 ⟨rfl, n4⟩
  clear c0 c1 c2 c3 c4 c5 c6 a0 a1 a2
  have N4 := N0.out.trans (N3.trans n4)
  go_wp2_with fail
  go_ret
  exact ⟨rfl, N4⟩

set_option maxHeartbeats 8000000 in
set_option maxRecDepth 100000 in
theorem l_linksArea (C : CfgR) (a b : Fl) (n : Int) (w : World) (hD : Dirs w) : Calls Tryd.prog 6 #[.agg #[.int .i64 C.cl, .int .i64 C.cb, .int .i64 C.ht, .int .i64 C.ri, .int .i64 C.ru, .int .i64 C.wd, .int .i64 C.dp], .agg #[.int .i64 a.y, .int .i64 a.top, .int .i64 a.area], .agg #[.int .i64 b.y, .int .i64 b.top, .int .i64 b.area], .int .i64 n] w fun e w' => e = .returned (.bool true) ∧ New w w' := by
  have KW := Lib.hid (fun W (q : New w W) => lk_wakes W (hD.new q))
  have K1 := Lib.hid (fun W => lk_Linked C a b W)
  have K2 : Hid (∀ W, Calls Tryd.prog 17 #[.agg #[.int .i64 C.cl, .int .i64 C.cb, .int .i64 C.ht, .int .i64 C.ri, .int .i64 C.ru, .int .i64 C.wd, .int .i64 C.dp], .agg #[.int .i64 b.y, .int .i64 b.top, .int .i64 b.area], .agg #[.int .i64 a.y, .int .i64 a.top, .int .i64 a.area]] W fun e w' => e = .returned (.bool (lkF C a b)) ∧ New W w') := Lib.hid (fun W => by have := lk_Linked C b a W; rw [lkF_comm] at this; exact this)
  have K3 : Hid (∀ W, Calls Tryd.prog 17 #[.agg #[.int .i64 C.cl, .int .i64 C.cb, .int .i64 C.ht, .int .i64 C.ri, .int .i64 C.ru, .int .i64 C.wd, .int .i64 C.dp], .agg #[.int .i64 a.y, .int .i64 a.top, .int .i64 0], .agg #[.int .i64 b.y, .int .i64 b.top, .int .i64 b.area]] W fun e w' => e = .returned (.bool false) ∧ New W w') := Lib.hid (fun W => by have := lk_Linked C ⟨a.y, a.top, 0⟩ b W; rw [lkF_none] at this; exact this)
  have K4 : Hid (∀ W, Calls Tryd.prog 17 #[.agg #[.int .i64 C.cl, .int .i64 C.cb, .int .i64 C.ht, .int .i64 C.ri, .int .i64 C.ru, .int .i64 C.wd, .int .i64 C.dp], .agg #[.int .i64 b.y, .int .i64 b.top, .int .i64 b.area], .agg #[.int .i64 a.y, .int .i64 a.top, .int .i64 0]] W fun e w' => e = .returned (.bool false) ∧ New W w') := Lib.hid (fun W => by have := lk_Linked C b ⟨a.y, a.top, 0⟩ W; rw [lkF_comm, lkF_none] at this; exact this)
  have K5 : Hid (0 < a.area → 0 < n → ∀ W, Calls Tryd.prog 17 #[.agg #[.int .i64 C.cl, .int .i64 C.cb, .int .i64 C.ht, .int .i64 C.ri, .int .i64 C.ru, .int .i64 C.wd, .int .i64 C.dp], .agg #[.int .i64 a.y, .int .i64 a.top, .int .i64 n], .agg #[.int .i64 b.y, .int .i64 b.top, .int .i64 b.area]] W fun e w' => e = .returned (.bool (lkF C a b)) ∧ New W w') := Lib.hid (fun q1 q2 W => by have := lk_Linked C ⟨a.y, a.top, n⟩ b W; rw [lkF_area C a b q1 q2] at this; exact this)
  generalize lkF C a b = lb at *
  have hbb : (lb == lb) = true := by simp
  have hbn : (lb != lb) = false := by simp
  clear hD
  go_enter Tryd.func6, Tryd.ntmps6
  go_wp2_with fail
  refine Calls.at (fun W hW => ?_)
  have n0 : New w W := by subst hW; (repeat (first | (with_reducible exact New.refl _) | (with_reducible assumption) | ((with_reducible refine New.setB ?_ ?_ _); focus (first | omega | (simp; omega) | (simp; done))) | (with_reducible refine New.alloc ?_ _) | (with_reducible refine New.drew ?_) | (with_reducible refine New.drewN ?_ _) | (with_reducible refine New.hat ?_ _) | ((with_reducible apply New.snart); (with_reducible assumption))))
  ((have c0 : W.cell? ⟨w.heap.size, 0, none⟩ = some (.int .i64 C.cl) := (by subst hW; go_simp)); (have c1 : W.cell? ⟨w.heap.size, 1, none⟩ = some (.int .i64 C.cb) := (by subst hW; go_simp)); (have c2 : W.cell? ⟨w.heap.size, 2, none⟩ = some (.int .i64 C.ht) := (by subst hW; go_simp)); (have c3 : W.cell? ⟨w.heap.size, 3, none⟩ = some (.int .i64 C.ri) := (by subst hW; go_simp)); (have c4 : W.cell? ⟨w.heap.size, 4, none⟩ = some (.int .i64 C.ru) := (by subst hW; go_simp)); (have c5 : W.cell? ⟨w.heap.size, 5, none⟩ = some (.int .i64 C.wd) := (by subst hW; go_simp)); (have c6 : W.cell? ⟨w.heap.size, 6, none⟩ = some (.int .i64 C.dp) := (by subst hW; go_simp)))
  have a0 : W.cell? ⟨w.heap.size + 1, 0, none⟩ = some (.int .i64 a.y) := by subst hW; go_simp
  have a1 : W.cell? ⟨w.heap.size + 1, 1, none⟩ = some (.int .i64 a.top) := by subst hW; go_simp
  have a2 : W.cell? ⟨w.heap.size + 1, 2, none⟩ = some (.int .i64 a.area) := by subst hW; go_simp
  have b0 : W.cell? ⟨w.heap.size + 1 + 1, 0, none⟩ = some (.int .i64 b.y) := by subst hW; go_simp
  have b1 : W.cell? ⟨w.heap.size + 1 + 1, 1, none⟩ = some (.int .i64 b.top) := by subst hW; go_simp
  have b2 : W.cell? ⟨w.heap.size + 1 + 1, 2, none⟩ = some (.int .i64 b.area) := by subst hW; go_simp
  clear hW
  have HC := Lib.hid (fun W2 (q : New W W2) => And.intro (q.keep c0) (And.intro (q.keep c1) (And.intro (q.keep c2) (And.intro (q.keep c3) (And.intro (q.keep c4) (And.intro (q.keep c5) (And.intro (q.keep c6) (And.intro (q.keep a0) (And.intro (q.keep a1) (And.intro (q.keep a2) (And.intro (q.keep b0) (And.intro (q.keep b1) (q.keep b2)))))))))))))
  clear c0 c1 c2 c3 c4 c5 c6 a0 a1 a2 b0 b1 b2
  have N0 := Lib.hid n0
  refine (K1.out _).mono ?_
  rintro e w1 ⟨rfl, n1⟩
  have N1 := Lib.hid n1
  clear n0 n1
  obtain ⟨c0, c1, c2, c3, c4, c5, c6, a0, a1, a2, b0, b1, b2⟩ := HC.out _ N1.out
  go_upto_region 4 with fail
  refine Code.at (fun W2 hW => ?_)
  have n2 : New w1 W2 := by subst hW; (repeat (first | (with_reducible exact New.refl _) | (with_reducible assumption) | ((with_reducible refine New.setB ?_ ?_ _); focus (first | omega | (simp; omega) | (simp; done))) | (with_reducible refine New.alloc ?_ _) | (with_reducible refine New.drew ?_) | (with_reducible refine New.drewN ?_ _) | (with_reducible refine New.hat ?_ _) | ((with_reducible apply New.snart); (with_reducible assumption))))
  have z0 : W2.cell? ⟨w1.heap.size, 0, none⟩ = some (.int .i64 a.y) := by subst hW; go_simp
  have z1 : W2.cell? ⟨w1.heap.size, 1, none⟩ = some (.int .i64 a.top) := by subst hW; go_simp
  have z2 : W2.cell? ⟨w1.heap.size, 2, none⟩ = some (.int .i64 0) := by subst hW; go_simp
  clear hW c0 c1 c2 c3 c4 c5 c6 a0 a1 a2 b0 b1 b2
  have N2 := Lib.hid (N1.out.trans n2)
  clear n2
  obtain ⟨c0, c1, c2, c3, c4, c5, c6, a0, a1, a2, b0, b1, b2⟩ := HC.out _ N2.out
  have F1 := Lib.hid (fun (q : Hat W2) => K1.out q.w)
  have F2 := Lib.hid (fun (q : Hat W2) => K2.out q.w)
  have F3 := Lib.hid (fun (q : Hat W2) => K3.out q.w)
  have F4 := Lib.hid (fun (q : Hat W2) => K4.out q.w)
  refine wp_region_hat (by kernel_rfl) (by kernel_rfl) ?_
  intro hatc hatf
  iterate 4 (go_big_quiet_step ((go_at_call 17; with_reducible exact Calls.hat (F3.out _))))
  iterate 5 (go_big_quiet_step ((go_at_call 17; with_reducible exact Calls.hat (F4.out _))))
  iterate 6 (go_big_quiet_step ((go_at_call 17; with_reducible exact Calls.hat (F1.out _))))
  iterate 6 (go_big_quiet_step ((go_at_call 17; with_reducible exact Calls.hat (F2.out _))))
  refine wpQuiet_nil ?_
  rintro _ ⟨q, rfl⟩
  replace N2 := Lib.hid (N2.out.trans q.h)
  clear hatc hatf F1 F2 F3 F4 z0 z1 z2 c0 c1 c2 c3 c4 c5 c6 a0 a1 a2 b0 b1 b2
  generalize q.w = w3 at *
  clear q
  obtain ⟨c0, c1, c2, c3, c4, c5, c6, a0, a1, a2, b0, b1, b2⟩ := HC.out _ N2.out
  by_cases q1 : a.area < 1
  · have e1 : decide (a.area < 1) = true := decide_eq_true q1
    clear q1
    go_wp2_with fail
    refine (KW.out _ (N0.out.trans N2.out)).mono ?_
    rintro e w4 ⟨rfl, n4⟩
    clear c0 c1 c2 c3 c4 c5 c6 a0 a1 a2 b0 b1 b2
    go_wp2_with fail
    go_ret
    exact ⟨rfl, N0.out.trans (N2.out.trans n4)⟩
  have e1 : decide (a.area < 1) = false := decide_eq_false q1
  by_cases q2 : n < 1
  · have e2 : decide (n < 1) = true := decide_eq_true q2
    clear q1 q2
    go_wp2_with fail
    refine (KW.out _ (N0.out.trans N2.out)).mono ?_
    rintro e w4 ⟨rfl, n4⟩
    clear c0 c1 c2 c3 c4 c5 c6 a0 a1 a2 b0 b1 b2
    go_wp2_with fail
    go_ret
    exact ⟨rfl, N0.out.trans (N2.out.trans n4)⟩
  have e2 : decide (n < 1) = false := decide_eq_false q2
  have K6 := Lib.hid (K5.out (by omega) (by omega))
  clear q1 q2 K5
  go_upto_region 10 with fail
  refine Code.at (fun W5 hW => ?_)
  have n5 : New w3 W5 := by subst hW; (repeat (first | (with_reducible exact New.refl _) | (with_reducible assumption) | ((with_reducible refine New.setB ?_ ?_ _); focus (first | omega | (simp; omega) | (simp; done))) | (with_reducible refine New.alloc ?_ _) | (with_reducible refine New.drew ?_) | (with_reducible refine New.drewN ?_ _) | (with_reducible refine New.hat ?_ _) | ((with_reducible apply New.snart); (with_reducible assumption))))
  have z0 : W5.cell? ⟨w3.heap.size, 0, none⟩ = some (.int .i64 a.y) := by subst hW; go_simp
  have z1 : W5.cell? ⟨w3.heap.size, 1, none⟩ = some (.int .i64 a.top) := by subst hW; go_simp
  have z2 : W5.cell? ⟨w3.heap.size, 2, none⟩ = some (.int .i64 n) := by subst hW; go_simp
  clear hW c0 c1 c2 c3 c4 c5 c6 a0 a1 a2 b0 b1 b2
  have N5 := N2.out.trans n5
  obtain ⟨c0, c1, c2, c3, c4, c5, c6, a0, a1, a2, b0, b1, b2⟩ := HC.out _ N5
  go_wp2_with fail
  refine (K6.out _).mono ?_
  rintro e w6 ⟨rfl, n6⟩
  have N6 := N0.out.trans (N5.trans n6)
  clear c0 c1 c2 c3 c4 c5 c6 a0 a1 a2 b0 b1 b2 z0 z1 z2 n5 n6 N5
  go_wp2_with fail
  refine (KW.out _ N6).mono ?_
  rintro e w7 ⟨rfl, n7⟩
  go_wp2_with fail
  go_ret
  exact ⟨rfl, N6.trans n7⟩

end Go.Proofs.YtljcebahjfifhaaDoor
