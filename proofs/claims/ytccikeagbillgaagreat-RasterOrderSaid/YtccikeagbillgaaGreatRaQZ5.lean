import Derived.Test.YtccikeagbillgaaGreatClQZ5
import Derived.Test.YtccikeagbillgaaGreatRaA0Z5
import Derived.Test.YtccikeagbillgaaGreatRaC0Z5
import Derived.Shelf.Abstract
import Derived.Shelf.RegionOpen
import Derived.WalkKit
import Derived.OwnWalkIn
import Derived.TacticsInMore
import Derived.LoopNIn
import Derived.LoopIn
import Derived.Sort.WalkA
import Derived.Deep.Quiet
import Derived.BigQuiet
import Derived.OwnWalk

/- The pieces that triangles have over columns of a box, and the columns that they make: plain numbers. No function of the program in sight. -/
namespace Go.Proofs.YtccikeagbillgaaGreat
open Go.RowKit
set_option linter.unusedVariables false

/-- The piece over a column. -/
def pcO (C : CfgR) (x z : Int) (T : TriR) : Option Sn := if ovB T x z then some ⟨ovLo T x z, ovHi T x z, walkT C T⟩ else none
def inW (C : CfgR) (x z : Int) : Bool := decide (0 ≤ x) && decide (x < C.wd) && decide (0 ≤ z) && decide (z < C.dp)
theorem inW_iff {C : CfgR} {x z : Int} : inW C x z = true ↔ (0 ≤ x ∧ x < C.wd) ∧ (0 ≤ z ∧ z < C.dp) := by
  unfold inW; simp only [Bool.and_eq_true, decide_eq_true_eq, and_assoc]
/-- The pieces over a column of the world. -/
def colL (C : CfgR) (l : List TriR) (x z : Int) : List Sn := if inW C x z then l.filterMap (pcO C x z) else []
theorem pc_fit {C : CfgR} {x z : Int} {T : TriR} {p : Sn} (h : pcO C x z T = some p) : (-2048 ≤ p.lo ∧ p.lo ≤ p.hi ∧ p.hi ≤ 2048) ∧ ovB T x z = true := by
  unfold pcO at h
  split at h
  · rename_i h1
    injection h with h
    subst h
    have := (ov_between h1).1
    have := ov_bd T x z
    exact ⟨by dsimp only; omega, h1⟩
  · cases h
theorem col_mem {C : CfgR} {l : List TriR} {x z : Int} {p : Sn} : p ∈ colL C l x z ↔ inW C x z = true ∧ ∃ T ∈ l, pcO C x z T = some p := by
  unfold colL
  split
  · rename_i h; simp [h]
  · rename_i h; simp [h]
theorem col_fit {C : CfgR} {l : List TriR} {x z : Int} {p : Sn} (h : p ∈ colL C l x z) : -2048 ≤ p.lo ∧ p.lo ≤ p.hi ∧ p.hi ≤ 2048 := by
  obtain ⟨-, T, -, h1⟩ := col_mem.1 h
  exact (pc_fit h1).1
theorem col_proper (C : CfgR) (l : List TriR) (x z : Int) : Proper (colL C l x z) := fun p hp => (col_fit hp).2.1
theorem col_len (C : CfgR) (l : List TriR) (x z : Int) : (colL C l x z).length ≤ l.length := by
  unfold colL
  split
  · exact List.length_filterMap_le _ _
  · simp
def colQ (C : CfgR) (l : List TriR) (x z : Int) : List Sn := mrg (colL C l x z)
theorem putS_in (l : List Sn) : (mrg l).length ≤ l.length := by
  have key : ∀ (l R : List Sn), (l.foldl (fun R s => putS s R false) R).length ≤ R.length + l.length := by
    intro l
    induction l with
    | nil => intro R; simp
    | cons s l ih =>
      intro R
      rw [List.foldl_cons]
      have := ih (putS s R false)
      have := putS_len s R false
      simp; omega
  have := key l []
  unfold mrg
  simpa using this
theorem colQ_len (C : CfgR) (l : List TriR) (x z : Int) : (colQ C l x z).length ≤ l.length := Nat.le_trans (putS_in _) (col_len C l x z)
/-- Is a column full? -/
def fullB (C : CfgR) (l : List TriR) (x z : Int) : Bool := decide (8 < (colQ C l x z).length)
def cE (C : CfgR) (l : List TriR) (x z : Int) : Int := if rchk C l ≠ 0 then rchk C l else if fullB C l x z then 51 else 0
def cR (C : CfgR) (l : List TriR) (x z : Int) : List Sn := if cE C l x z = 0 then colQ C l x z else []
def atQ (C : CfgR) (l : List TriR) (x z w : Int) (n : Nat) : List Sn := colQ C l (plX x w n) (plZ z w n)
def atF (C : CfgR) (l : List TriR) (x z w : Int) (n : Nat) : Bool := fullB C l (plX x w n) (plZ z w n)
/-- The first n columns: all that are, if none is full. -/
def rowsL (C : CfgR) (l : List TriR) (x z w : Int) (n : Nat) : List (List Sn) := (List.range n).map (atQ C l x z w)
def anyF (C : CfgR) (l : List TriR) (x z w : Int) (n : Nat) : Bool := (List.range n).any (atF C l x z w)
theorem rowsL_succ (C : CfgR) (l : List TriR) (x z w : Int) (n : Nat) : rowsL C l x z w (n + 1) = rowsL C l x z w n ++ [atQ C l x z w n] := by unfold rowsL; rw [List.range_succ, List.map_append]; rfl
theorem rowsL_len (C : CfgR) (l : List TriR) (x z w : Int) (n : Nat) : (rowsL C l x z w n).length = n := by unfold rowsL; simp
theorem anyF_succ (C : CfgR) (l : List TriR) (x z w : Int) (n : Nat) : anyF C l x z w (n + 1) = (anyF C l x z w n || atF C l x z w n) := by unfold anyF; rw [List.range_succ, List.any_append]; simp
theorem anyF_of {C : CfgR} {l : List TriR} {x z w : Int} {n m : Nat} (h : n < m) (k : atF C l x z w n = true) : anyF C l x z w m = true := List.any_eq_true.2 ⟨n, by simpa using h, k⟩
def bE (C : CfgR) (l : List TriR) (x z w d : Int) : Int := if rchk C l ≠ 0 then rchk C l else if !boxB x z w d then 2 else if anyF C l x z w (w * d).toNat then 51 else 0
def bR (C : CfgR) (l : List TriR) (x z w d : Int) : List (List Sn) := if bE C l x z w d = 0 then rowsL C l x z w (w * d).toNat else []

theorem rchk_no {C : CfgR} {l : List TriR} {x z : Int} (h : rchk C l ≠ 0) : cE C l x z = rchk C l ∧ cR C l x z = [] := by
  have e : cE C l x z = rchk C l := by unfold cE; rw [if_pos h]
  exact ⟨e, by unfold cR; rw [e, if_neg h]⟩
theorem c_full {C : CfgR} {l : List TriR} {x z : Int} (h : rchk C l = 0) (k : fullB C l x z = true) : cE C l x z = 51 ∧ cR C l x z = [] := by
  have e : cE C l x z = 51 := by unfold cE; rw [if_neg (by simpa using h), if_pos k]
  exact ⟨e, by unfold cR; rw [e, if_neg (by decide)]⟩
theorem c_fine {C : CfgR} {l : List TriR} {x z : Int} (h : rchk C l = 0) (k : fullB C l x z = false) : cE C l x z = 0 ∧ cR C l x z = colQ C l x z := by
  have e : cE C l x z = 0 := by unfold cE; rw [if_neg (by simpa using h), k]; rfl
  exact ⟨e, by unfold cR; rw [e, if_pos rfl]⟩
theorem b_no {C : CfgR} {l : List TriR} {x z w d : Int} (h : rchk C l ≠ 0) : bE C l x z w d = rchk C l ∧ bR C l x z w d = [] := by
  have e : bE C l x z w d = rchk C l := by unfold bE; rw [if_pos h]
  exact ⟨e, by unfold bR; rw [e, if_neg h]⟩
theorem b_not {C : CfgR} {l : List TriR} {x z w d : Int} (h : rchk C l = 0) (k : boxB x z w d = false) : bE C l x z w d = 2 ∧ bR C l x z w d = [] := by
  have e : bE C l x z w d = 2 := by unfold bE; rw [if_neg (by simpa using h), k]; rfl
  exact ⟨e, by unfold bR; rw [e, if_neg (by decide)]⟩
theorem b_full {C : CfgR} {l : List TriR} {x z w d : Int} (h : rchk C l = 0) (k : boxB x z w d = true) (f : anyF C l x z w (w * d).toNat = true) : bE C l x z w d = 51 ∧ bR C l x z w d = [] := by
  have e : bE C l x z w d = 51 := by unfold bE; rw [if_neg (by simpa using h), k, f]; rfl
  exact ⟨e, by unfold bR; rw [e, if_neg (by decide)]⟩
theorem b_fine {C : CfgR} {l : List TriR} {x z w d : Int} (h : rchk C l = 0) (k : boxB x z w d = true) (f : anyF C l x z w (w * d).toNat = false) : bE C l x z w d = 0 ∧ bR C l x z w d = rowsL C l x z w (w * d).toNat := by
  have e : bE C l x z w d = 0 := by unfold bE; rw [if_neg (by simpa using h), k, f]; rfl
  exact ⟨e, by unfold bR; rw [e, if_pos rfl]⟩

/-! Which triangles touch a box. -/
def InB (C : CfgR) (bx bz bw bd x z : Int) : Prop := (bx ≤ x ∧ x ≤ bx + bw - 1) ∧ (bz ≤ z ∧ z ≤ bz + bd - 1) ∧ inW C x z = true
def OverB (C : CfgR) (T : TriR) (bx bz bw bd : Int) : Prop := ∃ x z, InB C bx bz bw bd x z ∧ ovB T x z = true
open Classical in
noncomputable def touB (C : CfgR) (bx bz bw bd : Int) (T : TriR) : Bool := decide (OverB C T bx bz bw bd)
noncomputable def touL (C : CfgR) (l : List TriR) (bx bz bw bd : Int) : List TriR := if rchk C l = 0 ∧ boxB bx bz bw bd = true then l.filter (touB C bx bz bw bd) else []

/-! What goes over a triangle's pieces in a box: by place. -/
/-- A piece and its place, of n places. -/
abbrev El (N : Nat) := { p : Nat × Sn // p.1 < N }
theorem flat_one {β : Type} (k i0 : Nat) (f : Nat → List β) (h : ∀ i, i < k → i ≠ i0 → f i = []) : (List.range k).flatMap f = if i0 < k then f i0 else [] := by
  induction k with
  | zero => simp
  | succ k ih =>
    rw [List.range_succ, List.flatMap_append, ih (fun i hi => h i (by omega))]
    simp only [List.flatMap_cons, List.flatMap_nil, List.append_nil]
    by_cases e : i0 < k
    · rw [if_pos e, if_pos (by omega), h k (by omega) (by omega), List.append_nil]
    · rw [if_neg e, List.nil_append]
      by_cases e2 : k = i0
      · subst e2; rw [if_pos (by omega)]
      · rw [if_neg (by omega), h k (by omega) e2]
theorem flat_succ {β : Type} (f : Nat → List β) (n : Nat) : (List.range (n + 1)).flatMap f = (List.range n).flatMap f ++ f n := by
  rw [List.range_succ, List.flatMap_append]; simp

/-- What comes of one column. -/
def elL (C : CfgR) (T : TriR) (b : Bx) (x z : Int) : List (El b.n) := if h : b.inside x z then ((pcO C x z T).map fun s => (⟨((b.pl x z).toNat, s), (Bx.pl_lt h).2.2⟩ : El b.n)).toList else []
theorem elL_none {C : CfgR} {T : TriR} {b : Bx} {x z : Int} (h : ovB T x z = false) : elL C T b x z = [] := by
  unfold elL
  have : pcO C x z T = none := by unfold pcO; rw [h]; rfl
  rw [this]
  split <;> rfl
theorem elL_some {C : CfgR} {T : TriR} {b : Bx} {x z : Int} (hb : b.inside x z) (h : ovB T x z = true) : elL C T b x z = [⟨((b.pl x z).toNat, ⟨ovLo T x z, ovHi T x z, walkT C T⟩), (Bx.pl_lt hb).2.2⟩] := by
  unfold elL
  have : pcO C x z T = some ⟨ovLo T x z, ovHi T x z, walkT C T⟩ := by unfold pcO; rw [if_pos h]
  rw [dif_pos hb, this]
  rfl
def elRow (C : CfgR) (T : TriR) (b : Bx) (x0 z : Int) (k : Nat) : List (El b.n) := (List.range k).flatMap fun (i : Nat) => elL C T b (x0 + (i : Int)) z
def elGrid (C : CfgR) (T : TriR) (b : Bx) (x0 z0 : Int) (kx kz : Nat) : List (El b.n) := (List.range kz).flatMap fun (j : Nat) => elRow C T b x0 (z0 + (j : Int)) kx
theorem elRow_succ (C : CfgR) (T : TriR) (b : Bx) (x0 z : Int) (k : Nat) : elRow C T b x0 z (k + 1) = elRow C T b x0 z k ++ elL C T b (x0 + k) z := flat_succ _ _
theorem elGrid_succ (C : CfgR) (T : TriR) (b : Bx) (x0 z0 : Int) (kx kz : Nat) : elGrid C T b x0 z0 kx (kz + 1) = elGrid C T b x0 z0 kx kz ++ elRow C T b x0 (z0 + kz) kx := flat_succ _ _
theorem elL_len (C : CfgR) (T : TriR) (b : Bx) (x z : Int) : (elL C T b x z).length ≤ 1 := by
  unfold elL
  split
  · cases pcO C x z T <;> simp
  · simp
theorem flat_len {β : Type} (f : Nat → List β) (m : Nat) (h : ∀ i, (f i).length ≤ m) : ∀ k, ((List.range k).flatMap f).length ≤ k * m
  | 0 => by simp
  | k + 1 => by rw [flat_succ, List.length_append, Nat.add_mul]; have := flat_len f m h k; have := h k; omega
theorem elRow_len (C : CfgR) (T : TriR) (b : Bx) (x0 z : Int) (k : Nat) : (elRow C T b x0 z k).length ≤ k := by
  have := flat_len (fun (i : Nat) => elL C T b (x0 + (i : Int)) z) 1 (fun i => elL_len _ _ _ _ _) k
  unfold elRow; omega
theorem elGrid_len (C : CfgR) (T : TriR) (b : Bx) (x0 z0 : Int) (kx kz : Nat) : (elGrid C T b x0 z0 kx kz).length ≤ kz * kx := flat_len _ _ (fun j => elRow_len C T b x0 (z0 + j) kx) kz

/-- Where the pieces of a triangle begin and end. -/
def gx0 (T : TriR) (b : Bx) : Int := max (max (minI T.x0 T.x1 T.x2 - 1) b.x) 0
def gz0 (T : TriR) (b : Bx) : Int := max (max (minI T.z0 T.z1 T.z2 - 1) b.z) 0
def gx1 (C : CfgR) (T : TriR) (b : Bx) : Int := min (min (maxI T.x0 T.x1 T.x2) (b.x + (b.w - 1))) (C.wd - 1)
def gz1 (C : CfgR) (T : TriR) (b : Bx) : Int := min (min (maxI T.z0 T.z1 T.z2) (b.z + (b.d - 1))) (C.dp - 1)
def gkx (C : CfgR) (T : TriR) (b : Bx) : Nat := (gx1 C T b + 1 - gx0 T b).toNat
def gkz (C : CfgR) (T : TriR) (b : Bx) : Nat := (gz1 C T b + 1 - gz0 T b).toNat
def elAll (C : CfgR) (T : TriR) (b : Bx) : List (El b.n) := elGrid C T b (gx0 T b) (gz0 T b) (gkx C T b) (gkz C T b)
theorem elAll_len {C : CfgR} (hC : C.fine) (T : TriR) (b : Bx) : (elAll C T b).length ≤ 1024 := by
  refine Nat.le_trans (elGrid_len _ _ _ _ _ _ _) ?_
  have h1 : gkx C T b ≤ 32 := by have := hC.w2; unfold gkx gx0 gx1; omega
  have h2 : gkz C T b ≤ 32 := by have := hC.d2; unfold gkz gz0 gz1; omega
  exact Nat.mul_le_mul h2 h1

theorem el_mem {C : CfgR} {T : TriR} {b : Bx} {x z : Int} {e : El b.n} : e ∈ elL C T b x z ↔ b.inside x z ∧ e.1.1 = (b.pl x z).toNat ∧ pcO C x z T = some e.1.2 := by
  unfold elL
  by_cases h : b.inside x z
  · rw [dif_pos h]
    cases hp : pcO C x z T with
    | none => simp
    | some s =>
      obtain ⟨⟨e1, e2⟩, e3⟩ := e
      simp [h, eq_comm]
  · rw [dif_neg h]; simp [h]

/-- What comes to a place: what the triangle has over the column there. -/
theorem el_at {C : CfgR} {T : TriR} {b : Bx} (hb : b.ok) {n : Nat} (hn : n < b.n) :
    ((elAll C T b).filter (fun e => e.1.1 == n)).map (fun e => e.1.2) = if inW C (plX b.x b.w n) (plZ b.z b.w n) then (pcO C (plX b.x b.w n) (plZ b.z b.w n) T).toList else [] := by
  obtain ⟨hi, hp⟩ := Bx.pl_inside hb hn
  obtain ⟨X, hX⟩ : ∃ X, X = plX b.x b.w n := ⟨_, rfl⟩
  obtain ⟨Z, hZ⟩ : ∃ Z, Z = plZ b.z b.w n := ⟨_, rfl⟩
  rw [← hX, ← hZ] at hi hp ⊢
  have one : ∀ x z, (x ≠ X ∨ z ≠ Z) → ((elL C T b x z).filter (fun e => e.1.1 == n)) = [] := by
    intro x z hne
    rw [List.filter_eq_nil_iff]
    intro e he hcon
    obtain ⟨h1, h2, -⟩ := el_mem.1 he
    have h3 : (b.pl x z).toNat = n := by rw [← h2]; simpa using hcon
    obtain ⟨e1, e2⟩ := Bx.pl_at h1
    rw [h3] at e1 e2
    rw [hX, hZ, e1, e2] at hne
    rcases hne with k | k <;> exact k rfl
  have same : (elL C T b X Z).filter (fun e => e.1.1 == n) = elL C T b X Z := by
    rw [List.filter_eq_self]
    intro e he
    obtain ⟨-, h2, -⟩ := el_mem.1 he
    rw [h2, hp]; simp
  have last : (elL C T b X Z).map (fun e => e.1.2) = (pcO C X Z T).toList := by
    unfold elL
    rw [dif_pos hi]
    cases pcO C X Z T <;> rfl
  have rows : ∀ z, ((elRow C T b (gx0 T b) z (gkx C T b)).filter (fun e => e.1.1 == n)) = if z = Z ∧ gx0 T b ≤ X ∧ X ≤ gx1 C T b then elL C T b X Z else [] := by
    intro z
    unfold elRow
    rw [List.filter_flatMap]
    by_cases hz : z = Z
    · subst hz
      by_cases hx : gx0 T b ≤ X
      · rw [flat_one _ (X - gx0 T b).toNat _ (fun i _ hi' => one (gx0 T b + (i : Int)) z (.inl (by omega)))]
        have e : gx0 T b + ((X - gx0 T b).toNat : Int) = X := by omega
        rw [e, same]
        by_cases hx2 : X ≤ gx1 C T b
        · rw [if_pos (by unfold gkx; omega), if_pos ⟨rfl, hx, hx2⟩]
        · rw [if_neg (by unfold gkx; omega), if_neg (fun h => hx2 h.2.2)]
      · rw [if_neg (fun h => hx h.2.1), flat_one _ (gkx C T b) _ (fun i _ _ => one (gx0 T b + (i : Int)) z (.inl (by omega))), if_neg (by omega)]
    · rw [if_neg (fun h => hz h.1), flat_one _ (gkx C T b) _ (fun i _ _ => one (gx0 T b + (i : Int)) z (.inr hz)), if_neg (by omega)]
  have all : ((elAll C T b).filter (fun e => e.1.1 == n)) = if (gz0 T b ≤ Z ∧ Z ≤ gz1 C T b) ∧ gx0 T b ≤ X ∧ X ≤ gx1 C T b then elL C T b X Z else [] := by
    unfold elAll elGrid
    rw [List.filter_flatMap]
    have e : (fun (j : Nat) => (elRow C T b (gx0 T b) (gz0 T b + j) (gkx C T b)).filter (fun e => e.1.1 == n)) = fun (j : Nat) => if gz0 T b + j = Z ∧ gx0 T b ≤ X ∧ X ≤ gx1 C T b then elL C T b X Z else [] := by funext j; exact rows _
    rw [e]
    by_cases hz : gz0 T b ≤ Z
    · rw [flat_one _ (Z - gz0 T b).toNat _ (fun j _ hj => by rw [if_neg (fun h => by omega)])]
      by_cases hz2 : Z ≤ gz1 C T b
      · rw [if_pos (by unfold gkz; omega)]
        have e : gz0 T b + ((Z - gz0 T b).toNat : Int) = Z := by omega
        rw [e]
        simp [hz, hz2]
      · rw [if_neg (by unfold gkz; omega), if_neg (fun h => hz2 h.1.2)]
    · rw [if_neg (fun h => hz h.1.1), flat_one _ (gkz C T b) _ (fun j _ _ => by rw [if_neg (fun h => by omega)]), if_neg (by omega)]
  rw [all]
  by_cases ho : ovB T X Z = true
  · obtain ⟨-, -, -, hx, hz⟩ := ov_between ho
    obtain ⟨⟨i1, i2⟩, i3, i4⟩ := hi
    by_cases hw : inW C X Z = true
    · have hw' := inW_iff.1 hw
      rw [if_pos hw, if_pos (by unfold gz0 gz1 gx0 gx1; omega), last]
    · rw [if_neg hw, if_neg (fun h => hw (inW_iff.2 (by unfold gz0 gz1 gx0 gx1 at h; omega)))]
      rfl
  · have ho' : ovB T X Z = false := by cases h : ovB T X Z; rfl; exact absurd h ho
    have hp' : pcO C X Z T = none := by unfold pcO; rw [ho']; rfl
    rw [elL_none ho', hp']
    split <;> split <;> rfl

theorem col_snoc {C : CfgR} {l : List TriR} {T : TriR} {x z : Int} : colL C (l ++ [T]) x z = colL C l x z ++ (if inW C x z then (pcO C x z T).toList else []) := by
  unfold colL
  split
  · rw [List.filterMap_append]
    congr 1
  · rfl

/-- Are there any? -/
theorem el_any {C : CfgR} {T : TriR} {b : Bx} (hb : b.ok) : elAll C T b ≠ [] ↔ ∃ x z, b.inside x z ∧ inW C x z = true ∧ ovB T x z = true := by
  constructor
  · intro h
    obtain ⟨e, he⟩ := List.exists_mem_of_ne_nil _ h
    have hn := e.2
    have := el_at (C := C) (T := T) hb hn
    have hm : e.1.2 ∈ ((elAll C T b).filter (fun e' => e'.1.1 == e.1.1)).map (fun e => e.1.2) := List.mem_map.2 ⟨e, List.mem_filter.2 ⟨he, by simp⟩, rfl⟩
    rw [this] at hm
    split at hm
    · rename_i hw
      refine ⟨_, _, (Bx.pl_inside hb hn).1, hw, ?_⟩
      cases hp : pcO C (plX b.x b.w e.1.1) (plZ b.z b.w e.1.1) T with
      | none => rw [hp] at hm; simp at hm
      | some s => exact (pc_fit hp).2
    · simp at hm
  · rintro ⟨x, z, h1, h2, h3⟩ h0
    have hn := (Bx.pl_lt h1).2.2
    have := el_at (C := C) (T := T) hb hn
    obtain ⟨e1, e2⟩ := Bx.pl_at h1
    rw [h0, e1, e2, if_pos h2] at this
    unfold pcO at this
    rw [if_pos h3] at this
    simp at this

end Go.Proofs.YtccikeagbillgaaGreat

/- Package raster: what goes over a triangle's pieces, as a contract. -/
namespace Go.Proofs.YtccikeagbillgaaGreat
open Go.RowKit Go.Shelf Go.Sort
set_option linter.unusedVariables false
attribute [local go_sem] Oper.semAt_some

theorem mx3 (a b : Int) : (if (if a < b then b else a) < 0 then 0 else if a < b then b else a) = max (max a b) 0 := by
  by_cases h : a < b <;> simp only [h, if_true, if_false] <;> split <;> omega
theorem mn3 (a b c : Int) : (if c < (if b < a then b else a) then c else if b < a then b else a) = min (min a b) c := by
  by_cases h : b < a <;> simp only [h, if_true, if_false] <;> split <;> omega

theorem el_in {C : CfgR} {T : TriR} {b : Bx} {i j : Nat} (hi : i < gkx C T b) (hj : j < gkz C T b) (h : elL C T b (gx0 T b + i) (gz0 T b + j) ≠ []) : elAll C T b ≠ [] := by
  obtain ⟨e, he⟩ := List.exists_mem_of_ne_nil _ h
  intro h0
  have : e ∈ elAll C T b := by
    unfold elAll elGrid elRow
    rw [List.mem_flatMap]
    refine ⟨j, List.mem_range.2 hj, ?_⟩
    rw [List.mem_flatMap]
    exact ⟨i, List.mem_range.2 hi, he⟩
  rw [h0] at this
  cases this

set_option maxHeartbeats 4000000 in
set_option maxRecDepth 100000 in
theorem p_each (C : CfgR) (T : TriR) (b : Bx) (hC : C.fine) (hT : okT T = true) (hb : b.ok) (n l Bc Bt Bb : Nat) (hn : 1 ≤ n) (J Jx : List (El b.n) → World → Prop)
    (hY : ∀ (pre : List (El b.n)) (e : El b.n) W, J pre W → pre.length < 1024 → YieldAt Fence.wide (n - 1) Tryz.prog l #[.int .i64 e.1.1, .agg #[.int .i64 e.1.2.lo, .int .i64 e.1.2.hi, .bool e.1.2.wk]] W fun x W' =>
      (x = .returned (.bool true) ∧ J (pre ++ [e]) W' ∧ (W'.heap[Bc]? = W.heap[Bc]? ∧ W'.heap[Bt]? = W.heap[Bt]? ∧ W'.heap[Bb]? = W.heap[Bb]?)) ∨ (x = .returned (.bool false) ∧ Jx (pre ++ [e]) W'))
    (W : World) (hJ : ∀ pre W1 W2, J pre W1 → New W1 W2 → J pre W2) (H : Three C T b Bc Bt Bb W) (h0 : J [] W) :
    CallsIn Fence.wide n Tryz.prog 55 #[.func (.yield l) #[] #[], .pointer (some ⟨Bc, 0, none⟩), .pointer (some ⟨Bt, 0, none⟩), .pointer (some ⟨Bb, 0, none⟩)] W fun e W' => (∃ v, e = .returned v) ∧
      ((∃ ys, ys = elAll C T b ∧ J ys W') ∨ (∃ pre : List (El b.n), elAll C T b ≠ [] ∧ Jx pre W')) := by
  have h0' : Hid (J [] W) := h0
  have HJ := Lib.hid hJ
  have HY := Lib.hid hY
  clear h0 hJ hY
  have kw := fun W => t_walk C.cl C.cb C.ht C.ri C.ru C.wd C.dp T.i T.x0 T.y0 T.z0 T.x1 T.y1 T.z1 T.x2 T.y2 T.z2 W
  have kc := fun W => k_columns T W
  have kl := fun W => a_last b hb W
  have egx0 : max (max (minI T.x0 T.x1 T.x2 - 1) b.x) 0 = gx0 T b := rfl
  have egz0 : max (max (minI T.z0 T.z1 T.z2 - 1) b.z) 0 = gz0 T b := rfl
  have egx1 : min (min (maxI T.x0 T.x1 T.x2) (b.x + (b.w - 1))) (C.wd - 1) = gx1 C T b := rfl
  have egz1 : min (min (maxI T.z0 T.z1 T.z2) (b.z + (b.d - 1))) (C.dp - 1) = gz1 C T b := rfl
  have cw1 := hC.w1
  have cw2 := hC.w2
  have cd1 := hC.d1
  have cd2 := hC.d2
  rw [hT] at kc
  simp only [if_true] at kc
  generalize walkE C.cl C.cb C.ht C.ri C.ru C.wd C.dp T.x0 T.y0 T.z0 T.x1 T.y1 T.z1 T.x2 T.y2 T.z2 = we at *
  have ewk : walkB C.cl C.cb C.ht C.ri C.ru C.wd C.dp T.x0 T.y0 T.z0 T.x1 T.y1 T.z1 T.x2 T.y2 T.z2 = walkT C T := rfl
  rw [ewk] at kw
  refine callsIn_of_wp Tryz.func55 rfl trivial ?_ rfl
  simp only [Tryz.ntmps55, List.size_toArray, List.length_cons, List.length_nil, Nat.reduceAdd, Nat.reduceSub, Array.replicate_succ, Array.replicate_zero, List.push_toArray, List.append_toArray, List.nil_append, List.cons_append]
  refine wpIn_wide.2 ?_
  obtain ⟨⟨c0, c1, c2, c3, c4, c5, c6⟩, ⟨t0, t1, t2, t3, t4, t5, t6, t7, t8, t9⟩, b0, b1, b2, b3⟩ := H.cs
  go_wp2_with fail
  refine (kw _).mono ?_
  rintro e w1 ⟨rfl, n1⟩
  replace h0' : Hid (J [] w1) := HJ.out _ _ _ h0'.out n1
  replace H := H.new n1
  clear c0 c1 c2 c3 c4 c5 c6 t0 t1 t2 t3 t4 t5 t6 t7 t8 t9 b0 b1 b2 b3 kw n1
  obtain ⟨⟨c0, c1, c2, c3, c4, c5, c6⟩, ⟨t0, t1, t2, t3, t4, t5, t6, t7, t8, t9⟩, b0, b1, b2, b3⟩ := H.cs
  go_wp2_with fail
  refine (kc _).mono ?_
  rintro e w2 ⟨rfl, n1⟩
  replace h0' : Hid (J [] w2) := HJ.out _ _ _ h0'.out n1
  replace H := H.new n1
  clear c0 c1 c2 c3 c4 c5 c6 t0 t1 t2 t3 t4 t5 t6 t7 t8 t9 b0 b1 b2 b3 kc n1
  obtain ⟨⟨c0, c1, c2, c3, c4, c5, c6⟩, ⟨t0, t1, t2, t3, t4, t5, t6, t7, t8, t9⟩, b0, b1, b2, b3⟩ := H.cs
  go_wp2_with fail
  refine (kl _).mono ?_
  rintro e w3 ⟨rfl, n1⟩
  replace h0' : Hid (J [] w3) := HJ.out _ _ _ h0'.out n1
  replace H := H.new n1
  clear c0 c1 c2 c3 c4 c5 c6 t0 t1 t2 t3 t4 t5 t6 t7 t8 t9 b0 b1 b2 b3 kl n1
  obtain ⟨⟨c0, c1, c2, c3, c4, c5, c6⟩, ⟨t0, t1, t2, t3, t4, t5, t6, t7, t8, t9⟩, b0, b1, b2, b3⟩ := H.cs
  go_wp2_with fail
  go_quiet (fail)
  simp only [mx3]
  rw [egx0, egz0]
  go_wp2_with fail
  go_quiet (fail)
  simp only [mn3]
  rw [egx1, egz1]
  generalize hW : World.drewN (World.drewN _ _) _ = w4
  have n4 : New w3 w4 := by subst hW; (repeat (first | (with_reducible exact New.refl _) | (with_reducible assumption) | ((with_reducible refine New.setB ?_ ?_ _); focus (first | omega | (simp; omega) | (simp; done))) | (with_reducible refine New.alloc ?_ _) | (with_reducible refine New.drew ?_) | (with_reducible refine New.drewN ?_ _) | (with_reducible refine New.hat ?_ _) | ((with_reducible apply New.snart); (with_reducible assumption))))
  clear hW
  replace h0' : Hid (J [] w4) := HJ.out _ _ _ h0'.out n4
  replace H := H.new n4
  clear c0 c1 c2 c3 c4 c5 c6 t0 t1 t2 t3 t4 t5 t6 t7 t8 t9 b0 b1 b2 b3 n4 egx0 egx1 egz0 egz1
  go_wp2_with fail
  refine (wpIn_wide (n := n)).1 ?_
  gi_loopw [14] (fun vz wr => ∃ j : Nat, vz = .int .i64 (gz0 T b + j) ∧ j ≤ gkz C T b ∧ Hid (J (elGrid C T b (gx0 T b) (gz0 T b) (gkx C T b) j) wr) ∧ Three C T b Bc Bt Bb wr)
    (fun vz _ => (gz1 C T b + 1 - intOf vz).toNat)
  case atStart => exact ⟨0, by simp, Nat.zero_le _, h0', H⟩
  case round =>
    clear h0' H
    obtain ⟨j, rfl, hj, hJ1, H⟩ := hrel
    by_cases hjz : j < gkz C T b
    · have hle : gz0 T b + (j : Int) ≤ gz1 C T b := by unfold gkz at hjz; omega
      have hz31 : gz0 T b + (j : Int) ≤ 31 := by unfold gz1 at hle; omega
      have hz00 : 0 ≤ gz0 T b := by unfold gz0; omega
      gi_wp2_with fail
      gi_loopw [15] (fun vx wr2 => ∃ i : Nat, vx = .int .i64 (gx0 T b + i) ∧ i ≤ gkx C T b ∧ Hid (J (elGrid C T b (gx0 T b) (gz0 T b) (gkx C T b) j ++ elRow C T b (gx0 T b) (gz0 T b + j) i) wr2) ∧ Three C T b Bc Bt Bb wr2)
        (fun vx _ => (gx1 C T b + 1 - intOf vx).toNat)
      case atStart => exact ⟨0, by simp, Nat.zero_le _, by show J _ _; simpa [elRow] using hJ1.out, H⟩
      case round =>
        clear hJ1 H
        obtain ⟨i, rfl, hi, hJ2, H⟩ := hrel
        by_cases hix : i < gkx C T b
        · have hle2 : gx0 T b + (i : Int) ≤ gx1 C T b := by unfold gkx at hix; omega
          have hx31 : gx0 T b + (i : Int) ≤ 31 := by unfold gx1 at hle2; omega
          have hx00 : 0 ≤ gx0 T b := by unfold gx0; omega
          have hin : b.inside (gx0 T b + i) (gz0 T b + j) := by
            unfold Bx.inside
            unfold gx1 at hle2
            unfold gz1 at hle
            have h1 : b.x ≤ gx0 T b := by unfold gx0; omega
            have h2 : b.z ≤ gz0 T b := by unfold gz0; omega
            omega
          have hlen : (elGrid C T b (gx0 T b) (gz0 T b) (gkx C T b) j ++ elRow C T b (gx0 T b) (gz0 T b + j) i).length < 1024 := by
            rw [List.length_append]
            have l1 := elGrid_len C T b (gx0 T b) (gz0 T b) (gkx C T b) j
            have l2 := elRow_len C T b (gx0 T b) (gz0 T b + j) i
            have k1 : gkx C T b ≤ 32 := by unfold gkx gx0 gx1; omega
            have k2 : gkz C T b ≤ 32 := by unfold gkz gz0 gz1; omega
            have l3 : j * gkx C T b ≤ 31 * gkx C T b := Nat.mul_le_mul (by omega) (Nat.le_refl _)
            omega
          have hnext := elRow_succ C T b (gx0 T b) (gz0 T b + j) i
          have kov := fun W => k_over T (gx0 T b + i) (gz0 T b + j) W
          obtain ⟨-, ⟨t0, t1, t2, t3, t4, t5, t6, t7, t8, t9⟩, -⟩ := H.cs
          cases ho : ovB T (gx0 T b + i) (gz0 T b + j) with
          | false =>
            rw [elL_none ho, List.append_nil] at hnext
            have HN := Lib.hid hnext
            clear hnext
            simp only [ho] at kov
            replace kov := Lib.hid kov
            have hin' := Lib.hid hin
            have hlen' := Lib.hid hlen
            clear hin hlen ho
            gi_wp2_with (refine ⟨trivial, ?_⟩; gi_at_call 59; refine (callsIn_wide.2 (kov.out _)).mono ?_; rintro e w5 ⟨rfl, n5⟩; replace H := H.new n5; replace hJ2 : Hid (J _ w5) := HJ.out _ _ _ hJ2.out n5; clear t0 t1 t2 t3 t4 t5 t6 t7 t8 t9 n5)
            refine ⟨trivial, ?_⟩
            gi_wp2_with fail
            refine ⟨fun _ h => (by cases h), ?_⟩
            gi_wp2_with fail
            go_roundw
            case rel => exact ⟨i + 1, by congr 1; omega, by omega, by show J _ _; rw [HN.out]; exact hJ2.out, H⟩
            case measure => simp [intOf]; omega
          | true =>
            rw [elL_some hin ho] at hnext
            obtain ⟨e, he, he1, he2⟩ : ∃ e : El b.n, e = ⟨((b.pl (gx0 T b + i) (gz0 T b + j)).toNat, ⟨ovLo T (gx0 T b + i) (gz0 T b + j), ovHi T (gx0 T b + i) (gz0 T b + j), walkT C T⟩), (Bx.pl_lt hin).2.2⟩ ∧ (e.1.1 : Int) = b.pl (gx0 T b + i) (gz0 T b + j) ∧ e.1.2 = ⟨ovLo T (gx0 T b + i) (gz0 T b + j), ovHi T (gx0 T b + i) (gz0 T b + j), walkT C T⟩ :=
              ⟨_, rfl, Int.toNat_of_nonneg (Bx.pl_lt hin).1, rfl⟩
            rw [← he] at hnext
            have HN := Lib.hid hnext
            have hex : elL C T b (gx0 T b + i) (gz0 T b + j) ≠ [] := by rw [elL_some hin ho]; simp
            have HX : Hid (elAll C T b ≠ []) := Lib.hid (el_in hix hjz hex)
            have hyall := fun W q => HY.out (elGrid C T b (gx0 T b) (gz0 T b) (gkx C T b) j ++ elRow C T b (gx0 T b) (gz0 T b + j) i) e W q hlen
            rw [he1, he2] at hyall
            have kpl := fun W => a_place b hb _ _ hin W
            simp only [ho] at kov
            replace kov := Lib.hid kov
            replace kpl := Lib.hid kpl
            have HYA := Lib.hid hyall
            clear hnext hyall hin hlen ho hex he1 he2 he
            gi_wp2_with (first
              | (refine ⟨trivial, ?_⟩; gi_at_call 59; refine (callsIn_wide.2 (kov.out _)).mono ?_; rintro e' w5 ⟨rfl, n5⟩; replace H := H.new n5; replace hJ2 : Hid (J _ w5) := HJ.out _ _ _ hJ2.out n5; clear t0 t1 t2 t3 t4 t5 t6 t7 t8 t9 n5; obtain ⟨-, -, b0, b1, b2, b3⟩ := H.cs)
              | (refine ⟨trivial, ?_⟩; gi_at_call 60; refine (callsIn_wide.2 (kpl.out _)).mono ?_; rintro e' w6 ⟨rfl, n6⟩; replace H := H.new n6; replace hJ2 : Hid (J _ w6) := HJ.out _ _ _ hJ2.out n6; clear b0 b1 b2 b3 n6; (obtain ⟨fn, tmps, assign, body, hy, hR⟩ := HYA.out w6 hJ2.out)))
            refine hR.mono ?_
            clear hy hR
            rintro e' W5 (⟨rfl, hJ5, hk5⟩ | ⟨rfl, hJx5⟩)
            · replace H := H.same hk5
              clear hk5
              gi_wp2_with fail
              go_roundw
              case rel => exact ⟨i + 1, by congr 1; omega, by omega, by show J _ _; rw [HN.out, ← List.append_assoc]; exact hJ5, H⟩
              case measure => simp [intOf]; omega
            · gi_wp2_with fail
              refine bodyPost_ret (results_none rfl _ _ _) rfl ?_
              exact ⟨⟨_, rfl⟩, .inr ⟨_, HX.out, hJx5⟩⟩
        · have hle2 : ¬ (gx0 T b + (i : Int) ≤ gx1 C T b) := by unfold gkx at hix; omega
          obtain rfl : i = gkx C T b := by omega
          gi_wp2_with fail
          go_roundw
          case rel => exact ⟨j + 1, by congr 1; omega, by omega, by show J _ _; rw [elGrid_succ]; exact hJ2.out, H⟩
          case measure => simp [intOf]; omega
    · have hle : ¬ (gz0 T b + (j : Int) ≤ gz1 C T b) := by unfold gkz at hjz; omega
      obtain rfl : j = gkz C T b := by omega
      gi_wp2_with fail
      go_end0
      exact ⟨⟨_, rfl⟩, .inl hJ1.out⟩

end Go.Proofs.YtccikeagbillgaaGreat

/- Package raster: pieces: its contract, for a caller that ranges over it. -/
namespace Go.Proofs.YtccikeagbillgaaGreat
open Go.RowKit Go.Shelf Go.Sort
set_option linter.unusedVariables false
attribute [local go_sem] Oper.semAt_some

/-- The three variables lie as they lay. -/
def KeepThree (Bc Bt Bb : Nat) (W W' : World) : Prop := W'.heap[Bc]? = W.heap[Bc]? ∧ W'.heap[Bt]? = W.heap[Bt]? ∧ W'.heap[Bb]? = W.heap[Bb]?
theorem KeepThree.trans {Bc Bt Bb : Nat} {X Y Z : World} (h : KeepThree Bc Bt Bb X Y) (k : KeepThree Bc Bt Bb Y Z) : KeepThree Bc Bt Bb X Z := ⟨k.1.trans h.1, k.2.1.trans h.2.1, k.2.2.trans h.2.2⟩
def elA {N : Nat} (e : El N) : Array Value := #[.int .i64 e.1.1, .agg #[.int .i64 e.1.2.lo, .int .i64 e.1.2.hi, .bool e.1.2.wk]]

theorem Three.grown {C : CfgR} {T : TriR} {b : Bx} {Bc Bt Bb : Nat} {w W : World} (h : Three C T b Bc Bt Bb w) (n : Below w.heap.size w W) : Three C T b Bc Bt Bb W :=
  ⟨(n.block Bc (Array.getElem?_eq_some_iff.1 h.c).1).trans h.c, (n.block Bt (Array.getElem?_eq_some_iff.1 h.t).1).trans h.t, (n.block Bb (Array.getElem?_eq_some_iff.1 h.b).1).trans h.b⟩

theorem p_stops (C : CfgR) (T : TriR) (b : Bx) (hC : C.fine) (hT : okT T = true) (hb : b.ok) (n : Nat) (hn : 1 ≤ n) (Bc Bt Bb : Nat) (w : World) (H : Three C T b Bc Bt Bb w) :
    SeqStopsK Fence.wide n Tryz.prog 55 #[.pointer (some ⟨Bc, 0, none⟩), .pointer (some ⟨Bt, 0, none⟩), .pointer (some ⟨Bb, 0, none⟩)] (fun e : El b.n => elA e) (KeepThree Bc Bt Bb)
      (fun ys => ys = elAll C T b) (fun _ => elAll C T b ≠ []) 1024 w := fun l J Jx W hW hJ _ hY h0 =>
  p_each C T b hC hT hb n l Bc Bt Bb hn J Jx hY W (fun _ _ _ h k => hJ _ _ _ none h (new_gro k) (fun r e => by cases e)) (H.grown hW) h0

theorem p_pieces (C : CfgR) (T : TriR) (b : Bx) (n : Nat) (w : World) :
    CallsIn Fence.wide n Tryz.prog 36 #[.agg #[.int .i64 C.cl, .int .i64 C.cb, .int .i64 C.ht, .int .i64 C.ri, .int .i64 C.ru, .int .i64 C.wd, .int .i64 C.dp], .agg #[.int .i64 T.i, .int .i64 T.x0, .int .i64 T.y0, .int .i64 T.z0, .int .i64 T.x1, .int .i64 T.y1, .int .i64 T.z1, .int .i64 T.x2, .int .i64 T.y2, .int .i64 T.z2], .agg #[.int .i64 b.x, .int .i64 b.z, .int .i64 b.w, .int .i64 b.d]] w fun e w' =>
      e = .returned (.func (.func 55) #[] #[.pointer (some ⟨w.heap.size, 0, none⟩), .pointer (some ⟨w.heap.size + 1, 0, none⟩), .pointer (some ⟨w.heap.size + 2, 0, none⟩)]) ∧ New w w' ∧ Three C T b w.heap.size (w.heap.size + 1) (w.heap.size + 2) w' ∧ w'.heap.size = w.heap.size + 3 := by
  refine callsIn_of_wp Tryz.func36 rfl trivial ?_ rfl
  simp only [Tryz.ntmps36, List.size_toArray, List.length_cons, List.length_nil, Nat.reduceAdd, Nat.reduceSub, Array.replicate_succ, Array.replicate_zero, List.push_toArray, List.append_toArray, List.nil_append, List.cons_append]
  gi_wp2
  go_ret
  refine ⟨rfl, by (repeat (first | (with_reducible exact New.refl _) | (with_reducible assumption) | ((with_reducible refine New.setB ?_ ?_ _); focus (first | omega | (simp; omega) | (simp; done))) | (with_reducible refine New.alloc ?_ _) | (with_reducible refine New.drew ?_) | (with_reducible refine New.drewN ?_ _) | (with_reducible refine New.hat ?_ _) | ((with_reducible apply New.snart); (with_reducible assumption)))), ⟨?_, ?_, ?_⟩, by simp⟩
  · exact (Below.heap_alloc _ _ _ (by simp; omega)).trans ((Below.heap_alloc _ _ _ (by simp)).trans (World.alloc_heap_new w _))
  · have h := World.alloc_heap_new (w.alloc (.cells (cfgA C) 23)) (.cells (triA T) 43)
    rw [World.size_alloc] at h
    exact (Below.heap_alloc _ _ _ (by simp)).trans h
  · have h := World.alloc_heap_new ((w.alloc (.cells (cfgA C) 23)).alloc (.cells (triA T) 43)) (.cells (boxA b) 54)
    rw [World.size_alloc, World.size_alloc] at h
    exact h

end Go.Proofs.YtccikeagbillgaaGreat
