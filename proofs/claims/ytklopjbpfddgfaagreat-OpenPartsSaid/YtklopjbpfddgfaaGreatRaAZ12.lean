import Derived.Test.YtklopjbpfddgfaaGreatClQZ12
import Derived.Test.YtklopjbpfddgfaaGreatRaBZ12

/- The pieces that triangles have over columns of a box, and the columns that they make: plain numbers. No function of the program in sight. -/
namespace Go.Proofs.YtklopjbpfddgfaaGreat
open Go.RowKit
set_option linter.unusedVariables false

/-- The piece over a column. -/
def pcO (C : CfgR) (x z : Int) (T : TriR) : Option Sn := if ovB T x z then some ⟨ovLo T x z, ovHi T x z, walkT C T⟩ else none
def inW (C : CfgR) (x z : Int) : Bool := decide (0 ≤ x) && decide (x < C.wd) && decide (0 ≤ z) && decide (z < C.dp)
theorem inW_iff {C : CfgR} {x z : Int} : inW C x z = true ↔ (0 ≤ x ∧ x < C.wd) ∧ (0 ≤ z ∧ z < C.dp) := by
  unfold inW; simp only [Bool.and_eq_true, decide_eq_true_eq, and_assoc]
/-- The pieces over a column of the world. -/
def colL (C : CfgR) (l : List TriR) (x z : Int) : List Sn := if inW C x z then l.filterMap (pcO C x z) else []
theorem pc_fit {C : CfgR} {x z : Int} {T : TriR} {p : Sn} (h : pcO C x z T = some p) : (-2048 ≤ p.lo ∧ p.lo ≤ p.hi ∧ p.hi ≤ 2048) ∧ ovB T x z = true := by
  unfold pcO at h
  split at h
  · rename_i h1
    injection h with h
    subst h
    have := (ov_between h1).1
    have := ov_bd T x z
    exact ⟨by dsimp only; omega, h1⟩
  · cases h
theorem col_mem {C : CfgR} {l : List TriR} {x z : Int} {p : Sn} : p ∈ colL C l x z ↔ inW C x z = true ∧ ∃ T ∈ l, pcO C x z T = some p := by
  unfold colL
  split
  · rename_i h; simp [h]
  · rename_i h; simp [h]
theorem col_fit {C : CfgR} {l : List TriR} {x z : Int} {p : Sn} (h : p ∈ colL C l x z) : -2048 ≤ p.lo ∧ p.lo ≤ p.hi ∧ p.hi ≤ 2048 := by
  obtain ⟨-, T, -, h1⟩ := col_mem.1 h
  exact (pc_fit h1).1
theorem col_proper (C : CfgR) (l : List TriR) (x z : Int) : Proper (colL C l x z) := fun p hp => (col_fit hp).2.1
theorem col_len (C : CfgR) (l : List TriR) (x z : Int) : (colL C l x z).length ≤ l.length := by
  unfold colL
  split
  · exact List.length_filterMap_le _ _
  · simp
def colQ (C : CfgR) (l : List TriR) (x z : Int) : List Sn := mrg (colL C l x z)
theorem putS_in (l : List Sn) : (mrg l).length ≤ l.length := by
  have key : ∀ (l R : List Sn), (l.foldl (fun R s => putS s R false) R).length ≤ R.length + l.length := by
    intro l
    induction l with
    | nil => intro R; simp
    | cons s l ih =>
      intro R
      rw [List.foldl_cons]
      have := ih (putS s R false)
      have := putS_len s R false
      simp; omega
  have := key l []
  unfold mrg
  simpa using this
theorem colQ_len (C : CfgR) (l : List TriR) (x z : Int) : (colQ C l x z).length ≤ l.length := Nat.le_trans (putS_in _) (col_len C l x z)
/-- Is a column full? -/
def fullB (C : CfgR) (l : List TriR) (x z : Int) : Bool := decide (8 < (colQ C l x z).length)
def cE (C : CfgR) (l : List TriR) (x z : Int) : Int := if rchk C l ≠ 0 then rchk C l else if fullB C l x z then 51 else 0
def cR (C : CfgR) (l : List TriR) (x z : Int) : List Sn := if cE C l x z = 0 then colQ C l x z else []
def atQ (C : CfgR) (l : List TriR) (x z w : Int) (n : Nat) : List Sn := colQ C l (plX x w n) (plZ z w n)
def atF (C : CfgR) (l : List TriR) (x z w : Int) (n : Nat) : Bool := fullB C l (plX x w n) (plZ z w n)
/-- The first n columns: all that are, if none is full. -/
def rowsL (C : CfgR) (l : List TriR) (x z w : Int) (n : Nat) : List (List Sn) := (List.range n).map (atQ C l x z w)
def anyF (C : CfgR) (l : List TriR) (x z w : Int) (n : Nat) : Bool := (List.range n).any (atF C l x z w)
theorem rowsL_succ (C : CfgR) (l : List TriR) (x z w : Int) (n : Nat) : rowsL C l x z w (n + 1) = rowsL C l x z w n ++ [atQ C l x z w n] := by unfold rowsL; rw [List.range_succ, List.map_append]; rfl
theorem rowsL_len (C : CfgR) (l : List TriR) (x z w : Int) (n : Nat) : (rowsL C l x z w n).length = n := by unfold rowsL; simp
theorem anyF_succ (C : CfgR) (l : List TriR) (x z w : Int) (n : Nat) : anyF C l x z w (n + 1) = (anyF C l x z w n || atF C l x z w n) := by unfold anyF; rw [List.range_succ, List.any_append]; simp
theorem anyF_of {C : CfgR} {l : List TriR} {x z w : Int} {n m : Nat} (h : n < m) (k : atF C l x z w n = true) : anyF C l x z w m = true := List.any_eq_true.2 ⟨n, by simpa using h, k⟩
def bE (C : CfgR) (l : List TriR) (x z w d : Int) : Int := if rchk C l ≠ 0 then rchk C l else if !boxB x z w d then 2 else if anyF C l x z w (w * d).toNat then 51 else 0
def bR (C : CfgR) (l : List TriR) (x z w d : Int) : List (List Sn) := if bE C l x z w d = 0 then rowsL C l x z w (w * d).toNat else []

theorem rchk_no {C : CfgR} {l : List TriR} {x z : Int} (h : rchk C l ≠ 0) : cE C l x z = rchk C l ∧ cR C l x z = [] := by
  have e : cE C l x z = rchk C l := by unfold cE; rw [if_pos h]
  exact ⟨e, by unfold cR; rw [e, if_neg h]⟩
theorem c_full {C : CfgR} {l : List TriR} {x z : Int} (h : rchk C l = 0) (k : fullB C l x z = true) : cE C l x z = 51 ∧ cR C l x z = [] := by
  have e : cE C l x z = 51 := by unfold cE; rw [if_neg (by simpa using h), if_pos k]
  exact ⟨e, by unfold cR; rw [e, if_neg (by decide)]⟩
theorem c_fine {C : CfgR} {l : List TriR} {x z : Int} (h : rchk C l = 0) (k : fullB C l x z = false) : cE C l x z = 0 ∧ cR C l x z = colQ C l x z := by
  have e : cE C l x z = 0 := by unfold cE; rw [if_neg (by simpa using h), k]; rfl
  exact ⟨e, by unfold cR; rw [e, if_pos rfl]⟩
theorem b_no {C : CfgR} {l : List TriR} {x z w d : Int} (h : rchk C l ≠ 0) : bE C l x z w d = rchk C l ∧ bR C l x z w d = [] := by
  have e : bE C l x z w d = rchk C l := by unfold bE; rw [if_pos h]
  exact ⟨e, by unfold bR; rw [e, if_neg h]⟩
theorem b_not {C : CfgR} {l : List TriR} {x z w d : Int} (h : rchk C l = 0) (k : boxB x z w d = false) : bE C l x z w d = 2 ∧ bR C l x z w d = [] := by
  have e : bE C l x z w d = 2 := by unfold bE; rw [if_neg (by simpa using h), k]; rfl
  exact ⟨e, by unfold bR; rw [e, if_neg (by decide)]⟩
theorem b_full {C : CfgR} {l : List TriR} {x z w d : Int} (h : rchk C l = 0) (k : boxB x z w d = true) (f : anyF C l x z w (w * d).toNat = true) : bE C l x z w d = 51 ∧ bR C l x z w d = [] := by
  have e : bE C l x z w d = 51 := by unfold bE; rw [if_neg (by simpa using h), k, f]; rfl
  exact ⟨e, by unfold bR; rw [e, if_neg (by decide)]⟩
theorem b_fine {C : CfgR} {l : List TriR} {x z w d : Int} (h : rchk C l = 0) (k : boxB x z w d = true) (f : anyF C l x z w (w * d).toNat = false) : bE C l x z w d = 0 ∧ bR C l x z w d = rowsL C l x z w (w * d).toNat := by
  have e : bE C l x z w d = 0 := by unfold bE; rw [if_neg (by simpa using h), k, f]; rfl
  exact ⟨e, by unfold bR; rw [e, if_pos rfl]⟩

/-! Which triangles touch a box. -/
def InB (C : CfgR) (bx bz bw bd x z : Int) : Prop := (bx ≤ x ∧ x ≤ bx + bw - 1) ∧ (bz ≤ z ∧ z ≤ bz + bd - 1) ∧ inW C x z = true
def OverB (C : CfgR) (T : TriR) (bx bz bw bd : Int) : Prop := ∃ x z, InB C bx bz bw bd x z ∧ ovB T x z = true
open Classical in
noncomputable def touB (C : CfgR) (bx bz bw bd : Int) (T : TriR) : Bool := decide (OverB C T bx bz bw bd)
noncomputable def touL (C : CfgR) (l : List TriR) (bx bz bw bd : Int) : List TriR := if rchk C l = 0 ∧ boxB bx bz bw bd = true then l.filter (touB C bx bz bw bd) else []

/-! What goes over a triangle's pieces in a box: by place. -/
/-- A piece and its place, of n places. -/
abbrev El (N : Nat) := { p : Nat × Sn // p.1 < N }
theorem flat_one {β : Type} (k i0 : Nat) (f : Nat → List β) (h : ∀ i, i < k → i ≠ i0 → f i = []) : (List.range k).flatMap f = if i0 < k then f i0 else [] := by
  induction k with
  | zero => simp
  | succ k ih =>
    rw [List.range_succ, List.flatMap_append, ih (fun i hi => h i (by omega))]
    simp only [List.flatMap_cons, List.flatMap_nil, List.append_nil]
    by_cases e : i0 < k
    · rw [if_pos e, if_pos (by omega), h k (by omega) (by omega), List.append_nil]
    · rw [if_neg e, List.nil_append]
      by_cases e2 : k = i0
      · subst e2; rw [if_pos (by omega)]
      · rw [if_neg (by omega), h k (by omega) e2]
theorem flat_succ {β : Type} (f : Nat → List β) (n : Nat) : (List.range (n + 1)).flatMap f = (List.range n).flatMap f ++ f n := by
  rw [List.range_succ, List.flatMap_append]; simp

/-- What comes of one column. -/
def elL (C : CfgR) (T : TriR) (b : Bx) (x z : Int) : List (El b.n) := if h : b.inside x z then ((pcO C x z T).map fun s => (⟨((b.pl x z).toNat, s), (Bx.pl_lt h).2.2⟩ : El b.n)).toList else []
theorem elL_none {C : CfgR} {T : TriR} {b : Bx} {x z : Int} (h : ovB T x z = false) : elL C T b x z = [] := by
  unfold elL
  have : pcO C x z T = none := by unfold pcO; rw [h]; rfl
  rw [this]
  split <;> rfl
theorem elL_some {C : CfgR} {T : TriR} {b : Bx} {x z : Int} (hb : b.inside x z) (h : ovB T x z = true) : elL C T b x z = [⟨((b.pl x z).toNat, ⟨ovLo T x z, ovHi T x z, walkT C T⟩), (Bx.pl_lt hb).2.2⟩] := by
  unfold elL
  have : pcO C x z T = some ⟨ovLo T x z, ovHi T x z, walkT C T⟩ := by unfold pcO; rw [if_pos h]
  rw [dif_pos hb, this]
  rfl
def elRow (C : CfgR) (T : TriR) (b : Bx) (x0 z : Int) (k : Nat) : List (El b.n) := (List.range k).flatMap fun (i : Nat) => elL C T b (x0 + (i : Int)) z
def elGrid (C : CfgR) (T : TriR) (b : Bx) (x0 z0 : Int) (kx kz : Nat) : List (El b.n) := (List.range kz).flatMap fun (j : Nat) => elRow C T b x0 (z0 + (j : Int)) kx
theorem elRow_succ (C : CfgR) (T : TriR) (b : Bx) (x0 z : Int) (k : Nat) : elRow C T b x0 z (k + 1) = elRow C T b x0 z k ++ elL C T b (x0 + k) z := flat_succ _ _
theorem elGrid_succ (C : CfgR) (T : TriR) (b : Bx) (x0 z0 : Int) (kx kz : Nat) : elGrid C T b x0 z0 kx (kz + 1) = elGrid C T b x0 z0 kx kz ++ elRow C T b x0 (z0 + kz) kx := flat_succ _ _
theorem elL_len (C : CfgR) (T : TriR) (b : Bx) (x z : Int) : (elL C T b x z).length ≤ 1 := by
  unfold elL
  split
  · cases pcO C x z T <;> simp
  · simp
theorem flat_len {β : Type} (f : Nat → List β) (m : Nat) (h : ∀ i, (f i).length ≤ m) : ∀ k, ((List.range k).flatMap f).length ≤ k * m
  | 0 => by simp
  | k + 1 => by rw [flat_succ, List.length_append, Nat.add_mul]; have := flat_len f m h k; have := h k; omega
theorem elRow_len (C : CfgR) (T : TriR) (b : Bx) (x0 z : Int) (k : Nat) : (elRow C T b x0 z k).length ≤ k := by
  have := flat_len (fun (i : Nat) => elL C T b (x0 + (i : Int)) z) 1 (fun i => elL_len _ _ _ _ _) k
  unfold elRow; omega
theorem elGrid_len (C : CfgR) (T : TriR) (b : Bx) (x0 z0 : Int) (kx kz : Nat) : (elGrid C T b x0 z0 kx kz).length ≤ kz * kx := flat_len _ _ (fun j => elRow_len C T b x0 (z0 + j) kx) kz

/-- Where the pieces of a triangle begin and end. -/
def gx0 (T : TriR) (b : Bx) : Int := max (max (minI T.x0 T.x1 T.x2 - 1) b.x) 0
def gz0 (T : TriR) (b : Bx) : Int := max (max (minI T.z0 T.z1 T.z2 - 1) b.z) 0
def gx1 (C : CfgR) (T : TriR) (b : Bx) : Int := min (min (maxI T.x0 T.x1 T.x2) (b.x + (b.w - 1))) (C.wd - 1)
def gz1 (C : CfgR) (T : TriR) (b : Bx) : Int := min (min (maxI T.z0 T.z1 T.z2) (b.z + (b.d - 1))) (C.dp - 1)
def gkx (C : CfgR) (T : TriR) (b : Bx) : Nat := (gx1 C T b + 1 - gx0 T b).toNat
def gkz (C : CfgR) (T : TriR) (b : Bx) : Nat := (gz1 C T b + 1 - gz0 T b).toNat
def elAll (C : CfgR) (T : TriR) (b : Bx) : List (El b.n) := elGrid C T b (gx0 T b) (gz0 T b) (gkx C T b) (gkz C T b)
theorem elAll_len {C : CfgR} (hC : C.fine) (T : TriR) (b : Bx) : (elAll C T b).length ≤ 1024 := by
  refine Nat.le_trans (elGrid_len _ _ _ _ _ _ _) ?_
  have h1 : gkx C T b ≤ 32 := by have := hC.w2; unfold gkx gx0 gx1; omega
  have h2 : gkz C T b ≤ 32 := by have := hC.d2; unfold gkz gz0 gz1; omega
  exact Nat.mul_le_mul h2 h1

theorem el_mem {C : CfgR} {T : TriR} {b : Bx} {x z : Int} {e : El b.n} : e ∈ elL C T b x z ↔ b.inside x z ∧ e.1.1 = (b.pl x z).toNat ∧ pcO C x z T = some e.1.2 := by
  unfold elL
  by_cases h : b.inside x z
  · rw [dif_pos h]
    cases hp : pcO C x z T with
    | none => simp
    | some s =>
      obtain ⟨⟨e1, e2⟩, e3⟩ := e
      simp [h, eq_comm]
  · rw [dif_neg h]; simp [h]

/-- What comes to a place: what the triangle has over the column there. -/
theorem el_at {C : CfgR} {T : TriR} {b : Bx} (hb : b.ok) {n : Nat} (hn : n < b.n) :
    ((elAll C T b).filter (fun e => e.1.1 == n)).map (fun e => e.1.2) = if inW C (plX b.x b.w n) (plZ b.z b.w n) then (pcO C (plX b.x b.w n) (plZ b.z b.w n) T).toList else [] := by
  obtain ⟨hi, hp⟩ := Bx.pl_inside hb hn
  obtain ⟨X, hX⟩ : ∃ X, X = plX b.x b.w n := ⟨_, rfl⟩
  obtain ⟨Z, hZ⟩ : ∃ Z, Z = plZ b.z b.w n := ⟨_, rfl⟩
  rw [← hX, ← hZ] at hi hp ⊢
  have one : ∀ x z, (x ≠ X ∨ z ≠ Z) → ((elL C T b x z).filter (fun e => e.1.1 == n)) = [] := by
    intro x z hne
    rw [List.filter_eq_nil_iff]
    intro e he hcon
    obtain ⟨h1, h2, -⟩ := el_mem.1 he
    have h3 : (b.pl x z).toNat = n := by rw [← h2]; simpa using hcon
    obtain ⟨e1, e2⟩ := Bx.pl_at h1
    rw [h3] at e1 e2
    rw [hX, hZ, e1, e2] at hne
    rcases hne with k | k <;> exact k rfl
  have same : (elL C T b X Z).filter (fun e => e.1.1 == n) = elL C T b X Z := by
    rw [List.filter_eq_self]
    intro e he
    obtain ⟨-, h2, -⟩ := el_mem.1 he
    rw [h2, hp]; simp
  have last : (elL C T b X Z).map (fun e => e.1.2) = (pcO C X Z T).toList := by
    unfold elL
    rw [dif_pos hi]
    cases pcO C X Z T <;> rfl
  have rows : ∀ z, ((elRow C T b (gx0 T b) z (gkx C T b)).filter (fun e => e.1.1 == n)) = if z = Z ∧ gx0 T b ≤ X ∧ X ≤ gx1 C T b then elL C T b X Z else [] := by
    intro z
    unfold elRow
    rw [List.filter_flatMap]
    by_cases hz : z = Z
    · subst hz
      by_cases hx : gx0 T b ≤ X
      · rw [flat_one _ (X - gx0 T b).toNat _ (fun i _ hi' => one (gx0 T b + (i : Int)) z (.inl (by omega)))]
        have e : gx0 T b + ((X - gx0 T b).toNat : Int) = X := by omega
        rw [e, same]
        by_cases hx2 : X ≤ gx1 C T b
        · rw [if_pos (by unfold gkx; omega), if_pos ⟨rfl, hx, hx2⟩]
        · rw [if_neg (by unfold gkx; omega), if_neg (fun h => hx2 h.2.2)]
      · rw [if_neg (fun h => hx h.2.1), flat_one _ (gkx C T b) _ (fun i _ _ => one (gx0 T b + (i : Int)) z (.inl (by omega))), if_neg (by omega)]
    · rw [if_neg (fun h => hz h.1), flat_one _ (gkx C T b) _ (fun i _ _ => one (gx0 T b + (i : Int)) z (.inr hz)), if_neg (by omega)]
  have all : ((elAll C T b).filter (fun e => e.1.1 == n)) = if (gz0 T b ≤ Z ∧ Z ≤ gz1 C T b) ∧ gx0 T b ≤ X ∧ X ≤ gx1 C T b then elL C T b X Z else [] := by
    unfold elAll elGrid
    rw [List.filter_flatMap]
    have e : (fun (j : Nat) => (elRow C T b (gx0 T b) (gz0 T b + j) (gkx C T b)).filter (fun e => e.1.1 == n)) = fun (j : Nat) => if gz0 T b + j = Z ∧ gx0 T b ≤ X ∧ X ≤ gx1 C T b then elL C T b X Z else [] := by funext j; exact rows _
    rw [e]
    by_cases hz : gz0 T b ≤ Z
    · rw [flat_one _ (Z - gz0 T b).toNat _ (fun j _ hj => by rw [if_neg (fun h => by omega)])]
      by_cases hz2 : Z ≤ gz1 C T b
      · rw [if_pos (by unfold gkz; omega)]
        have e : gz0 T b + ((Z - gz0 T b).toNat : Int) = Z := by omega
        rw [e]
        simp [hz, hz2]
      · rw [if_neg (by unfold gkz; omega), if_neg (fun h => hz2 h.1.2)]
    · rw [if_neg (fun h => hz h.1.1), flat_one _ (gkz C T b) _ (fun j _ _ => by rw [if_neg (fun h => by omega)]), if_neg (by omega)]
  rw [all]
  by_cases ho : ovB T X Z = true
  · obtain ⟨-, -, -, hx, hz⟩ := ov_between ho
    obtain ⟨⟨i1, i2⟩, i3, i4⟩ := hi
    by_cases hw : inW C X Z = true
    · have hw' := inW_iff.1 hw
      rw [if_pos hw, if_pos (by unfold gz0 gz1 gx0 gx1; omega), last]
    · rw [if_neg hw, if_neg (fun h => hw (inW_iff.2 (by unfold gz0 gz1 gx0 gx1 at h; omega)))]
      rfl
  · have ho' : ovB T X Z = false := by cases h : ovB T X Z; rfl; exact absurd h ho
    have hp' : pcO C X Z T = none := by unfold pcO; rw [ho']; rfl
    rw [elL_none ho', hp']
    split <;> split <;> rfl

theorem col_snoc {C : CfgR} {l : List TriR} {T : TriR} {x z : Int} : colL C (l ++ [T]) x z = colL C l x z ++ (if inW C x z then (pcO C x z T).toList else []) := by
  unfold colL
  split
  · rw [List.filterMap_append]
    congr 1
  · rfl

/-- Are there any? -/
theorem el_any {C : CfgR} {T : TriR} {b : Bx} (hb : b.ok) : elAll C T b ≠ [] ↔ ∃ x z, b.inside x z ∧ inW C x z = true ∧ ovB T x z = true := by
  constructor
  · intro h
    obtain ⟨e, he⟩ := List.exists_mem_of_ne_nil _ h
    have hn := e.2
    have := el_at (C := C) (T := T) hb hn
    have hm : e.1.2 ∈ ((elAll C T b).filter (fun e' => e'.1.1 == e.1.1)).map (fun e => e.1.2) := List.mem_map.2 ⟨e, List.mem_filter.2 ⟨he, by simp⟩, rfl⟩
    rw [this] at hm
    split at hm
    · rename_i hw
      refine ⟨_, _, (Bx.pl_inside hb hn).1, hw, ?_⟩
      cases hp : pcO C (plX b.x b.w e.1.1) (plZ b.z b.w e.1.1) T with
      | none => rw [hp] at hm; simp at hm
      | some s => exact (pc_fit hp).2
    · simp at hm
  · rintro ⟨x, z, h1, h2, h3⟩ h0
    have hn := (Bx.pl_lt h1).2.2
    have := el_at (C := C) (T := T) hb hn
    obtain ⟨e1, e2⟩ := Bx.pl_at h1
    rw [h0, e1, e2, if_pos h2] at this
    unfold pcO at this
    rw [if_pos h3] at this
    simp at this

end Go.Proofs.YtklopjbpfddgfaaGreat
