import Derived.Test.YtklopjbpfddgfaaGreatSpAZ12
import Derived.Test.YtklopjbpfddgfaaGreatSpBZ12
import Derived.Test.YtklopjbpfddgfaaGreatHatZ12
import Derived.Test.YtklopjbpfddgfaaGreatRows
import Derived.WalkKit
import Derived.Test.YtklopjbpfddgfaaGreatSpPZ12
import Derived.Test.YtklopjbpfddgfaaGreatWholeBZ12

/- Floors of columns, plain and as they lie. No function of the program in sight. -/
namespace Go.Proofs.YtklopjbpfddgfaaGreat
open Go.RowKit
set_option linter.unusedVariables false

/-- A floor. -/
structure Fl where
  (y top area : Int)
instance : Inhabited Fl := ⟨⟨0, 0, 0⟩⟩
def Fl.zero : Fl := ⟨0, 0, 0⟩
def Fl.enc (x : Fl) : List Value := #[.int .i64 x.y, .int .i64 x.top, .int .i64 x.area].toList
theorem Fl.enc_len (x : Fl) : x.enc.length = 3 := rfl
theorem Fl.enc_one (x : Fl) : ∀ u ∈ x.enc, u.oneCell' = true := by
  intro u hu
  simp [Fl.enc] at hu
  rcases hu with rfl | rfl | rfl <;> rfl
def Fl.eqB (a b : Fl) : Bool := a.y == b.y && a.top == b.top && a.area == b.area
theorem Fl.eqB_iff (a b : Fl) : a.eqB b = true ↔ a = b := by
  obtain ⟨a0, a1, a2⟩ := a
  obtain ⟨b0, b1, b2⟩ := b
  simp [Fl.eqB, and_assoc]
instance : DecidableEq Fl := fun a b => decidable_of_iff _ (Fl.eqB_iff a b)
theorem Fl.cells {w : World} {b off : Nat} {l : List Fl} (H : RowAt Fl.enc 3 w b off l) (j : Nat) (h : j < l.length) :
    w.cell? ⟨b, off + j * 3, none⟩ = some (.int .i64 l[j].y) ∧ w.cell? ⟨b, off + j * 3 + 1, none⟩ = some (.int .i64 l[j].top) ∧ w.cell? ⟨b, off + j * 3 + 2, none⟩ = some (.int .i64 l[j].area) :=
  ⟨H j h 0 (by rw [Fl.enc_len]; omega), H j h 1 (by rw [Fl.enc_len]; omega), H j h 2 (by rw [Fl.enc_len]; omega)⟩

end Go.Proofs.YtklopjbpfddgfaaGreat

/- Package spans: what two pieces are together. -/
namespace Go.Proofs.YtklopjbpfddgfaaGreat
open Go.RowKit
set_option linter.unusedVariables false
set_option linter.unusedSimpArgs false

set_option maxHeartbeats 2000000 in
theorem k_union (p q : Sn) (w : World) : Calls Tryz.prog 90 #[.agg #[.int .i64 p.lo, .int .i64 p.hi, .bool p.wk], .agg #[.int .i64 q.lo, .int .i64 q.hi, .bool q.wk]] w fun e w' => e = .returned (.agg #[.int .i64 (un p q).lo, .int .i64 (un p q).hi, .bool (un p q).wk]) ∧ New w w' := by
  unfold un
  obtain ⟨a, b, c⟩ := p
  obtain ⟨d, e, f⟩ := q
  simp only
  obtain ⟨t1, ht1⟩ : ∃ t, t = decide (e ≤ b) := ⟨_, rfl⟩
  obtain ⟨t2, ht2⟩ : ∃ t, t = decide (b ≤ e) := ⟨_, rfl⟩
  have h1 := ht1.symm
  have h2 := ht2.symm
  rw [h1, h2]
  clear ht1 ht2
  go_enter Tryz.func90, Tryz.ntmps90
  cases c <;> cases f <;> cases t1 <;> cases t2
  all_goals
    go_wp2_with fail
    simp only [Bool.false_and, Bool.true_and, Bool.and_false, Bool.and_true, Bool.false_or, Bool.true_or, Bool.or_false, Bool.or_true]
    first
    | (refine bodyPost_ret (v := .agg #[.int .i64 (min a d), .int .i64 (max b e), .bool true]) (by simp [results, Tryz.results90, go_sem, *]) rfl ?_; exact ⟨rfl, by (repeat (first | (with_reducible exact New.refl _) | (with_reducible assumption) | ((with_reducible refine New.setB ?_ ?_ _); focus (first | omega | (simp; omega) | (simp; done))) | (with_reducible refine New.alloc ?_ _) | (with_reducible refine New.drew ?_) | (with_reducible refine New.drewN ?_ _) | (with_reducible refine New.hat ?_ _) | ((with_reducible apply New.snart); (with_reducible assumption))))⟩)
    | (refine bodyPost_ret (v := .agg #[.int .i64 (min a d), .int .i64 (max b e), .bool false]) (by simp [results, Tryz.results90, go_sem, *]) rfl ?_; exact ⟨rfl, by (repeat (first | (with_reducible exact New.refl _) | (with_reducible assumption) | ((with_reducible refine New.setB ?_ ?_ _); focus (first | omega | (simp; omega) | (simp; done))) | (with_reducible refine New.alloc ?_ _) | (with_reducible refine New.drew ?_) | (with_reducible refine New.drewN ?_ _) | (with_reducible refine New.hat ?_ _) | ((with_reducible apply New.snart); (with_reducible assumption))))⟩)

end Go.Proofs.YtklopjbpfddgfaaGreat

/- The same class of worlds where a statement's order is fixed. -/
namespace Go.Proofs.YtklopjbpfddgfaaGreat
open Go.RowKit
set_option linter.unusedVariables false

theorem wpList_of_quiet {P : Program} {ops : Array Oper} {C : World → Prop} {Q : Exit → Act → World → Prop} : ∀ (l : List Oper) (a : Act) (w : World), C w → wpQuiet P ops C (fun a' => ∀ w', C w' → Q .normal a' w') l a → wpList P ops Q l a w
  | [], _, _, hw, h => h _ hw
  | o :: l, a, w, hw, h => by
    unfold wpQuiet at h
    unfold wpList
    split
    · rename_i hwant
      rw [if_pos hwant] at h
      exact .inl (Oper.wp_of_quiet hw (fun a' w' hw' hk => wpList_of_quiet l a' w' hw' hk) h)
    · rename_i hwant
      rw [if_neg hwant] at h
      exact wpList_of_quiet l _ w hw h

theorem wp_region_hats {P : Program} {id : Nat} {Q : Exit → Act → World → Prop} {a : Act} {w : World} {l : List Oper}
    (h : (∀ (x : Hat w) (b o : Nat), (w.cell? ⟨b, o, none⟩).isSome = true → x.w.cell? ⟨b, o, none⟩ = w.cell? ⟨b, o, none⟩) → (∀ (x : Hat w) (b o : Nat), (w.cell? ⟨b, o, none⟩).isSome = true → x.w.frozen? ⟨b, o, none⟩ = w.frozen? ⟨b, o, none⟩) → wpQuiet P l.toArray (fun w' => ∃ x : Hat w, w' = x.w) (fun a' => ∀ w', (∃ x : Hat w, w' = x.w) → Q .normal a' w') l a) : (Code.region id l.toArray false).wp P Q a w :=
  wp_region_lit (wpList_of_quiet l a w ⟨⟨w, Below.refl _ w⟩, rfl⟩ (h hat_cell hat_frozen))

end Go.Proofs.YtklopjbpfddgfaaGreat

/- How great a product may be. No function of the program in sight. -/
namespace Go.Proofs.YtklopjbpfddgfaaGreat

theorem mul_bd {a b A B : Int} (ha : -A ≤ a ∧ a ≤ A) (hb : -B ≤ b ∧ b ≤ B) : -(A * B) ≤ a * b ∧ a * b ≤ A * B := by
  have hA : 0 ≤ A := by omega
  have hB : 0 ≤ B := by omega
  have h1 : 0 ≤ (A - a) * (B - b) := Int.mul_nonneg (by omega) (by omega)
  have h2 : 0 ≤ (A + a) * (B + b) := Int.mul_nonneg (by omega) (by omega)
  have h3 : 0 ≤ (A - a) * (B + b) := Int.mul_nonneg (by omega) (by omega)
  have h4 : 0 ≤ (A + a) * (B - b) := Int.mul_nonneg (by omega) (by omega)
  simp only [Int.sub_mul, Int.mul_sub, Int.add_mul, Int.mul_add] at h1 h2 h3 h4
  omega

end Go.Proofs.YtklopjbpfddgfaaGreat

/- Package spans: what Put answers. -/
namespace Go.Proofs.YtklopjbpfddgfaaGreat
open Go.RowKit
set_option linter.unusedVariables false

theorem not_bad {l : List Sn} (h : fstB badS l = false) : ∀ p ∈ l, -2048 ≤ p.lo ∧ p.lo ≤ p.hi ∧ p.hi ≤ 2048 := fun p hp => by
  unfold fstB at h
  rw [List.any_eq_false] at h
  have := h p hp
  exact (badS_not p).1 (by cases hb : badS p; rfl; exact absurd hb this)

/-- What Put answers. -/
def Putted (l : List Sn) (s : Sn) (w : World) (e : Ending) (w' : World) : Prop :=
  New w w' ∧ (((spE l = 2 ∨ badS s = true) ∧ e = .returned (.tuple #[.slice none 0 0, .int .i64 2])) ∨
    (spE l = 0 ∧ badS s = false ∧ ∃ R : List Sn, IsM (l ++ [s]) R ∧ ((8 < R.length ∧ e = .returned (.tuple #[.slice none 0 0, .int .i64 51])) ∨
      (R.length ≤ 8 ∧ ∃ (a : Option Addr) (c : Nat), e = .returned (.tuple #[.slice a R.length c, .int .i64 0]) ∧ Sl Sn.enc 3 w' (.slice a R.length c) R))))

end Go.Proofs.YtklopjbpfddgfaaGreat

/- Contracts of Ceil, Mod, Sign of package whole and of the document's own. -/
namespace Go.Proofs.YtklopjbpfddgfaaGreat
open Go.RowKit

theorem tame_tame (n : Int) : tameI (tameI n) = tameI n := by unfold tameI clampI; omega
theorem tame_neg_tame (n : Int) : tameI (- tameI n) = - tameI n := by unfold tameI clampI; omega
theorem floorI_bd (a b : Int) : -2305843009213693953 ≤ floorI a b ∧ floorI a b ≤ 2305843009213693952 := by
  unfold floorI
  split
  · omega
  · exact fdiv_bd _ _ ‹_› (tame_bd a)
theorem floorI_tame (a b : Int) : floorI a (tameI b) = floorI a b := by unfold floorI; rw [tame_tame]
theorem floorI_tame' (a b : Int) : floorI (tameI a) b = floorI a b := by unfold floorI; rw [tame_tame]

def ceilI (a b : Int) : Int := - floorI (- tameI a) b

set_option maxHeartbeats 400000 in
theorem ceil_any (a b : Int) (w : World) :
    Calls Tryz.prog 110 #[.int .i64 a, .int .i64 b] w fun e w' => e = .returned (.tuple #[.int .i64 (ceilI a b), .int .i64 (errI (tameI b != 0))]) ∧ w = w' := by
  have ha := tame_bd a
  have hf := floorI_bd (- tameI a) b
  go_enter Tryz.func110, Tryz.ntmps110
  go_wp2_with (first | (go_at_call 133; refine (tame_any _ _).mono ?_; rintro e w' ⟨rfl, rfl⟩) | (go_at_call 109; refine (floor_any _ _ _).mono ?_; rintro e w' ⟨rfl, rfl⟩))
  go_ret2
  exact ⟨rfl, rfl⟩

set_option maxHeartbeats 400000 in
theorem rceil_any (a b : Int) (w : World) :
    Calls Tryz.prog 73 #[.int .i64 a, .int .i64 b] w fun e w' => e = .returned (.tuple #[.int .i64 (ceilI a b), .int .i64 (errI (tameI b != 0))]) ∧ w = w' := by
  have ha := tame_bd a
  have hf := floorI_bd (- tameI a) b
  go_enter Tryz.func73, Tryz.ntmps73
  go_wp2_with (first | (go_at_call 97; refine (in_any _ _ _ _).mono ?_; rw [in_tame]; rintro e w' ⟨rfl, rfl⟩) | (go_at_call 72; refine (rfloor_any _ _ _).mono ?_; rw [floorI_tame, tame_tame]; rintro e w' ⟨rfl, rfl⟩))
  go_ret2
  exact ⟨rfl, rfl⟩

def modI (a b : Int) : Int := if tameI b < 1 then 0 else Int.fmod (tameI a) (tameI b)
def modE (b : Int) : Int := if tameI b < 1 then 2 else 0

set_option maxHeartbeats 400000 in
theorem sign_any (n : Int) (w : World) :
    Calls Tryz.prog 143 #[.int .i64 n] w fun e w' => e = .returned (.int .i64 (clampI n (-1) 1)) ∧ w = w' := by
  go_enter Tryz.func143, Tryz.ntmps143
  go_wp2_with (go_at_call 76; refine (into_any _ _ _ _).mono ?_; rintro e w' ⟨rfl, rfl⟩)
  go_ret
  exact ⟨rfl, rfl⟩

set_option maxHeartbeats 400000 in
theorem rsign_any (n : Int) (w : World) :
    Calls Tryz.prog 121 #[.int .i64 n] w fun e w' => e = .returned (.int .i64 (clampI n (-1) 1)) ∧ w = w' := by
  go_enter Tryz.func121, Tryz.ntmps121
  go_wp2
  all_goals
    go_ret
    exact ⟨retI (by unfold clampI; omega), rfl⟩

end Go.Proofs.YtklopjbpfddgfaaGreat
