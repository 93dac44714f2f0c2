import Derived.Test.YtccikeagbillgaaGreatSoAZ3
import Derived.Test.YtccikeagbillgaaGreatHatZ3
import Derived.Test.YtccikeagbillgaaGreatRows
import Derived.WalkKit
import Derived.Test.YtccikeagbillgaaGreatSpBZ3
import Derived.RowKit

/- Triangles, boxes, hops, soups, as they lie in memory. No function of the program in sight. -/
namespace Go.Proofs.YtccikeagbillgaaGreat
open Go.ChangeShapes Go.WideShapes Go.RowKit Go.Deep
set_option linter.unusedVariables false

structure TriR where
  (i x0 y0 z0 x1 y1 z1 x2 y2 z2 : Int)
structure BoxR where
  (i x0 z0 x1 z1 y0 y1 ar : Int)
structure HopR where
  (i fx fz fy tx tz ty : Int)
  bo : Bool
  (ar co : Int)
instance : Inhabited TriR := ⟨⟨0, 0, 0, 0, 0, 0, 0, 0, 0, 0⟩⟩
instance : Inhabited BoxR := ⟨⟨0, 0, 0, 0, 0, 0, 0, 0⟩⟩
instance : Inhabited HopR := ⟨⟨0, 0, 0, 0, 0, 0, 0, false, 0, 0⟩⟩
def TriR.zero : TriR := ⟨0, 0, 0, 0, 0, 0, 0, 0, 0, 0⟩
def BoxR.zero : BoxR := ⟨0, 0, 0, 0, 0, 0, 0, 0⟩
def HopR.zero : HopR := ⟨0, 0, 0, 0, 0, 0, 0, false, 0, 0⟩
def TriR.eqB (a b : TriR) : Bool := a.i == b.i && a.x0 == b.x0 && a.y0 == b.y0 && a.z0 == b.z0 && a.x1 == b.x1 && a.y1 == b.y1 && a.z1 == b.z1 && a.x2 == b.x2 && a.y2 == b.y2 && a.z2 == b.z2
def BoxR.eqB (a b : BoxR) : Bool := a.i == b.i && a.x0 == b.x0 && a.z0 == b.z0 && a.x1 == b.x1 && a.z1 == b.z1 && a.y0 == b.y0 && a.y1 == b.y1 && a.ar == b.ar
def HopR.eqB (a b : HopR) : Bool := a.i == b.i && a.fx == b.fx && a.fz == b.fz && a.fy == b.fy && a.tx == b.tx && a.tz == b.tz && a.ty == b.ty && a.bo == b.bo && a.ar == b.ar && a.co == b.co

def TriR.enc (x : TriR) : List Value := #[.int .i64 x.i, .int .i64 x.x0, .int .i64 x.y0, .int .i64 x.z0, .int .i64 x.x1, .int .i64 x.y1, .int .i64 x.z1, .int .i64 x.x2, .int .i64 x.y2, .int .i64 x.z2].toList
theorem TriR.enc_len (x : TriR) : x.enc.length = 10 := rfl
theorem TriR.enc_one (x : TriR) : ∀ u ∈ x.enc, u.oneCell' = true := by
  intro u hu
  simp [TriR.enc] at hu
  rcases hu with rfl | rfl | rfl | rfl | rfl | rfl | rfl | rfl | rfl | rfl <;> rfl
theorem TriR.eqB_iff (a b : TriR) : a.eqB b = true ↔ a = b := by
  obtain ⟨a0, a1, a2, a3, a4, a5, a6, a7, a8, a9⟩ := a
  obtain ⟨b0, b1, b2, b3, b4, b5, b6, b7, b8, b9⟩ := b
  simp [TriR.eqB, and_assoc]
theorem TriR.cells {w : World} {b off : Nat} {l : List TriR} (H : RowAt TriR.enc 10 w b off l) (j : Nat) (h : j < l.length) :
    w.cell? ⟨b, off + j * 10, none⟩ = some (.int .i64 l[j].i) ∧ w.cell? ⟨b, off + j * 10 + 1, none⟩ = some (.int .i64 l[j].x0) ∧ w.cell? ⟨b, off + j * 10 + 2, none⟩ = some (.int .i64 l[j].y0) ∧ w.cell? ⟨b, off + j * 10 + 3, none⟩ = some (.int .i64 l[j].z0) ∧ w.cell? ⟨b, off + j * 10 + 4, none⟩ = some (.int .i64 l[j].x1) ∧ w.cell? ⟨b, off + j * 10 + 5, none⟩ = some (.int .i64 l[j].y1) ∧ w.cell? ⟨b, off + j * 10 + 6, none⟩ = some (.int .i64 l[j].z1) ∧ w.cell? ⟨b, off + j * 10 + 7, none⟩ = some (.int .i64 l[j].x2) ∧ w.cell? ⟨b, off + j * 10 + 8, none⟩ = some (.int .i64 l[j].y2) ∧ w.cell? ⟨b, off + j * 10 + 9, none⟩ = some (.int .i64 l[j].z2) :=
  ⟨H j h 0 (by rw [TriR.enc_len]; omega), H j h 1 (by rw [TriR.enc_len]; omega), H j h 2 (by rw [TriR.enc_len]; omega), H j h 3 (by rw [TriR.enc_len]; omega), H j h 4 (by rw [TriR.enc_len]; omega), H j h 5 (by rw [TriR.enc_len]; omega), H j h 6 (by rw [TriR.enc_len]; omega), H j h 7 (by rw [TriR.enc_len]; omega), H j h 8 (by rw [TriR.enc_len]; omega), H j h 9 (by rw [TriR.enc_len]; omega)⟩

def BoxR.enc (x : BoxR) : List Value := #[.int .i64 x.i, .int .i64 x.x0, .int .i64 x.z0, .int .i64 x.x1, .int .i64 x.z1, .int .i64 x.y0, .int .i64 x.y1, .int .i64 x.ar].toList
theorem BoxR.enc_len (x : BoxR) : x.enc.length = 8 := rfl
theorem BoxR.enc_one (x : BoxR) : ∀ u ∈ x.enc, u.oneCell' = true := by
  intro u hu
  simp [BoxR.enc] at hu
  rcases hu with rfl | rfl | rfl | rfl | rfl | rfl | rfl | rfl <;> rfl
theorem BoxR.eqB_iff (a b : BoxR) : a.eqB b = true ↔ a = b := by
  obtain ⟨a0, a1, a2, a3, a4, a5, a6, a7⟩ := a
  obtain ⟨b0, b1, b2, b3, b4, b5, b6, b7⟩ := b
  simp [BoxR.eqB, and_assoc]
theorem BoxR.cells {w : World} {b off : Nat} {l : List BoxR} (H : RowAt BoxR.enc 8 w b off l) (j : Nat) (h : j < l.length) :
    w.cell? ⟨b, off + j * 8, none⟩ = some (.int .i64 l[j].i) ∧ w.cell? ⟨b, off + j * 8 + 1, none⟩ = some (.int .i64 l[j].x0) ∧ w.cell? ⟨b, off + j * 8 + 2, none⟩ = some (.int .i64 l[j].z0) ∧ w.cell? ⟨b, off + j * 8 + 3, none⟩ = some (.int .i64 l[j].x1) ∧ w.cell? ⟨b, off + j * 8 + 4, none⟩ = some (.int .i64 l[j].z1) ∧ w.cell? ⟨b, off + j * 8 + 5, none⟩ = some (.int .i64 l[j].y0) ∧ w.cell? ⟨b, off + j * 8 + 6, none⟩ = some (.int .i64 l[j].y1) ∧ w.cell? ⟨b, off + j * 8 + 7, none⟩ = some (.int .i64 l[j].ar) :=
  ⟨H j h 0 (by rw [BoxR.enc_len]; omega), H j h 1 (by rw [BoxR.enc_len]; omega), H j h 2 (by rw [BoxR.enc_len]; omega), H j h 3 (by rw [BoxR.enc_len]; omega), H j h 4 (by rw [BoxR.enc_len]; omega), H j h 5 (by rw [BoxR.enc_len]; omega), H j h 6 (by rw [BoxR.enc_len]; omega), H j h 7 (by rw [BoxR.enc_len]; omega)⟩

def HopR.enc (x : HopR) : List Value := #[.int .i64 x.i, .int .i64 x.fx, .int .i64 x.fz, .int .i64 x.fy, .int .i64 x.tx, .int .i64 x.tz, .int .i64 x.ty, .bool x.bo, .int .i64 x.ar, .int .i64 x.co].toList
theorem HopR.enc_len (x : HopR) : x.enc.length = 10 := rfl
theorem HopR.enc_one (x : HopR) : ∀ u ∈ x.enc, u.oneCell' = true := by
  intro u hu
  simp [HopR.enc] at hu
  rcases hu with rfl | rfl | rfl | rfl | rfl | rfl | rfl | rfl | rfl | rfl <;> rfl
theorem HopR.eqB_iff (a b : HopR) : a.eqB b = true ↔ a = b := by
  obtain ⟨a0, a1, a2, a3, a4, a5, a6, a7, a8, a9⟩ := a
  obtain ⟨b0, b1, b2, b3, b4, b5, b6, b7, b8, b9⟩ := b
  simp [HopR.eqB, and_assoc]
theorem HopR.cells {w : World} {b off : Nat} {l : List HopR} (H : RowAt HopR.enc 10 w b off l) (j : Nat) (h : j < l.length) :
    w.cell? ⟨b, off + j * 10, none⟩ = some (.int .i64 l[j].i) ∧ w.cell? ⟨b, off + j * 10 + 1, none⟩ = some (.int .i64 l[j].fx) ∧ w.cell? ⟨b, off + j * 10 + 2, none⟩ = some (.int .i64 l[j].fz) ∧ w.cell? ⟨b, off + j * 10 + 3, none⟩ = some (.int .i64 l[j].fy) ∧ w.cell? ⟨b, off + j * 10 + 4, none⟩ = some (.int .i64 l[j].tx) ∧ w.cell? ⟨b, off + j * 10 + 5, none⟩ = some (.int .i64 l[j].tz) ∧ w.cell? ⟨b, off + j * 10 + 6, none⟩ = some (.int .i64 l[j].ty) ∧ w.cell? ⟨b, off + j * 10 + 7, none⟩ = some (.bool l[j].bo) ∧ w.cell? ⟨b, off + j * 10 + 8, none⟩ = some (.int .i64 l[j].ar) ∧ w.cell? ⟨b, off + j * 10 + 9, none⟩ = some (.int .i64 l[j].co) :=
  ⟨H j h 0 (by rw [HopR.enc_len]; omega), H j h 1 (by rw [HopR.enc_len]; omega), H j h 2 (by rw [HopR.enc_len]; omega), H j h 3 (by rw [HopR.enc_len]; omega), H j h 4 (by rw [HopR.enc_len]; omega), H j h 5 (by rw [HopR.enc_len]; omega), H j h 6 (by rw [HopR.enc_len]; omega), H j h 7 (by rw [HopR.enc_len]; omega), H j h 8 (by rw [HopR.enc_len]; omega), H j h 9 (by rw [HopR.enc_len]; omega)⟩
/-- A soup, and where its lists lie. -/
structure SoupV where
  (ts : List TriR) (bs : List BoxR) (hs : List HopR)
  (a0 a1 a2 : Option Addr) (c0 c1 c2 : Nat)
def SoupV.val (S : SoupV) : Value := .agg #[.slice S.a0 S.ts.length S.c0, .slice S.a1 S.bs.length S.c1, .slice S.a2 S.hs.length S.c2]
structure SoupV.ok (S : SoupV) (w : World) : Prop where
  t : Sl TriR.enc 10 w (.slice S.a0 S.ts.length S.c0) S.ts
  b : Sl BoxR.enc 8 w (.slice S.a1 S.bs.length S.c1) S.bs
  h : Sl HopR.enc 10 w (.slice S.a2 S.hs.length S.c2) S.hs
theorem SoupV.ok.keep {S : SoupV} {w w' : World} (h : S.ok w) (n : New w w') : S.ok w' := ⟨h.t.keep n, h.b.keep n, h.h.keep n⟩
theorem Sl.row {α : Type} {enc : α → List Value} {k : Nat} {w : World} {at0 : Option Addr} {n c : Nat} {l : List α} (h : Sl enc k w (.slice at0 n c) l) : n = l.length ∧ l.length ≤ c ∧ c ≤ maxLen ∧ (at0 = none → c = 0) ∧ RowIn enc k w at0 l := by
  obtain ⟨a, c', e, h1, h2, h3, h4⟩ := h
  injection e with e1 e2 e3
  subst e1 e2 e3
  exact ⟨rfl, h1, h2, h3, h4⟩

end Go.Proofs.YtccikeagbillgaaGreat

/- The same class of worlds where a statement's order is fixed. -/
namespace Go.Proofs.YtccikeagbillgaaGreat
open Go.RowKit
set_option linter.unusedVariables false

theorem wpList_of_quiet {P : Program} {ops : Array Oper} {C : World → Prop} {Q : Exit → Act → World → Prop} : ∀ (l : List Oper) (a : Act) (w : World), C w → wpQuiet P ops C (fun a' => ∀ w', C w' → Q .normal a' w') l a → wpList P ops Q l a w
  | [], _, _, hw, h => h _ hw
  | o :: l, a, w, hw, h => by
    unfold wpQuiet at h
    unfold wpList
    split
    · rename_i hwant
      rw [if_pos hwant] at h
      exact .inl (Oper.wp_of_quiet hw (fun a' w' hw' hk => wpList_of_quiet l a' w' hw' hk) h)
    · rename_i hwant
      rw [if_neg hwant] at h
      exact wpList_of_quiet l _ w hw h

theorem wp_region_hats {P : Program} {id : Nat} {Q : Exit → Act → World → Prop} {a : Act} {w : World} {l : List Oper}
    (h : (∀ (x : Hat w) (b o : Nat), (w.cell? ⟨b, o, none⟩).isSome = true → x.w.cell? ⟨b, o, none⟩ = w.cell? ⟨b, o, none⟩) → (∀ (x : Hat w) (b o : Nat), (w.cell? ⟨b, o, none⟩).isSome = true → x.w.frozen? ⟨b, o, none⟩ = w.frozen? ⟨b, o, none⟩) → wpQuiet P l.toArray (fun w' => ∃ x : Hat w, w' = x.w) (fun a' => ∀ w', (∃ x : Hat w, w' = x.w) → Q .normal a' w') l a) : (Code.region id l.toArray false).wp P Q a w :=
  wp_region_lit (wpList_of_quiet l a w ⟨⟨w, Below.refl _ w⟩, rfl⟩ (h hat_cell hat_frozen))

end Go.Proofs.YtccikeagbillgaaGreat

/- How great a product may be. No function of the program in sight. -/
namespace Go.Proofs.YtccikeagbillgaaGreat

theorem mul_bd {a b A B : Int} (ha : -A ≤ a ∧ a ≤ A) (hb : -B ≤ b ∧ b ≤ B) : -(A * B) ≤ a * b ∧ a * b ≤ A * B := by
  have hA : 0 ≤ A := by omega
  have hB : 0 ≤ B := by omega
  have h1 : 0 ≤ (A - a) * (B - b) := Int.mul_nonneg (by omega) (by omega)
  have h2 : 0 ≤ (A + a) * (B + b) := Int.mul_nonneg (by omega) (by omega)
  have h3 : 0 ≤ (A - a) * (B + b) := Int.mul_nonneg (by omega) (by omega)
  have h4 : 0 ≤ (A + a) * (B - b) := Int.mul_nonneg (by omega) (by omega)
  simp only [Int.sub_mul, Int.mul_sub, Int.add_mul, Int.mul_add] at h1 h2 h3 h4
  omega

end Go.Proofs.YtccikeagbillgaaGreat

/- Package spans: what two pieces are together. -/
namespace Go.Proofs.YtccikeagbillgaaGreat
open Go.RowKit
set_option linter.unusedVariables false
set_option linter.unusedSimpArgs false

set_option maxHeartbeats 2000000 in
theorem k_union (p q : Sn) (w : World) : Calls Tryz.prog 87 #[.agg #[.int .i64 p.lo, .int .i64 p.hi, .bool p.wk], .agg #[.int .i64 q.lo, .int .i64 q.hi, .bool q.wk]] w fun e w' => e = .returned (.agg #[.int .i64 (un p q).lo, .int .i64 (un p q).hi, .bool (un p q).wk]) ∧ New w w' := by
  unfold un
  obtain ⟨a, b, c⟩ := p
  obtain ⟨d, e, f⟩ := q
  simp only
  obtain ⟨t1, ht1⟩ : ∃ t, t = decide (e ≤ b) := ⟨_, rfl⟩
  obtain ⟨t2, ht2⟩ : ∃ t, t = decide (b ≤ e) := ⟨_, rfl⟩
  have h1 := ht1.symm
  have h2 := ht2.symm
  rw [h1, h2]
  clear ht1 ht2
  go_enter Tryz.func87, Tryz.ntmps87
  cases c <;> cases f <;> cases t1 <;> cases t2
  all_goals
    go_wp2_with fail
    simp only [Bool.false_and, Bool.true_and, Bool.and_false, Bool.and_true, Bool.false_or, Bool.true_or, Bool.or_false, Bool.or_true]
    first
    | (refine bodyPost_ret (v := .agg #[.int .i64 (min a d), .int .i64 (max b e), .bool true]) (by simp [results, Tryz.results87, go_sem, *]) rfl ?_; exact ⟨rfl, by (repeat (first | (with_reducible exact New.refl _) | (with_reducible assumption) | ((with_reducible refine New.setB ?_ ?_ _); focus (first | omega | (simp; omega) | (simp; done))) | (with_reducible refine New.alloc ?_ _) | (with_reducible refine New.drew ?_) | (with_reducible refine New.drewN ?_ _) | (with_reducible refine New.hat ?_ _) | ((with_reducible apply New.snart); (with_reducible assumption))))⟩)
    | (refine bodyPost_ret (v := .agg #[.int .i64 (min a d), .int .i64 (max b e), .bool false]) (by simp [results, Tryz.results87, go_sem, *]) rfl ?_; exact ⟨rfl, by (repeat (first | (with_reducible exact New.refl _) | (with_reducible assumption) | ((with_reducible refine New.setB ?_ ?_ _); focus (first | omega | (simp; omega) | (simp; done))) | (with_reducible refine New.alloc ?_ _) | (with_reducible refine New.drew ?_) | (with_reducible refine New.drewN ?_ _) | (with_reducible refine New.hat ?_ _) | ((with_reducible apply New.snart); (with_reducible assumption))))⟩)

end Go.Proofs.YtccikeagbillgaaGreat

/- Plain facts about whole numbers, no program in sight: division towards nought against division downwards. -/
namespace Go.Proofs.YtccikeagbillgaaGreat
open Go.RowKit

theorem wrap64_in {n : Int} (h : -9223372036854775808 ≤ n ∧ n ≤ 9223372036854775807) : wrap64 n = n := by
  unfold wrap64; omega

theorem tdiv_bd (a b : Int) (ha : -2305843009213693952 ≤ a ∧ a ≤ 2305843009213693952) :
    -2305843009213693952 ≤ a.tdiv b ∧ a.tdiv b ≤ 2305843009213693952 := by
  have := Int.natAbs_tdiv_le_natAbs a b
  omega

theorem fdiv_exact {a b : Int} (h : a.tmod b = 0) : a.fdiv b = a.tdiv b := by
  rw [Int.fdiv_eq_tdiv, if_pos (Int.dvd_of_tmod_eq_zero h)]; omega

theorem fdiv_down {a b : Int} (hb : b ≠ 0) (h : ¬ a.tmod b = 0) (hs : (!decide (a < 0) == decide (b < 0)) = true) :
    a.fdiv b = a.tdiv b - 1 := by
  rw [Int.fdiv_eq_tdiv, if_neg (fun h' => h (Int.dvd_iff_tmod_eq_zero.mp h'))]
  rcases Int.lt_trichotomy b 0 with hb' | hb' | hb'
  · rw [Int.sign_eq_neg_one_of_neg hb']
    have : 0 ≤ a := by simp at hs; omega
    simp [this]; omega
  · exact absurd hb' hb
  · rw [Int.sign_eq_one_of_pos hb']
    have : ¬ 0 ≤ a := by simp at hs; omega
    have hb2 : 0 ≤ b := by omega
    simp [this, hb2]

theorem fdiv_same {a b : Int} (hb : b ≠ 0) (hs : (!decide (a < 0) == decide (b < 0)) = false) :
    a.fdiv b = a.tdiv b := by
  by_cases h : a.tmod b = 0
  · exact fdiv_exact h
  rw [Int.fdiv_eq_tdiv, if_neg (fun h' => h (Int.dvd_iff_tmod_eq_zero.mp h'))]
  rcases Int.lt_trichotomy b 0 with hb' | hb' | hb'
  · rw [Int.sign_eq_neg_one_of_neg hb']
    have h1 : ¬ 0 ≤ a := by simp at hs; omega
    have h2 : ¬ 0 ≤ b := by omega
    simp [h1, h2]
  · exact absurd hb' hb
  · rw [Int.sign_eq_one_of_pos hb']
    have h1 : 0 ≤ a := by simp at hs; omega
    have hb2 : 0 ≤ b := by omega
    simp [h1, hb2]

theorem tdiv_exact_iff {a b : Int} : a.tdiv b * b = a ↔ a.tmod b = 0 := by
  have := Int.tmod_add_mul_tdiv a b
  rw [Int.mul_comm] at this
  constructor <;> intro h <;> omega

theorem tdiv_mul_bd (a b : Int) (ha : -2305843009213693952 ≤ a ∧ a ≤ 2305843009213693952) :
    -2305843009213693952 ≤ a.tdiv b * b ∧ a.tdiv b * b ≤ 2305843009213693952 := by
  have h1 : (a.tdiv b * b).natAbs ≤ a.natAbs := by
    rw [Int.natAbs_mul, Int.natAbs_tdiv]
    exact Nat.div_mul_le_self _ _
  omega

theorem fdiv_bd (a b : Int) (hb : b ≠ 0) (ha : -2305843009213693952 ≤ a ∧ a ≤ 2305843009213693952) :
    -2305843009213693953 ≤ a.fdiv b ∧ a.fdiv b ≤ 2305843009213693952 := by
  have ht := tdiv_bd a b ha
  by_cases h : a.tmod b = 0
  · rw [fdiv_exact h]; omega
  · by_cases hs : (!decide (a < 0) == decide (b < 0)) = true
    · rw [fdiv_down hb h hs]; omega
    · rw [fdiv_same hb (by simpa using hs)]; omega

theorem mul_fdiv_bd (a b : Int) (hb : 1 ≤ b) (h2 : b ≤ 2305843009213693952) (ha : -2305843009213693952 ≤ a ∧ a ≤ 2305843009213693952) :
    -4611686018427387904 ≤ b * a.fdiv b ∧ b * a.fdiv b ≤ 2305843009213693952 := by
  have h := Int.mul_fdiv_add_fmod a b
  have h0 := Int.fmod_nonneg_of_pos a (b := b) (by omega)
  have h1 := Int.fmod_lt_of_pos a (b := b) (by omega)
  omega

theorem fmod_of_tmod (a b : Int) (hb : 1 ≤ b) : a.fmod b = if a.tmod b < 0 then a.tmod b + b else a.tmod b := by
  have h := Int.mul_fdiv_add_fmod a b
  have h0 := Int.fmod_nonneg_of_pos a (b := b) (by omega)
  have h1 := Int.fmod_lt_of_pos a (b := b) (by omega)
  have k := Int.tmod_add_mul_tdiv a b
  by_cases hm : a.tmod b = 0
  · rw [if_neg (by omega)]
    rw [fdiv_exact hm] at h
    omega
  · by_cases hs : (!decide (a < 0) == decide (b < 0)) = true
    · rw [fdiv_down (by omega) hm hs, Int.mul_sub] at h
      rw [if_pos (by omega)]
      omega
    · rw [fdiv_same (by omega) (by simpa using hs)] at h
      rw [if_neg (by omega)]
      omega

end Go.Proofs.YtccikeagbillgaaGreat
