import Derived.Test.YtklopjbpfddgfaaGreatSpPZ12
import Derived.Test.YtklopjbpfddgfaaGreatSteadyZ12
import Derived.Deep.MidRow
import Derived.RowKit
import Derived.Test.YtklopjbpfddgfaaGreatRows
import Derived.WalkKit
import Derived.WalkSpells
import Derived.WalkLawsBesides
import Derived.IntWalk

/- A struct stored whole into a block of the call's own. No function of the program in sight. -/
namespace Go.Proofs.YtklopjbpfddgfaaGreat
open Go.RowKit
set_option linter.unusedVariables false

/-- n cells are there at a block's head, and may be written. -/
def Thr (w : World) (b n : Nat) : Prop := ∀ j, j < n → (∃ v, w.cell? ⟨b, j, none⟩ = some v) ∧ w.frozen? ⟨b, j, none⟩ = false
theorem Thr.keep {w w' : World} {b n : Nat} (h : Thr w b n) (hn : New w w') : Thr w' b n := fun j hj => by
  obtain ⟨⟨v, hv⟩, hf⟩ := h j hj
  exact ⟨⟨v, hn.keep hv⟩, hn.keepF hv hf⟩
theorem Thr.lt {w : World} {b n : Nat} (h : Thr w b n) (h0 : 0 < n) : b < w.heap.size := by
  obtain ⟨⟨v, hv⟩, _⟩ := h 0 h0
  exact World.block_lt_of_cell? _ _ hv
theorem Thr.new (w : World) (cs : Array Value) (T : TypeId) (b : Nat) (hb : w.heap.size = b) : Thr (w.alloc (.cells cs T)) b cs.size := fun j hj => by
  subst hb
  have h1 : (w.alloc (.cells cs T)).heap[w.heap.size]? = some (.cells cs T) := heap_new _ _
  exact ⟨⟨cs[j], cell_of_heap h1 (by simp [hj])⟩, frozen_of_heap h1⟩

theorem new_setCells {a w : World} {b : Nat} (h : New a w) (hb : a.heap.size ≤ b) : ∀ (vs : List Value) (o : Nat), New a (w.setCells b o vs)
  | [], o => h
  | v :: vs, o => by
    rw [World.setCells]
    exact new_setCells (New.setCell h (p := ⟨b, o, none⟩) hb v) hb vs (o + 1)

/-- The store: the world behind it under a name. -/
theorem wpList_store_row {P : Program} {ops : Array Oper} {rest : List Oper} {op : Oper} {a : Act} {w : World} {Q : Exit → Act → World → Prop} (hgd : op.guard = none) (ty : TypeId) (x y : Operand) (ho : op.op = .store ty x y)
    (b : Nat) (cells : Array Value) (hx : a.eval x = .pointer (some ⟨b, 0, none⟩)) (hy : a.eval y = .agg cells)
    (ht : Thr w b cells.size) (hi : (P.info? ty).map (·.size) = some cells.size) (h1 : ∀ v ∈ cells.toList, v.oneCell' = true)
    (h : ∀ W, (∀ a0, New a0 w → a0.heap.size ≤ b → New a0 W) → (∀ b' o v, b' ≠ b → w.cell? ⟨b', o, none⟩ = some v → W.cell? ⟨b', o, none⟩ = some v) → CellsAt W b 0 cells.toList → wpList P ops Q rest (a.put op.dst undef) W) : wpList P ops Q (op :: rest) a w := by
  have ht' : w.there b 0 cells.size := fun j hj => by
    obtain ⟨⟨v, hv⟩, hf⟩ := ht j hj
    rw [Nat.zero_add]
    exact ⟨by rw [hv]; rfl, hf⟩
  refine wpList_store_mid hgd ty x y ho b 0 cells hx hy ht' hi (all_oneCell_toArray h1) (h _ (fun a0 h0 hb => new_setCells h0 hb _ _) (fun b' o v hne hv => by rw [World.cell?_setCells_out b _ 0 w ⟨b', o, none⟩ (fun e => absurd e hne)]; exact hv) ?_)
  intro j hj
  have := World.rangeAt_setCells_same w b 0 cells.toList (by simpa using ht')
  exact this j _ (List.getElem?_eq_getElem hj)

/-- A slice that does not lie in the block that was stored to. -/
theorem sl_but {α : Type} {enc : α → List Value} {k : Nat} {w W : World} {b : Nat} {v : Value} {l : List α} (h : Sl enc k w v l) (hb : ∀ j, v.ownBlock = some j → j ≠ b) (hk : ∀ b' o u, b' ≠ b → w.cell? ⟨b', o, none⟩ = some u → W.cell? ⟨b', o, none⟩ = some u) : Sl enc k W v l := by
  obtain ⟨a, c, rfl, h1, h2, h3, h4⟩ := h
  refine ⟨a, c, rfl, h1, h2, h3, fun h0 => ?_⟩
  obtain ⟨B, off, rfl, hA⟩ := h4 h0
  exact ⟨B, off, rfl, fun j hj i hi => hk _ _ _ (hb B rfl) (hA j hj i hi)⟩

/-- A soup's lists lie in blocks of this number or later. -/
structure SoupV.own (S : SoupV) (n : Nat) : Prop where
  t : ∀ j, (Value.slice S.a0 S.ts.length S.c0).ownBlock = some j → n ≤ j
  b : ∀ j, (Value.slice S.a1 S.bs.length S.c1).ownBlock = some j → n ≤ j
  h : ∀ j, (Value.slice S.a2 S.hs.length S.c2).ownBlock = some j → n ≤ j
/-- A new soup of these lists is answered. -/
def SoupIs (T : List TriR) (B : List BoxR) (H : List HopR) (w : World) (e : Ending) (w' : World) : Prop := ∃ S : SoupV, e = .returned (.agg #[.slice S.a0 S.ts.length S.c0, .slice S.a1 S.bs.length S.c1, .slice S.a2 S.hs.length S.c2]) ∧ S.ok w' ∧ S.ts = T ∧ S.bs = B ∧ S.hs = H ∧ S.own w.heap.size ∧ New w w'
/-- .. and an error's number. -/
def SoupE (T : List TriR) (B : List BoxR) (H : List HopR) (er : Int) (w : World) (e : Ending) (w' : World) : Prop := ∃ S : SoupV, e = .returned (.tuple #[.agg #[.slice S.a0 S.ts.length S.c0, .slice S.a1 S.bs.length S.c1, .slice S.a2 S.hs.length S.c2], .int .i64 er]) ∧ S.ok w' ∧ S.ts = T ∧ S.bs = B ∧ S.hs = H ∧ S.own w.heap.size ∧ New w w'
theorem SoupV.ok_but {S : SoupV} {w W : World} {b n : Nat} (h : S.ok w) (ho : S.own n) (hb : b < n) (hk : ∀ b' o u, b' ≠ b → w.cell? ⟨b', o, none⟩ = some u → W.cell? ⟨b', o, none⟩ = some u) : S.ok W :=
  ⟨sl_but h.t (fun j hj => by have := ho.t j hj; omega) hk, sl_but h.b (fun j hj => by have := ho.b j hj; omega) hk, sl_but h.h (fun j hj => by have := ho.h j hj; omega) hk⟩
theorem SoupV.own.mono {S : SoupV} {n m : Nat} (h : S.own n) (hm : m ≤ n) : S.own m := ⟨fun j hj => Nat.le_trans hm (h.t j hj), fun j hj => Nat.le_trans hm (h.b j hj), fun j hj => Nat.le_trans hm (h.h j hj)⟩
def SoupV.none : SoupV := ⟨[], [], [], Option.none, Option.none, Option.none, 0, 0, 0⟩
theorem SoupV.none_ok (w : World) : SoupV.none.ok w := ⟨Sl.nil, Sl.nil, Sl.nil⟩
theorem SoupV.none_own (n : Nat) : SoupV.none.own n := ⟨fun j h => (by cases h), fun j h => (by cases h), fun j h => (by cases h)⟩

end Go.Proofs.YtklopjbpfddgfaaGreat

/- Plain facts about whole numbers, no program in sight: division towards nought against division downwards. -/
namespace Go.Proofs.YtklopjbpfddgfaaGreat
open Go.RowKit

theorem wrap64_in {n : Int} (h : -9223372036854775808 ≤ n ∧ n ≤ 9223372036854775807) : wrap64 n = n := by
  unfold wrap64; omega

theorem tdiv_bd (a b : Int) (ha : -2305843009213693952 ≤ a ∧ a ≤ 2305843009213693952) :
    -2305843009213693952 ≤ a.tdiv b ∧ a.tdiv b ≤ 2305843009213693952 := by
  have := Int.natAbs_tdiv_le_natAbs a b
  omega

theorem fdiv_exact {a b : Int} (h : a.tmod b = 0) : a.fdiv b = a.tdiv b := by
  rw [Int.fdiv_eq_tdiv, if_pos (Int.dvd_of_tmod_eq_zero h)]; omega

theorem fdiv_down {a b : Int} (hb : b ≠ 0) (h : ¬ a.tmod b = 0) (hs : (!decide (a < 0) == decide (b < 0)) = true) :
    a.fdiv b = a.tdiv b - 1 := by
  rw [Int.fdiv_eq_tdiv, if_neg (fun h' => h (Int.dvd_iff_tmod_eq_zero.mp h'))]
  rcases Int.lt_trichotomy b 0 with hb' | hb' | hb'
  · rw [Int.sign_eq_neg_one_of_neg hb']
    have : 0 ≤ a := by simp at hs; omega
    simp [this]; omega
  · exact absurd hb' hb
  · rw [Int.sign_eq_one_of_pos hb']
    have : ¬ 0 ≤ a := by simp at hs; omega
    have hb2 : 0 ≤ b := by omega
    simp [this, hb2]

theorem fdiv_same {a b : Int} (hb : b ≠ 0) (hs : (!decide (a < 0) == decide (b < 0)) = false) :
    a.fdiv b = a.tdiv b := by
  by_cases h : a.tmod b = 0
  · exact fdiv_exact h
  rw [Int.fdiv_eq_tdiv, if_neg (fun h' => h (Int.dvd_iff_tmod_eq_zero.mp h'))]
  rcases Int.lt_trichotomy b 0 with hb' | hb' | hb'
  · rw [Int.sign_eq_neg_one_of_neg hb']
    have h1 : ¬ 0 ≤ a := by simp at hs; omega
    have h2 : ¬ 0 ≤ b := by omega
    simp [h1, h2]
  · exact absurd hb' hb
  · rw [Int.sign_eq_one_of_pos hb']
    have h1 : 0 ≤ a := by simp at hs; omega
    have hb2 : 0 ≤ b := by omega
    simp [h1, hb2]

theorem tdiv_exact_iff {a b : Int} : a.tdiv b * b = a ↔ a.tmod b = 0 := by
  have := Int.tmod_add_mul_tdiv a b
  rw [Int.mul_comm] at this
  constructor <;> intro h <;> omega

theorem tdiv_mul_bd (a b : Int) (ha : -2305843009213693952 ≤ a ∧ a ≤ 2305843009213693952) :
    -2305843009213693952 ≤ a.tdiv b * b ∧ a.tdiv b * b ≤ 2305843009213693952 := by
  have h1 : (a.tdiv b * b).natAbs ≤ a.natAbs := by
    rw [Int.natAbs_mul, Int.natAbs_tdiv]
    exact Nat.div_mul_le_self _ _
  omega

theorem fdiv_bd (a b : Int) (hb : b ≠ 0) (ha : -2305843009213693952 ≤ a ∧ a ≤ 2305843009213693952) :
    -2305843009213693953 ≤ a.fdiv b ∧ a.fdiv b ≤ 2305843009213693952 := by
  have ht := tdiv_bd a b ha
  by_cases h : a.tmod b = 0
  · rw [fdiv_exact h]; omega
  · by_cases hs : (!decide (a < 0) == decide (b < 0)) = true
    · rw [fdiv_down hb h hs]; omega
    · rw [fdiv_same hb (by simpa using hs)]; omega

theorem mul_fdiv_bd (a b : Int) (hb : 1 ≤ b) (h2 : b ≤ 2305843009213693952) (ha : -2305843009213693952 ≤ a ∧ a ≤ 2305843009213693952) :
    -4611686018427387904 ≤ b * a.fdiv b ∧ b * a.fdiv b ≤ 2305843009213693952 := by
  have h := Int.mul_fdiv_add_fmod a b
  have h0 := Int.fmod_nonneg_of_pos a (b := b) (by omega)
  have h1 := Int.fmod_lt_of_pos a (b := b) (by omega)
  omega

theorem fmod_of_tmod (a b : Int) (hb : 1 ≤ b) : a.fmod b = if a.tmod b < 0 then a.tmod b + b else a.tmod b := by
  have h := Int.mul_fdiv_add_fmod a b
  have h0 := Int.fmod_nonneg_of_pos a (b := b) (by omega)
  have h1 := Int.fmod_lt_of_pos a (b := b) (by omega)
  have k := Int.tmod_add_mul_tdiv a b
  by_cases hm : a.tmod b = 0
  · rw [if_neg (by omega)]
    rw [fdiv_exact hm] at h
    omega
  · by_cases hs : (!decide (a < 0) == decide (b < 0)) = true
    · rw [fdiv_down (by omega) hm hs, Int.mul_sub] at h
      rw [if_pos (by omega)]
      omega
    · rw [fdiv_same (by omega) (by simpa using hs)] at h
      rw [if_neg (by omega)]
      omega

end Go.Proofs.YtklopjbpfddgfaaGreat

/- Contracts of the small functions of package whole: into, within, tame, and the document's In. -/
namespace Go.Proofs.YtklopjbpfddgfaaGreat
open Go.RowKit

def clampI (n lo hi : Int) : Int := max lo (min n hi)

theorem retI {k : IntKind} {a b : Int} (h : a = b) : Ending.returned (.int k a) = .returned (.int k b) := by rw [h]
theorem retB {a b : Bool} (h : a = b) : Ending.returned (.bool a) = .returned (.bool b) := by rw [h]

set_option maxHeartbeats 400000 in
theorem into_any (n lo hi : Int) (w : World) :
    Calls Tryz.prog 76 #[.int .i64 n, .int .i64 lo, .int .i64 hi] w fun e w' => e = .returned (.int .i64 (clampI n lo hi)) ∧ w = w' := by
  go_enter Tryz.func76, Tryz.ntmps76
  go_wp2
  all_goals
    go_ret
    refine ⟨retI ?_, rfl⟩
    unfold clampI
    first | omega | (simp_all; omega)

def withinB (n lo hi : Int) : Bool := clampI n lo hi == n

set_option maxHeartbeats 400000 in
theorem within_any (n lo hi : Int) (w : World) :
    Calls Tryz.prog 52 #[.int .i64 n, .int .i64 lo, .int .i64 hi] w fun e w' => e = .returned (.bool (withinB n lo hi)) ∧ w = w' := by
  go_enter Tryz.func52, Tryz.ntmps52
  go_wp2_with (go_at_call 76; refine (into_any _ _ _ _).mono ?_; rintro e w' ⟨rfl, rfl⟩)
  go_ret
  exact ⟨rfl, rfl⟩

def tameI (n : Int) : Int := clampI n (-2305843009213693952) 2305843009213693952

set_option maxHeartbeats 400000 in
theorem tame_any (n : Int) (w : World) :
    Calls Tryz.prog 133 #[.int .i64 n] w fun e w' => e = .returned (.int .i64 (tameI n)) ∧ w = w' := by
  go_enter Tryz.func133, Tryz.ntmps133
  go_wp2_with (go_at_call 76; refine (into_any _ _ _ _).mono ?_; rintro e w' ⟨rfl, rfl⟩)
  go_ret
  exact ⟨rfl, rfl⟩

set_option maxHeartbeats 400000 in
theorem in_any (n lo hi : Int) (w : World) :
    Calls Tryz.prog 97 #[.int .i64 n, .int .i64 lo, .int .i64 hi] w fun e w' => e = .returned (.int .i64 (min (max n lo) hi)) ∧ w = w' := by
  go_enter Tryz.func97, Tryz.ntmps97
  go_wp2
  all_goals
    go_ret
    refine ⟨retI ?_, rfl⟩
    first | omega | (simp_all; omega)

theorem in_tame (n : Int) : min (max n (-2305843009213693952)) 2305843009213693952 = tameI n := by
  unfold tameI clampI; omega

theorem tame_bd (n : Int) : -2305843009213693952 ≤ tameI n ∧ tameI n ≤ 2305843009213693952 := by
  unfold tameI clampI; omega

end Go.Proofs.YtklopjbpfddgfaaGreat

/- Contracts of Floor, Ceil, Mod, Sign of package whole and of the document's own. -/
namespace Go.Proofs.YtklopjbpfddgfaaGreat
open Go.RowKit

def floorI (a b : Int) : Int := if tameI b = 0 then 0 else Int.fdiv (tameI a) (tameI b)
def errI (b : Bool) : Int := if b then 0 else 2

theorem retT {a b c d : Int} (h : a = b) (h' : c = d) : Ending.returned (.tuple #[.int .i64 a, .int .i64 c]) = .returned (.tuple #[.int .i64 b, .int .i64 d]) := by rw [h, h']

theorem floorI_zero {a b : Int} (h : (tameI b == 0) = true) : floorI a b = 0 := by unfold floorI; simp_all
theorem errI_zero {b : Int} (h : (tameI b == 0) = true) : errI (tameI b != 0) = 2 := by unfold errI; simp_all
theorem floorI_ok {a b : Int} (h : (tameI b == 0) = false) : floorI a b = Int.fdiv (tameI a) (tameI b) := by unfold floorI; simp_all
theorem errI_ok {b : Int} (h : (tameI b == 0) = false) : errI (tameI b != 0) = 0 := by unfold errI; simp_all

set_option maxHeartbeats 400000 in
theorem floor_any (a b : Int) (w : World) :
    Calls Tryz.prog 109 #[.int .i64 a, .int .i64 b] w fun e w' => e = .returned (.tuple #[.int .i64 (floorI a b), .int .i64 (errI (tameI b != 0))]) ∧ w = w' := by
  have ha := tame_bd a
  have hb' := tame_bd b
  have ht := tdiv_bd (tameI a) (tameI b) ha
  have hw : wrap64 ((tameI a).tdiv (tameI b)) = (tameI a).tdiv (tameI b) := wrap64_in (by omega)
  by_cases hz : (tameI b == 0) = true
  · rw [floorI_zero hz, errI_zero hz]
    go_enter Tryz.func109, Tryz.ntmps109
    go_wp2_with (go_at_call 133; refine (tame_any _ _).mono ?_; rintro e w' ⟨rfl, rfl⟩)
    go_ret2
    exact ⟨rfl, rfl⟩
  · replace hz : (tameI b == 0) = false := by simpa using hz
    have hb : tameI b ≠ 0 := by simpa using hz
    rw [floorI_ok hz, errI_ok hz]
    by_cases hm : (tameI a).tmod (tameI b) = 0
    · rw [fdiv_exact hm]
      go_enter Tryz.func109, Tryz.ntmps109
      go_wp2_with (go_at_call 133; refine (tame_any _ _).mono ?_; rintro e w' ⟨rfl, rfl⟩)
      go_ret2
      exact ⟨rfl, rfl⟩
    · have hm' : ((tameI a).tmod (tameI b) != 0) = true := by simpa using hm
      by_cases hs : (!decide (tameI a < 0) == decide (tameI b < 0)) = true
      · rw [fdiv_down hb hm hs]
        go_enter Tryz.func109, Tryz.ntmps109
        go_wp2_with (go_at_call 133; refine (tame_any _ _).mono ?_; rintro e w' ⟨rfl, rfl⟩)
        go_ret2
        exact ⟨rfl, rfl⟩
      · replace hs : (!decide (tameI a < 0) == decide (tameI b < 0)) = false := by simpa using hs
        rw [fdiv_same hb hs]
        go_enter Tryz.func109, Tryz.ntmps109
        go_wp2_with (go_at_call 133; refine (tame_any _ _).mono ?_; rintro e w' ⟨rfl, rfl⟩)
        go_ret2
        exact ⟨rfl, rfl⟩

set_option maxHeartbeats 400000 in
theorem rfloor_any (a b : Int) (w : World) :
    Calls Tryz.prog 72 #[.int .i64 a, .int .i64 b] w fun e w' => e = .returned (.tuple #[.int .i64 (floorI a b), .int .i64 (errI (tameI b != 0))]) ∧ w = w' := by
  have ha := tame_bd a
  have hb' := tame_bd b
  have ht := tdiv_bd (tameI a) (tameI b) ha
  have hw : wrap64 ((tameI a).tdiv (tameI b)) = (tameI a).tdiv (tameI b) := wrap64_in (by omega)
  have hx := tdiv_mul_bd (tameI a) (tameI b) ha
  have hw2 : wrap64 ((tameI a).tdiv (tameI b) * tameI b) = (tameI a).tdiv (tameI b) * tameI b := wrap64_in (by omega)
  clear hx
  by_cases hz : (tameI b == 0) = true
  · rw [floorI_zero hz, errI_zero hz]
    go_enter Tryz.func72, Tryz.ntmps72
    go_wp2_with (go_at_call 97; refine (in_any _ _ _ _).mono ?_; rw [in_tame]; rintro e w' ⟨rfl, rfl⟩)
    go_ret2
    exact ⟨rfl, rfl⟩
  · replace hz : (tameI b == 0) = false := by simpa using hz
    have hb : tameI b ≠ 0 := by simpa using hz
    rw [floorI_ok hz, errI_ok hz]
    by_cases hm : (tameI a).tmod (tameI b) = 0
    · rw [fdiv_exact hm]
      have hm' : ((tameI a).tdiv (tameI b) * tameI b != tameI a) = false := by simpa using tdiv_exact_iff.mpr hm
      clear hm
      go_enter Tryz.func72, Tryz.ntmps72
      go_wp2_with (go_at_call 97; refine (in_any _ _ _ _).mono ?_; rw [in_tame]; rintro e w' ⟨rfl, rfl⟩)
      go_ret2
      exact ⟨rfl, rfl⟩
    · have hm' : ((tameI a).tdiv (tameI b) * tameI b != tameI a) = true := by simpa using fun h => hm (tdiv_exact_iff.mp h)
      by_cases hs : (!decide (tameI a < 0) == decide (tameI b < 0)) = true
      · rw [fdiv_down hb hm hs]
        clear hm
        go_enter Tryz.func72, Tryz.ntmps72
        go_wp2_with (go_at_call 97; refine (in_any _ _ _ _).mono ?_; rw [in_tame]; rintro e w' ⟨rfl, rfl⟩)
        go_ret2
        exact ⟨rfl, rfl⟩
      · replace hs : (!decide (tameI a < 0) == decide (tameI b < 0)) = false := by simpa using hs
        rw [fdiv_same hb hs]
        clear hm
        go_enter Tryz.func72, Tryz.ntmps72
        go_wp2_with (go_at_call 97; refine (in_any _ _ _ _).mono ?_; rw [in_tame]; rintro e w' ⟨rfl, rfl⟩)
        go_ret2
        exact ⟨rfl, rfl⟩

end Go.Proofs.YtklopjbpfddgfaaGreat
