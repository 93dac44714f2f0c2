import Derived.Test.YtccikeagbillgaaGreatWholeMZ3
import Derived.Test.YtccikeagbillgaaGreatSteadyZ3
import Derived.Deep.MidRow
import Derived.OwnWalk
import Derived.OneCell
import Derived.Lib.AppendZerosOnto
import Derived.Test.YtccikeagbillgaaGreatRows
import Derived.WalkKit
import Derived.WalkSpells
import Derived.WalkLawsBesides
import Derived.IntWalk

/- A struct stored whole into a block of the call's own. No function of the program in sight. -/
namespace Go.Proofs.YtccikeagbillgaaGreat
open Go.RowKit
set_option linter.unusedVariables false

/-- n cells are there at a block's head, and may be written. -/
def Thr (w : World) (b n : Nat) : Prop := ∀ j, j < n → (∃ v, w.cell? ⟨b, j, none⟩ = some v) ∧ w.frozen? ⟨b, j, none⟩ = false
theorem Thr.keep {w w' : World} {b n : Nat} (h : Thr w b n) (hn : New w w') : Thr w' b n := fun j hj => by
  obtain ⟨⟨v, hv⟩, hf⟩ := h j hj
  exact ⟨⟨v, hn.keep hv⟩, hn.keepF hv hf⟩
theorem Thr.lt {w : World} {b n : Nat} (h : Thr w b n) (h0 : 0 < n) : b < w.heap.size := by
  obtain ⟨⟨v, hv⟩, _⟩ := h 0 h0
  exact World.block_lt_of_cell? _ _ hv
theorem Thr.new (w : World) (cs : Array Value) (T : TypeId) (b : Nat) (hb : w.heap.size = b) : Thr (w.alloc (.cells cs T)) b cs.size := fun j hj => by
  subst hb
  have h1 : (w.alloc (.cells cs T)).heap[w.heap.size]? = some (.cells cs T) := heap_new _ _
  exact ⟨⟨cs[j], cell_of_heap h1 (by simp [hj])⟩, frozen_of_heap h1⟩

theorem new_setCells {a w : World} {b : Nat} (h : New a w) (hb : a.heap.size ≤ b) : ∀ (vs : List Value) (o : Nat), New a (w.setCells b o vs)
  | [], o => h
  | v :: vs, o => by
    rw [World.setCells]
    exact new_setCells (New.setCell h (p := ⟨b, o, none⟩) hb v) hb vs (o + 1)

/-- The store: the world behind it under a name. -/
theorem wpList_store_row {P : Program} {ops : Array Oper} {rest : List Oper} {op : Oper} {a : Act} {w : World} {Q : Exit → Act → World → Prop} (hgd : op.guard = none) (ty : TypeId) (x y : Operand) (ho : op.op = .store ty x y)
    (b : Nat) (cells : Array Value) (hx : a.eval x = .pointer (some ⟨b, 0, none⟩)) (hy : a.eval y = .agg cells)
    (ht : Thr w b cells.size) (hi : (P.info? ty).map (·.size) = some cells.size) (h1 : ∀ v ∈ cells.toList, v.oneCell' = true)
    (h : ∀ W, (∀ a0, New a0 w → a0.heap.size ≤ b → New a0 W) → (∀ b' o v, b' ≠ b → w.cell? ⟨b', o, none⟩ = some v → W.cell? ⟨b', o, none⟩ = some v) → CellsAt W b 0 cells.toList → wpList P ops Q rest (a.put op.dst undef) W) : wpList P ops Q (op :: rest) a w := by
  have ht' : w.there b 0 cells.size := fun j hj => by
    obtain ⟨⟨v, hv⟩, hf⟩ := ht j hj
    rw [Nat.zero_add]
    exact ⟨by rw [hv]; rfl, hf⟩
  refine wpList_store_mid hgd ty x y ho b 0 cells hx hy ht' hi (all_oneCell_toArray h1) (h _ (fun a0 h0 hb => new_setCells h0 hb _ _) (fun b' o v hne hv => by rw [World.cell?_setCells_out b _ 0 w ⟨b', o, none⟩ (fun e => absurd e hne)]; exact hv) ?_)
  intro j hj
  have := World.rangeAt_setCells_same w b 0 cells.toList (by simpa using ht')
  exact this j _ (List.getElem?_eq_getElem hj)

/-- A slice that does not lie in the block that was stored to. -/
theorem sl_but {α : Type} {enc : α → List Value} {k : Nat} {w W : World} {b : Nat} {v : Value} {l : List α} (h : Sl enc k w v l) (hb : ∀ j, v.ownBlock = some j → j ≠ b) (hk : ∀ b' o u, b' ≠ b → w.cell? ⟨b', o, none⟩ = some u → W.cell? ⟨b', o, none⟩ = some u) : Sl enc k W v l := by
  obtain ⟨a, c, rfl, h1, h2, h3, h4⟩ := h
  refine ⟨a, c, rfl, h1, h2, h3, fun h0 => ?_⟩
  obtain ⟨B, off, rfl, hA⟩ := h4 h0
  exact ⟨B, off, rfl, fun j hj i hi => hk _ _ _ (hb B rfl) (hA j hj i hi)⟩

/-- A soup's lists lie in blocks of this number or later. -/
structure SoupV.own (S : SoupV) (n : Nat) : Prop where
  t : ∀ j, (Value.slice S.a0 S.ts.length S.c0).ownBlock = some j → n ≤ j
  b : ∀ j, (Value.slice S.a1 S.bs.length S.c1).ownBlock = some j → n ≤ j
  h : ∀ j, (Value.slice S.a2 S.hs.length S.c2).ownBlock = some j → n ≤ j
/-- A new soup of these lists is answered. -/
def SoupIs (T : List TriR) (B : List BoxR) (H : List HopR) (w : World) (e : Ending) (w' : World) : Prop := ∃ S : SoupV, e = .returned (.agg #[.slice S.a0 S.ts.length S.c0, .slice S.a1 S.bs.length S.c1, .slice S.a2 S.hs.length S.c2]) ∧ S.ok w' ∧ S.ts = T ∧ S.bs = B ∧ S.hs = H ∧ S.own w.heap.size ∧ New w w'
/-- .. and an error's number. -/
def SoupE (T : List TriR) (B : List BoxR) (H : List HopR) (er : Int) (w : World) (e : Ending) (w' : World) : Prop := ∃ S : SoupV, e = .returned (.tuple #[.agg #[.slice S.a0 S.ts.length S.c0, .slice S.a1 S.bs.length S.c1, .slice S.a2 S.hs.length S.c2], .int .i64 er]) ∧ S.ok w' ∧ S.ts = T ∧ S.bs = B ∧ S.hs = H ∧ S.own w.heap.size ∧ New w w'
theorem SoupV.ok_but {S : SoupV} {w W : World} {b n : Nat} (h : S.ok w) (ho : S.own n) (hb : b < n) (hk : ∀ b' o u, b' ≠ b → w.cell? ⟨b', o, none⟩ = some u → W.cell? ⟨b', o, none⟩ = some u) : S.ok W :=
  ⟨sl_but h.t (fun j hj => by have := ho.t j hj; omega) hk, sl_but h.b (fun j hj => by have := ho.b j hj; omega) hk, sl_but h.h (fun j hj => by have := ho.h j hj; omega) hk⟩
theorem SoupV.own.mono {S : SoupV} {n m : Nat} (h : S.own n) (hm : m ≤ n) : S.own m := ⟨fun j hj => Nat.le_trans hm (h.t j hj), fun j hj => Nat.le_trans hm (h.b j hj), fun j hj => Nat.le_trans hm (h.h j hj)⟩
def SoupV.none : SoupV := ⟨[], [], [], Option.none, Option.none, Option.none, 0, 0, 0⟩
theorem SoupV.none_ok (w : World) : SoupV.none.ok w := ⟨Sl.nil, Sl.nil, Sl.nil⟩
theorem SoupV.none_own (n : Nat) : SoupV.none.own n := ⟨fun j h => (by cases h), fun j h => (by cases h), fun j h => (by cases h)⟩

end Go.Proofs.YtccikeagbillgaaGreat

/- Rows of structs that a call makes for itself. No function of the program in sight. -/
namespace Go.Proofs.YtccikeagbillgaaGreat
open Go.RowKit
set_option linter.unusedVariables false

theorem newGrown {a w w' : World} {row : Option Nat} (h : New a w) (hg : w.grownBy w' row) (hr : ∀ k, row = some k → a.heap.size ≤ k) : New a w' := Below.grown h hg h.size hr
theorem own_new {w w' : World} {base size : Nat} {e : TypeId} {v : Value} {n : Nat} {xs : List Value} (h : w.ownsRow base e size v n xs) (hn : New w w') : w'.ownsRow base e size v n xs := by
  obtain ⟨h1, h2⟩ := h
  refine ⟨h1, h2.imp id ?_⟩
  rintro ⟨g, cap, cur, rfl, hb, hg, r⟩
  exact ⟨g, cap, cur, rfl, hb, new_block' hn hg, r⟩
where
  new_block' {a w : World} (h : New a w) {b : Nat} {o : Obj} (hb : a.heap[b]? = some o) : w.heap[b]? = some o := by
    rw [h.block b (by rcases Nat.lt_or_ge b a.heap.size with q | q; exact q; rw [Array.getElem?_eq_none q] at hb; cases hb)]; exact hb
theorem own_block {w : World} {base size : Nat} {e : TypeId} {v : Value} {n : Nat} {xs : List Value} (h : w.ownsRow base e size v n xs) : ∀ k, v.ownBlock = some k → base ≤ k := by
  rintro k hk
  rcases h.2 with ⟨rfl, _⟩ | ⟨g, cap, cur, rfl, hb, _⟩
  · cases hk
  · have e1 : g = k := by simpa [Value.ownBlock] using hk
    omega

section
variable {α : Type}
theorem flatMap_len {enc : α → List Value} {k : Nat} (hk : ∀ a, (enc a).length = k) : ∀ l : List α, (l.flatMap enc).length = l.length * k
  | [] => by simp
  | a :: l => by rw [List.flatMap_cons, List.length_append, flatMap_len hk l, hk, List.length_cons, Nat.add_mul]; omega
theorem flatMap_get {enc : α → List Value} {k : Nat} (hk : ∀ a, (enc a).length = k) : ∀ (l : List α) (j : Nat) (h : j < l.length) (i : Nat), i < k → (l.flatMap enc)[j * k + i]? = (enc l[j])[i]?
  | a :: l, 0, _, i, hi => by
    rw [List.flatMap_cons, Nat.zero_mul, Nat.zero_add, List.getElem?_append_left (by rw [hk]; exact hi)]
    rfl
  | a :: l, j + 1, h, i, hi => by
    rw [List.flatMap_cons, List.getElem?_append_right (by rw [hk, Nat.add_mul]; omega), hk, show (j + 1) * k + i - k = j * k + i by rw [Nat.add_mul]; omega]
    exact flatMap_get hk l j (by simpa using h) i hi

theorem own_sl {enc : α → List Value} {k : Nat} (hk : ∀ a, (enc a).length = k) {w : World} {base : Nat} {e : TypeId} {v : Value} {l : List α} (h : w.ownsRow base e k v l.length (l.flatMap enc)) : Sl enc k w v l := by
  rcases h.2 with ⟨rfl, h0⟩ | ⟨g, cap, cur, rfl, hb, hg, hc, hm, _⟩
  · obtain rfl := List.eq_nil_of_length_eq_zero h0
    exact Sl.nil
  · refine ⟨some ⟨g, 0, none⟩, cap, rfl, hc, hm, fun h => (by cases h), fun _ => ⟨g, 0, rfl, fun j hj i hi => ?_⟩⟩
    have hik : i < k := by rw [← hk l[j]]; exact hi
    have hlt : j * k + i < l.length * k := by
      have := Nat.mul_le_mul_right k (show j + 1 ≤ l.length from hj)
      rw [Nat.add_mul] at this
      omega
    have a := World.ownsRow.cellAt h (j * k + i) (by omega)
    rw [flatMap_get hk l j hj i hik] at a
    rw [Nat.zero_add, a, List.getElem?_eq_getElem hi]

/-- The slices that are laid end to end. -/
structure Part (α : Type) where
  a : Option Addr
  l : List α
  c : Nat
def PartsAt (enc : α → List Value) (k : Nat) (w : World) (b : Nat) (ps : List (Part α)) : Prop := ∀ j (h : j < ps.length), w.cell? ⟨b, j, none⟩ = some (.slice ps[j].a ps[j].l.length ps[j].c) ∧ Sl enc k w (.slice ps[j].a ps[j].l.length ps[j].c) ps[j].l
theorem PartsAt.keep {enc : α → List Value} {k : Nat} {w w' : World} {b : Nat} {ps : List (Part α)} (h : PartsAt enc k w b ps) (hn : New w w') : PartsAt enc k w' b ps := fun j hj => ⟨hn.keep (h j hj).1, (h j hj).2.keep hn⟩
def cat (ps : List (Part α)) (i : Nat) : List α := (ps.take i).flatMap (·.l)
theorem cat_succ (ps : List (Part α)) (i : Nat) (h : i < ps.length) : cat ps (i + 1) = cat ps i ++ ps[i].l := by
  unfold cat
  rw [List.take_succ_eq_append_getElem h, List.flatMap_append]
  simp
theorem cat_all (ps : List (Part α)) : cat ps ps.length = ps.flatMap (·.l) := by unfold cat; rw [List.take_length]
theorem cat_le (ps : List (Part α)) : ∀ i, (cat ps i).length ≤ (ps.flatMap (·.l)).length := fun i => by
  unfold cat
  conv => rhs; rw [← List.take_append_drop i ps, List.flatMap_append, List.length_append]
  omega
theorem sl_news {enc : α → List Value} {k : Nat} (hk : ∀ a, (enc a).length = k) {w : World} {ad : Addr} {c : Nat} {l : List α} (h : Sl enc k w (.slice (some ad) l.length c) l) : ∀ j u, (l.flatMap enc)[j]? = some u → w.cell? (ad.add j) = some u := by
  intro j u hu
  have hj : j < l.length * k := by
    have := (List.getElem?_eq_some_iff.1 hu).1
    rwa [flatMap_len hk] at this
  have h0 : 0 < l.length := by
    rcases Nat.eq_zero_or_pos l.length with q | q
    · rw [q, Nat.zero_mul] at hj; omega
    · exact q
  obtain ⟨b, off, e, hA⟩ := h.row.2.2.2.2 h0
  injection e with e
  subst e
  have hk0 : 0 < k := by
    rcases Nat.eq_zero_or_pos k with q | q
    · rw [q, Nat.mul_zero] at hj; omega
    · exact q
  have hq : j / k < l.length := Nat.div_lt_of_lt_mul (by rw [Nat.mul_comm]; exact hj)
  have hr : j % k < k := Nat.mod_lt _ hk0
  have e1 : j = j / k * k + j % k := by rw [Nat.mul_comm]; exact (Nat.div_add_mod j k).symm
  have h1 := flatMap_get hk l (j / k) hq (j % k) hr
  rw [← e1, hu] at h1
  have h2 := hA (j / k) hq (j % k) (by rw [hk]; exact hr)
  rw [Addr.add_lit, show off + j = off + j / k * k + j % k by omega, h2, h1, List.getElem?_eq_getElem]
end
end Go.Proofs.YtccikeagbillgaaGreat

/- Contracts of the small functions of package whole: into, within, tame, and the document's In. -/
namespace Go.Proofs.YtccikeagbillgaaGreat
open Go.RowKit

def clampI (n lo hi : Int) : Int := max lo (min n hi)

theorem retI {k : IntKind} {a b : Int} (h : a = b) : Ending.returned (.int k a) = .returned (.int k b) := by rw [h]
theorem retB {a b : Bool} (h : a = b) : Ending.returned (.bool a) = .returned (.bool b) := by rw [h]

set_option maxHeartbeats 400000 in
theorem into_any (n lo hi : Int) (w : World) :
    Calls Tryz.prog 73 #[.int .i64 n, .int .i64 lo, .int .i64 hi] w fun e w' => e = .returned (.int .i64 (clampI n lo hi)) ∧ w = w' := by
  go_enter Tryz.func73, Tryz.ntmps73
  go_wp2
  all_goals
    go_ret
    refine ⟨retI ?_, rfl⟩
    unfold clampI
    first | omega | (simp_all; omega)

def withinB (n lo hi : Int) : Bool := clampI n lo hi == n

set_option maxHeartbeats 400000 in
theorem within_any (n lo hi : Int) (w : World) :
    Calls Tryz.prog 51 #[.int .i64 n, .int .i64 lo, .int .i64 hi] w fun e w' => e = .returned (.bool (withinB n lo hi)) ∧ w = w' := by
  go_enter Tryz.func51, Tryz.ntmps51
  go_wp2_with (go_at_call 73; refine (into_any _ _ _ _).mono ?_; rintro e w' ⟨rfl, rfl⟩)
  go_ret
  exact ⟨rfl, rfl⟩

def tameI (n : Int) : Int := clampI n (-2305843009213693952) 2305843009213693952

set_option maxHeartbeats 400000 in
theorem tame_any (n : Int) (w : World) :
    Calls Tryz.prog 117 #[.int .i64 n] w fun e w' => e = .returned (.int .i64 (tameI n)) ∧ w = w' := by
  go_enter Tryz.func117, Tryz.ntmps117
  go_wp2_with (go_at_call 73; refine (into_any _ _ _ _).mono ?_; rintro e w' ⟨rfl, rfl⟩)
  go_ret
  exact ⟨rfl, rfl⟩

set_option maxHeartbeats 400000 in
theorem in_any (n lo hi : Int) (w : World) :
    Calls Tryz.prog 50 #[.int .i64 n, .int .i64 lo, .int .i64 hi] w fun e w' => e = .returned (.int .i64 (min (max n lo) hi)) ∧ w = w' := by
  go_enter Tryz.func50, Tryz.ntmps50
  go_wp2
  all_goals
    go_ret
    refine ⟨retI ?_, rfl⟩
    first | omega | (simp_all; omega)

theorem in_tame (n : Int) : min (max n (-2305843009213693952)) 2305843009213693952 = tameI n := by
  unfold tameI clampI; omega

theorem tame_bd (n : Int) : -2305843009213693952 ≤ tameI n ∧ tameI n ≤ 2305843009213693952 := by
  unfold tameI clampI; omega

end Go.Proofs.YtccikeagbillgaaGreat

/- Contracts of Floor, Ceil, Mod, Sign of package whole and of the document's own. -/
namespace Go.Proofs.YtccikeagbillgaaGreat
open Go.RowKit

def floorI (a b : Int) : Int := if tameI b = 0 then 0 else Int.fdiv (tameI a) (tameI b)
def errI (b : Bool) : Int := if b then 0 else 2

theorem retT {a b c d : Int} (h : a = b) (h' : c = d) : Ending.returned (.tuple #[.int .i64 a, .int .i64 c]) = .returned (.tuple #[.int .i64 b, .int .i64 d]) := by rw [h, h']

theorem floorI_zero {a b : Int} (h : (tameI b == 0) = true) : floorI a b = 0 := by unfold floorI; simp_all
theorem errI_zero {b : Int} (h : (tameI b == 0) = true) : errI (tameI b != 0) = 2 := by unfold errI; simp_all
theorem floorI_ok {a b : Int} (h : (tameI b == 0) = false) : floorI a b = Int.fdiv (tameI a) (tameI b) := by unfold floorI; simp_all
theorem errI_ok {b : Int} (h : (tameI b == 0) = false) : errI (tameI b != 0) = 0 := by unfold errI; simp_all

set_option maxHeartbeats 400000 in
theorem floor_any (a b : Int) (w : World) :
    Calls Tryz.prog 97 #[.int .i64 a, .int .i64 b] w fun e w' => e = .returned (.tuple #[.int .i64 (floorI a b), .int .i64 (errI (tameI b != 0))]) ∧ w = w' := by
  have ha := tame_bd a
  have hb' := tame_bd b
  have ht := tdiv_bd (tameI a) (tameI b) ha
  have hw : wrap64 ((tameI a).tdiv (tameI b)) = (tameI a).tdiv (tameI b) := wrap64_in (by omega)
  by_cases hz : (tameI b == 0) = true
  · rw [floorI_zero hz, errI_zero hz]
    go_enter Tryz.func97, Tryz.ntmps97
    go_wp2_with (go_at_call 117; refine (tame_any _ _).mono ?_; rintro e w' ⟨rfl, rfl⟩)
    go_ret2
    exact ⟨rfl, rfl⟩
  · replace hz : (tameI b == 0) = false := by simpa using hz
    have hb : tameI b ≠ 0 := by simpa using hz
    rw [floorI_ok hz, errI_ok hz]
    by_cases hm : (tameI a).tmod (tameI b) = 0
    · rw [fdiv_exact hm]
      go_enter Tryz.func97, Tryz.ntmps97
      go_wp2_with (go_at_call 117; refine (tame_any _ _).mono ?_; rintro e w' ⟨rfl, rfl⟩)
      go_ret2
      exact ⟨rfl, rfl⟩
    · have hm' : ((tameI a).tmod (tameI b) != 0) = true := by simpa using hm
      by_cases hs : (!decide (tameI a < 0) == decide (tameI b < 0)) = true
      · rw [fdiv_down hb hm hs]
        go_enter Tryz.func97, Tryz.ntmps97
        go_wp2_with (go_at_call 117; refine (tame_any _ _).mono ?_; rintro e w' ⟨rfl, rfl⟩)
        go_ret2
        exact ⟨rfl, rfl⟩
      · replace hs : (!decide (tameI a < 0) == decide (tameI b < 0)) = false := by simpa using hs
        rw [fdiv_same hb hs]
        go_enter Tryz.func97, Tryz.ntmps97
        go_wp2_with (go_at_call 117; refine (tame_any _ _).mono ?_; rintro e w' ⟨rfl, rfl⟩)
        go_ret2
        exact ⟨rfl, rfl⟩

set_option maxHeartbeats 400000 in
theorem rfloor_any (a b : Int) (w : World) :
    Calls Tryz.prog 32 #[.int .i64 a, .int .i64 b] w fun e w' => e = .returned (.tuple #[.int .i64 (floorI a b), .int .i64 (errI (tameI b != 0))]) ∧ w = w' := by
  have ha := tame_bd a
  have hb' := tame_bd b
  have ht := tdiv_bd (tameI a) (tameI b) ha
  have hw : wrap64 ((tameI a).tdiv (tameI b)) = (tameI a).tdiv (tameI b) := wrap64_in (by omega)
  have hx := tdiv_mul_bd (tameI a) (tameI b) ha
  have hw2 : wrap64 ((tameI a).tdiv (tameI b) * tameI b) = (tameI a).tdiv (tameI b) * tameI b := wrap64_in (by omega)
  clear hx
  by_cases hz : (tameI b == 0) = true
  · rw [floorI_zero hz, errI_zero hz]
    go_enter Tryz.func32, Tryz.ntmps32
    go_wp2_with (go_at_call 50; refine (in_any _ _ _ _).mono ?_; rw [in_tame]; rintro e w' ⟨rfl, rfl⟩)
    go_ret2
    exact ⟨rfl, rfl⟩
  · replace hz : (tameI b == 0) = false := by simpa using hz
    have hb : tameI b ≠ 0 := by simpa using hz
    rw [floorI_ok hz, errI_ok hz]
    by_cases hm : (tameI a).tmod (tameI b) = 0
    · rw [fdiv_exact hm]
      have hm' : ((tameI a).tdiv (tameI b) * tameI b != tameI a) = false := by simpa using tdiv_exact_iff.mpr hm
      clear hm
      go_enter Tryz.func32, Tryz.ntmps32
      go_wp2_with (go_at_call 50; refine (in_any _ _ _ _).mono ?_; rw [in_tame]; rintro e w' ⟨rfl, rfl⟩)
      go_ret2
      exact ⟨rfl, rfl⟩
    · have hm' : ((tameI a).tdiv (tameI b) * tameI b != tameI a) = true := by simpa using fun h => hm (tdiv_exact_iff.mp h)
      by_cases hs : (!decide (tameI a < 0) == decide (tameI b < 0)) = true
      · rw [fdiv_down hb hm hs]
        clear hm
        go_enter Tryz.func32, Tryz.ntmps32
        go_wp2_with (go_at_call 50; refine (in_any _ _ _ _).mono ?_; rw [in_tame]; rintro e w' ⟨rfl, rfl⟩)
        go_ret2
        exact ⟨rfl, rfl⟩
      · replace hs : (!decide (tameI a < 0) == decide (tameI b < 0)) = false := by simpa using hs
        rw [fdiv_same hb hs]
        clear hm
        go_enter Tryz.func32, Tryz.ntmps32
        go_wp2_with (go_at_call 50; refine (in_any _ _ _ _).mono ?_; rw [in_tame]; rintro e w' ⟨rfl, rfl⟩)
        go_ret2
        exact ⟨rfl, rfl⟩

end Go.Proofs.YtccikeagbillgaaGreat
