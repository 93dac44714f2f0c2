import Derived.Test.YtklopjbpfddgfaaSoRZ11
import Derived.Test.YtklopjbpfddgfaaSteady
import Derived.Deep.MidRow
import Derived.Test.YtklopjbpfddgfaaSpPZ11
import Derived.Test.YtklopjbpfddgfaaSoCZ11
import Derived.Test.YtklopjbpfddgfaaSlAppZ11
import Derived.Test.YtklopjbpfddgfaaSoLSZ11
import Derived.Test.YtklopjbpfddgfaaWholeIZ11
import Derived.Deep.DeepCutAuto
import Derived.Lib.SliceRun

/- A struct stored whole into a block of the call's own. No function of the program in sight. -/
namespace Go.Proofs.Ytklopjbpfddgfaa
open Go.RowKit
set_option linter.unusedVariables false

/-- n cells are there at a block's head, and may be written. -/
def Thr (w : World) (b n : Nat) : Prop := ∀ j, j < n → (∃ v, w.cell? ⟨b, j, none⟩ = some v) ∧ w.frozen? ⟨b, j, none⟩ = false
theorem Thr.keep {w w' : World} {b n : Nat} (h : Thr w b n) (hn : New w w') : Thr w' b n := fun j hj => by
  obtain ⟨⟨v, hv⟩, hf⟩ := h j hj
  exact ⟨⟨v, hn.keep hv⟩, hn.keepF hv hf⟩
theorem Thr.lt {w : World} {b n : Nat} (h : Thr w b n) (h0 : 0 < n) : b < w.heap.size := by
  obtain ⟨⟨v, hv⟩, _⟩ := h 0 h0
  exact World.block_lt_of_cell? _ _ hv
theorem Thr.new (w : World) (cs : Array Value) (T : TypeId) (b : Nat) (hb : w.heap.size = b) : Thr (w.alloc (.cells cs T)) b cs.size := fun j hj => by
  subst hb
  have h1 : (w.alloc (.cells cs T)).heap[w.heap.size]? = some (.cells cs T) := heap_new _ _
  exact ⟨⟨cs[j], cell_of_heap h1 (by simp [hj])⟩, frozen_of_heap h1⟩

theorem new_setCells {a w : World} {b : Nat} (h : New a w) (hb : a.heap.size ≤ b) : ∀ (vs : List Value) (o : Nat), New a (w.setCells b o vs)
  | [], o => h
  | v :: vs, o => by
    rw [World.setCells]
    exact new_setCells (New.setCell h (p := ⟨b, o, none⟩) hb v) hb vs (o + 1)

/-- The store: the world behind it under a name. -/
theorem wpList_store_row {P : Program} {ops : Array Oper} {rest : List Oper} {op : Oper} {a : Act} {w : World} {Q : Exit → Act → World → Prop} (hgd : op.guard = none) (ty : TypeId) (x y : Operand) (ho : op.op = .store ty x y)
    (b : Nat) (cells : Array Value) (hx : a.eval x = .pointer (some ⟨b, 0, none⟩)) (hy : a.eval y = .agg cells)
    (ht : Thr w b cells.size) (hi : (P.info? ty).map (·.size) = some cells.size) (h1 : ∀ v ∈ cells.toList, v.oneCell' = true)
    (h : ∀ W, (∀ a0, New a0 w → a0.heap.size ≤ b → New a0 W) → (∀ b' o v, b' ≠ b → w.cell? ⟨b', o, none⟩ = some v → W.cell? ⟨b', o, none⟩ = some v) → CellsAt W b 0 cells.toList → wpList P ops Q rest (a.put op.dst undef) W) : wpList P ops Q (op :: rest) a w := by
  have ht' : w.there b 0 cells.size := fun j hj => by
    obtain ⟨⟨v, hv⟩, hf⟩ := ht j hj
    rw [Nat.zero_add]
    exact ⟨by rw [hv]; rfl, hf⟩
  refine wpList_store_mid hgd ty x y ho b 0 cells hx hy ht' hi (all_oneCell_toArray h1) (h _ (fun a0 h0 hb => new_setCells h0 hb _ _) (fun b' o v hne hv => by rw [World.cell?_setCells_out b _ 0 w ⟨b', o, none⟩ (fun e => absurd e hne)]; exact hv) ?_)
  intro j hj
  have := World.rangeAt_setCells_same w b 0 cells.toList (by simpa using ht')
  exact this j _ (List.getElem?_eq_getElem hj)

/-- A slice that does not lie in the block that was stored to. -/
theorem sl_but {α : Type} {enc : α → List Value} {k : Nat} {w W : World} {b : Nat} {v : Value} {l : List α} (h : Sl enc k w v l) (hb : ∀ j, v.ownBlock = some j → j ≠ b) (hk : ∀ b' o u, b' ≠ b → w.cell? ⟨b', o, none⟩ = some u → W.cell? ⟨b', o, none⟩ = some u) : Sl enc k W v l := by
  obtain ⟨a, c, rfl, h1, h2, h3, h4⟩ := h
  refine ⟨a, c, rfl, h1, h2, h3, fun h0 => ?_⟩
  obtain ⟨B, off, rfl, hA⟩ := h4 h0
  exact ⟨B, off, rfl, fun j hj i hi => hk _ _ _ (hb B rfl) (hA j hj i hi)⟩

/-- A soup's lists lie in blocks of this number or later. -/
structure SoupV.own (S : SoupV) (n : Nat) : Prop where
  t : ∀ j, (Value.slice S.a0 S.ts.length S.c0).ownBlock = some j → n ≤ j
  b : ∀ j, (Value.slice S.a1 S.bs.length S.c1).ownBlock = some j → n ≤ j
  h : ∀ j, (Value.slice S.a2 S.hs.length S.c2).ownBlock = some j → n ≤ j
/-- A new soup of these lists is answered. -/
def SoupIs (T : List TriR) (B : List BoxR) (H : List HopR) (w : World) (e : Ending) (w' : World) : Prop := ∃ S : SoupV, e = .returned (.agg #[.slice S.a0 S.ts.length S.c0, .slice S.a1 S.bs.length S.c1, .slice S.a2 S.hs.length S.c2]) ∧ S.ok w' ∧ S.ts = T ∧ S.bs = B ∧ S.hs = H ∧ S.own w.heap.size ∧ New w w'
/-- .. and an error's number. -/
def SoupE (T : List TriR) (B : List BoxR) (H : List HopR) (er : Int) (w : World) (e : Ending) (w' : World) : Prop := ∃ S : SoupV, e = .returned (.tuple #[.agg #[.slice S.a0 S.ts.length S.c0, .slice S.a1 S.bs.length S.c1, .slice S.a2 S.hs.length S.c2], .int .i64 er]) ∧ S.ok w' ∧ S.ts = T ∧ S.bs = B ∧ S.hs = H ∧ S.own w.heap.size ∧ New w w'
theorem SoupV.ok_but {S : SoupV} {w W : World} {b n : Nat} (h : S.ok w) (ho : S.own n) (hb : b < n) (hk : ∀ b' o u, b' ≠ b → w.cell? ⟨b', o, none⟩ = some u → W.cell? ⟨b', o, none⟩ = some u) : S.ok W :=
  ⟨sl_but h.t (fun j hj => by have := ho.t j hj; omega) hk, sl_but h.b (fun j hj => by have := ho.b j hj; omega) hk, sl_but h.h (fun j hj => by have := ho.h j hj; omega) hk⟩
theorem SoupV.own.mono {S : SoupV} {n m : Nat} (h : S.own n) (hm : m ≤ n) : S.own m := ⟨fun j hj => Nat.le_trans hm (h.t j hj), fun j hj => Nat.le_trans hm (h.b j hj), fun j hj => Nat.le_trans hm (h.h j hj)⟩
def SoupV.none : SoupV := ⟨[], [], [], Option.none, Option.none, Option.none, 0, 0, 0⟩
theorem SoupV.none_ok (w : World) : SoupV.none.ok w := ⟨Sl.nil, Sl.nil, Sl.nil⟩
theorem SoupV.none_own (n : Nat) : SoupV.none.own n := ⟨fun j h => (by cases h), fun j h => (by cases h), fun j h => (by cases h)⟩

end Go.Proofs.Ytklopjbpfddgfaa

/- Package filter: has it room, check, a row cloned. -/
namespace Go.Proofs.Ytklopjbpfddgfaa
open Go.RowKit
set_option linter.unusedVariables false

set_option maxHeartbeats 1000000 in
theorem fi_hasRoom (C : CfgR) (s : Sn) (top : Int) (w : World) :
    Calls Try.prog 44 #[.agg #[.int .i64 C.cl, .int .i64 C.cb, .int .i64 C.ht, .int .i64 C.ri, .int .i64 C.ru, .int .i64 C.wd, .int .i64 C.dp], .agg #[.int .i64 s.lo, .int .i64 s.hi, .bool s.wk], .int .i64 top] w fun e w' => e = .returned (.bool (decide (C.ht ≤ wrap64 (top - s.hi)))) ∧ New w w' := by
  go_enter Try.func44, Try.ntmps44
  go_wp2_with fail
  refine bodyPost_ret (v := .bool (decide (C.ht ≤ wrap64 (top - s.hi)))) (by simp [results, Try.results44, go_sem, *]) rfl ?_
  exact ⟨rfl, by (repeat (first | (with_reducible exact New.refl _) | (with_reducible assumption) | ((with_reducible refine New.setB ?_ ?_ _); focus (first | omega | (simp; omega) | (simp; done))) | (with_reducible refine New.alloc ?_ _) | (with_reducible refine New.drew ?_) | (with_reducible refine New.drewN ?_ _) | (with_reducible refine New.hat ?_ _) | ((with_reducible apply New.snart); (with_reducible assumption))))⟩

/-- What is wrong with a config and spans. -/
def fiE (C : CfgR) (l : List Sn) : Int := if C.err = 0 then spE l else C.err
theorem fiE_ok {C : CfgR} {l : List Sn} (h : fiE C l = 0) : C.err = 0 ∧ spE l = 0 := by
  unfold fiE at h
  split at h
  · rename_i h1; exact ⟨h1, h⟩
  · rename_i h1; exact absurd h h1
theorem fi_err_two (C : CfgR) : C.err = 0 ∨ C.err = 20 := by unfold CfgR.err checkE; split <;> simp
theorem fiE_three (C : CfgR) (l : List Sn) : fiE C l = 0 ∨ fiE C l = 2 ∨ fiE C l = 20 := by
  unfold fiE
  rcases fi_err_two C with h | h <;> rcases chkE_two l with k | k <;> rw [h] <;> simp [k]

set_option maxHeartbeats 1000000 in
theorem fi_check (C : CfgR) (at0 : Option Addr) (l : List Sn) (c : Nat) (hl : l.length ≤ maxLen) (w : World) (H : RowIn Sn.enc 3 w at0 l) :
    Calls Try.prog 35 #[.agg #[.int .i64 C.cl, .int .i64 C.cb, .int .i64 C.ht, .int .i64 C.ri, .int .i64 C.ru, .int .i64 C.wd, .int .i64 C.dp], .slice at0 l.length c] w fun e w' => e = .returned (.int .i64 (fiE C l)) ∧ New w w' := by
  have KS := Lib.hid (fun W n => sp_check at0 l c hl W (H.keep (n : New w W)))
  have KC := Lib.hid (fun W => check_any C.cl C.cb C.ht C.ri C.ru C.wd C.dp W)
  obtain ⟨n, hn⟩ : ∃ n, n = l.length := ⟨_, rfl⟩
  rw [← hn] at KS ⊢
  have h2 := fi_err_two C
  obtain ⟨r, hr⟩ : ∃ r, r = C.err := ⟨_, rfl⟩
  have HR : Hid (fiE C l = if r = 0 then spE l else r) := Lib.hid (by rw [hr]; rfl)
  rw [show checkE C.cl C.cb C.ht C.ri C.ru C.wd C.dp = r from hr.symm] at KC
  rw [← hr] at h2
  clear hr hn H hl
  go_enter Try.func35, Try.ntmps35
  go_wp2_with fail
  refine (KC.out _).mono ?_
  rintro e w1 ⟨rfl, n1, -⟩
  have hn1 : New w w1 := New.trans (by (repeat (first | (with_reducible exact New.refl _) | (with_reducible assumption) | ((with_reducible refine New.setB ?_ ?_ _); focus (first | omega | (simp; omega) | (simp; done))) | (with_reducible refine New.alloc ?_ _) | (with_reducible refine New.drew ?_) | (with_reducible refine New.drewN ?_ _) | (with_reducible refine New.hat ?_ _) | ((with_reducible apply New.snart); (with_reducible assumption))))) n1
  clear n1
  rcases h2 with rfl | rfl
  · go_wp2_with fail
    refine (KS.out _ hn1).mono ?_
    rintro e w2 ⟨rfl, n2⟩
    go_wp2_with fail
    go_ret
    exact ⟨by rw [HR.out]; rfl, hn1.trans n2⟩
  · go_wp2_with fail
    go_ret
    exact ⟨by rw [HR.out]; rfl, hn1⟩

set_option maxHeartbeats 1000000 in
theorem fi_rooms (at0 : Option Addr) (len c : Nat) (n : Nat) (w : World) :
    CallsIn Fence.wide n Try.prog 46 #[.slice at0 len c] w fun e w' => e = .returned (.func (.func 49) #[] #[.pointer (some ⟨w.heap.size, 0, none⟩)]) ∧ w' = w.alloc (.cells #[.slice at0 len c] 49) := by
  refine callsIn_wide.2 ?_
  go_enter Try.func46, Try.ntmps46
  go_wp2_with fail
  go_ret
  exact ⟨rfl, rfl⟩

set_option maxHeartbeats 1000000 in
theorem fi_clone (at0 : Option Addr) (l : List Sn) (c : Nat) (hl : l.length ≤ 1000) (w : World) (h : Sl Sn.enc 3 w (.slice at0 l.length c) l) :
    Calls Try.prog 42 #[.slice at0 l.length c] w fun e w' => ∃ a d, e = .returned (.slice a l.length d) ∧ Sl Sn.enc 3 w' (.slice a l.length d) l ∧ New w w' ∧ ∀ ad, a = some ad → w.heap.size ≤ ad.block ∧ ∃ cs fr, w'.heap[ad.block]? = some (.cells cs 54 fr) := by
  obtain ⟨i0, hi, hz0, hz1, hz2⟩ := info_parts sn_info
  cases at0 with
  | none =>
    obtain ⟨-, h1, h2, h3, -⟩ := h.row'
    have hc0 := h3 rfl
    have hm0 : l = [] := List.eq_nil_of_length_eq_zero (by omega)
    subst hm0
    subst hc0
    have e1 : ∀ W, (binOp .eql 49 (.slice none 0 0) (.slice none 0 0)).run Try.prog W = .ok (.bool true) W := fun W => (Lib.run_eql_slice_nil W _ _ _ _ _ _ _ Try.underlying49).trans rfl
    go_enter Try.func42, Try.ntmps42
    go_wp2_with fail
    go_ret
    exact ⟨none, 0, rfl, Sl.nil, by (repeat (first | (with_reducible exact New.refl _) | (with_reducible assumption) | ((with_reducible refine New.setB ?_ ?_ _); focus (first | omega | (simp; omega) | (simp; done))) | (with_reducible refine New.alloc ?_ _) | (with_reducible refine New.drew ?_) | (with_reducible refine New.drewN ?_ _) | (with_reducible refine New.hat ?_ _) | ((with_reducible apply New.snart); (with_reducible assumption)))), fun ad h => by cases h⟩
  | some ad =>
    go_enter Try.func42, Try.ntmps42
    have e2 : ∀ W n d, (binOp .eql 49 (.slice (some ad) n d) (.slice none 0 0)).run Try.prog W = .ok (.bool false) W := fun W n d => (Lib.run_eql_slice_nil W _ _ _ _ _ _ _ Try.underlying49).trans rfl
    go_wp2_with (at_builtin; refine wpList_append_sl rfl _ _ 49 rfl Sn.enc_len Sn.enc_one w.heap.size 54 i0 _ 24 Try.underlying49 hi hz0 hz1 hz2 rfl (by decide) _ ([] : List Sn) rfl ⟨rfl, .inr ⟨w.heap.size, 0, #[], rfl, Nat.le_refl _, heap_new _ _, Nat.le_refl _, Nat.zero_le _, rfl, rfl⟩⟩ _ l rfl (h.keep (by (repeat (first | (with_reducible exact New.refl _) | (with_reducible assumption) | ((with_reducible refine New.setB ?_ ?_ _); focus (first | omega | (simp; omega) | (simp; done))) | (with_reducible refine New.alloc ?_ _) | (with_reducible refine New.drew ?_) | (with_reducible refine New.drewN ?_ _) | (with_reducible refine New.hat ?_ _) | ((with_reducible apply New.snart); (with_reducible assumption)))))) (by unfold maxLen; simp; omega) (by simp; omega) (by simp) ?_; intro v' w1 hown hnew _; obtain ⟨a, d, N, hN, rfl⟩ := own_shape2 hown)
    go_ret
    rw [List.nil_append] at hN hown
    subst hN
    refine ⟨a, d, rfl, own_sl Sn.enc_len hown, hnew _ (by (repeat (first | (with_reducible exact New.refl _) | (with_reducible assumption) | ((with_reducible refine New.setB ?_ ?_ _); focus (first | omega | (simp; omega) | (simp; done))) | (with_reducible refine New.alloc ?_ _) | (with_reducible refine New.drew ?_) | (with_reducible refine New.drewN ?_ _) | (with_reducible refine New.hat ?_ _) | ((with_reducible apply New.snart); (with_reducible assumption))))) (Nat.le_refl _), fun ad h => ⟨own_block hown _ (by rw [h]; rfl), ?_⟩⟩
    rcases hown.2 with ⟨q, -⟩ | ⟨g, cap', cur, q, -, hg, -⟩
    · injection q with q; rw [h] at q; cases q
    · injection q with q; rw [h] at q; cases q; exact ⟨_, _, hg⟩

end Go.Proofs.Ytklopjbpfddgfaa
