/- The document's own put: what stands between two rounds. No walk of the program here. -/
import Derived.Test.YtklopjbpfddgfaaSoLS
import Derived.Test.YtklopjbpfddgfaaSoS
import Derived.Test.YtklopjbpfddgfaaSlApp
import Derived.Deep.Upon
namespace Go.Proofs.Ytklopjbpfddgfaa
open Go.RowKit
set_option linter.unusedVariables false

theorem frozen_setCellsB (b : Nat) : ∀ (vs : List Value) (o : Nat) (w : World) (x : Addr), (w.setCells b o vs).frozen? x = w.frozen? x
  | [], _, _, _ => rfl
  | v :: vs, o, w, x => by
    rw [World.setCells, frozen_setCellsB b vs (o + 1)]
    simp
theorem own_but {w : World} {b base size : Nat} {e : TypeId} {v : Value} {n : Nat} {xs : List Value} (h : w.ownsRow base e size v n xs) (hb : b < base) (o : Nat) (vs : List Value) : (w.setCells b o vs).ownsRow base e size v n xs := by
  obtain ⟨h1, h2⟩ := h
  refine ⟨h1, h2.imp id ?_⟩
  rintro ⟨g, cap, cur, rfl, hb', hg, r⟩
  refine ⟨g, cap, cur, rfl, hb', ?_, r⟩
  have hlt : g < w.heap.size := by
    rcases Nat.lt_or_ge g w.heap.size with q | q
    · exact q
    · rw [Array.getElem?_eq_none q] at hg; cases hg
  rw [World.heap_setCells_other w b o vs hlt (by omega)]
  exact hg

/-- Between two rounds: the spans put out so far, the piece that is still to be put. -/
structure PutSt (w : World) (B base : Nat) (wr : World) (u : Value) (o : List Sn) (s : Sn) : Prop where
  new : New w wr
  lt : w.heap.size ≤ B ∧ B < base ∧ base ≤ wr.heap.size
  own : wr.ownsRow base 54 3 u o.length (o.flatMap Sn.enc)
  c0 : wr.cell? ⟨B, 0, none⟩ = some (.int .i64 s.lo)
  c1 : wr.cell? ⟨B, 1, none⟩ = some (.int .i64 s.hi)
  c2 : wr.cell? ⟨B, 2, none⟩ = some (.bool s.wk)
  fz : ∀ j, j < 3 → wr.frozen? ⟨B, j, none⟩ = false

theorem PutSt.keep {w wr wr' : World} {B base : Nat} {u : Value} {o : List Sn} {s : Sn} (h : PutSt w B base wr u o s) (n : New wr wr') : PutSt w B base wr' u o s :=
  ⟨h.new.trans n, ⟨h.lt.1, h.lt.2.1, Nat.le_trans h.lt.2.2 n.size⟩, own_new h.own n, n.keep h.c0, n.keep h.c1, n.keep h.c2, fun j hj => by
    rcases (show j = 0 ∨ j = 1 ∨ j = 2 by omega) with rfl | rfl | rfl
    · exact n.keepF h.c0 (h.fz _ hj)
    · exact n.keepF h.c1 (h.fz _ hj)
    · exact n.keepF h.c2 (h.fz _ hj)⟩

theorem PutSt.more {w wr wr' : World} {B base : Nat} {u v : Value} {o : List Sn} {s x : Sn} (h : PutSt w B base wr u o s) (ho : wr'.ownsRow base 54 3 v (o.length + 1) (o.flatMap Sn.enc ++ x.enc)) (hg : wr.grownBy wr' u.ownBlock) : PutSt w B base wr' v (o ++ [x]) s := by
  have hl := h.lt
  have hB : wr'.heap[B]? = wr.heap[B]? := hg.block B (by omega) fun e => by have := own_block h.own B e.symm; omega
  exact ⟨newGrown h.new hg (fun j hj => by have := own_block h.own j hj; omega), ⟨hl.1, hl.2.1, Nat.le_trans hl.2.2 hg.size⟩, by rw [List.length_append, List.flatMap_append]; simpa using ho, cell_block hB h.c0, cell_block hB h.c1, cell_block hB h.c2, fun j hj => frozen_block hB (h.fz j hj)⟩

theorem PutSt.there {w wr : World} {B base : Nat} {u : Value} {o : List Sn} {s : Sn} (h : PutSt w B base wr u o s) : wr.there B 0 3 := fun j hj => by
  refine ⟨?_, by rw [Nat.zero_add]; exact h.fz j hj⟩
  rw [Nat.zero_add]
  rcases (show j = 0 ∨ j = 1 ∨ j = 2 by omega) with rfl | rfl | rfl
  · rw [h.c0]; rfl
  · rw [h.c1]; rfl
  · rw [h.c2]; rfl

theorem PutSt.join {w wr : World} {B base : Nat} {u : Value} {o : List Sn} {s : Sn} (h : PutSt w B base wr u o s) (x : Sn) : PutSt w B base (wr.setCells B 0 x.enc) u o x := by
  have hs := World.rangeAt_setCells_same wr B 0 x.enc h.there
  have c : ∀ j (hj : j < 3), (wr.setCells B 0 x.enc).cell? ⟨B, j, none⟩ = some (x.enc[j]'(by rw [Sn.enc_len]; exact hj)) := fun j hj => by
    have := hs j (x.enc[j]'(by rw [Sn.enc_len]; exact hj)) (List.getElem?_eq_getElem _)
    rwa [Nat.zero_add] at this
  exact ⟨new_setCells h.new h.lt.1 _ _, ⟨h.lt.1, h.lt.2.1, by rw [nsize]; exact h.lt.2.2⟩, own_but h.own h.lt.2.1 _ _, c 0 (by omega), c 1 (by omega), c 2 (by omega), fun j hj => by rw [frozen_setCellsB]; exact h.fz j hj⟩
where
  nsize (w : World) (b : Nat) : ∀ (vs : List Value) (o : Nat), (w.setCells b o vs).heap.size = w.heap.size := fun vs => by
    induction vs generalizing w with
    | nil => intro o; rfl
    | cons v vs ih =>
      intro o
      rw [World.setCells, ih]
      simp

theorem sn_new (w : World) (c : Sn) (t : TypeId) : ∀ j u, c.enc[j]? = some u → (w.alloc (.cells #[.int .i64 c.lo, .int .i64 c.hi, .bool c.wk] t)).cell? ((⟨w.heap.size, 0, none⟩ : Addr).add j) = some u := by
  intro j u hu
  have hh := heap_new w (.cells #[.int .i64 c.lo, .int .i64 c.hi, .bool c.wk] t)
  rw [Addr.add_lit, Nat.zero_add]
  refine cell_of_heap hh ?_
  rw [← Array.getElem?_toList]
  exact hu

end Go.Proofs.Ytklopjbpfddgfaa
