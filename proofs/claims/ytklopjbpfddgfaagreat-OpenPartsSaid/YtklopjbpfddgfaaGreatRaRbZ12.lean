import Derived.Test.YtklopjbpfddgfaaGreatSpAZ12
import Derived.Test.YtklopjbpfddgfaaGreatWholeCZ12
import Derived.Deep.LoopGhost
import Derived.Test.YtklopjbpfddgfaaGreatSpOZ12
import Derived.Test.YtklopjbpfddgfaaGreatWholeBZ12
import Derived.Test.YtklopjbpfddgfaaGreatSoBZ12
import Derived.Deep.Upon
import Derived.Test.YtklopjbpfddgfaaGreatSpBZ12
import Derived.Deep.DeepCutAuto
import Derived.Test.YtklopjbpfddgfaaGreatOgCZ12
import Derived.Test.YtklopjbpfddgfaaGreatWholeJZ12
import Derived.Test.YtklopjbpfddgfaaGreatTriBZ12
import Derived.Test.YtklopjbpfddgfaaGreatRaBZ12
import Derived.Test.YtklopjbpfddgfaaGreatTriGZ12
import Derived.Test.YtklopjbpfddgfaaGreatSpMZ12
import Derived.Test.YtklopjbpfddgfaaGreatSpPZ12
import Derived.Test.YtklopjbpfddgfaaGreatClZcZ12
import Derived.Test.YtklopjbpfddgfaaGreatClQZ12
import Derived.Test.YtklopjbpfddgfaaGreatRaC0Z12
import Derived.Test.YtklopjbpfddgfaaGreatSoCBZ12
import Derived.Test.YtklopjbpfddgfaaGreatSteadyZ12
import Derived.Test.YtklopjbpfddgfaaGreatRaAZ12
import Derived.Test.YtklopjbpfddgfaaGreatRaRZ12
import Derived.Test.YtklopjbpfddgfaaGreatRaEZ12

/- The library's Equal, of slices of a kind. -/
namespace Go.Proofs.YtklopjbpfddgfaaGreat
open Go.RowKit
set_option linter.unusedVariables false

def Sn.allEq : List Sn → List Sn → Bool
  | [], [] => true
  | a :: l, b :: m => a.eqB b && Sn.allEq l m
  | _, _ => false
theorem Sn.allEq_iff : ∀ l m : List Sn, Sn.allEq l m = true ↔ l = m
  | [], [] => by simp [Sn.allEq]
  | [], _ :: _ => by simp [Sn.allEq]
  | _ :: _, [] => by simp [Sn.allEq]
  | a :: l, b :: m => by simp [Sn.allEq, Sn.eqB_iff, Sn.allEq_iff l m]

set_option maxHeartbeats 4000000 in
theorem sn_neq (w : World) (a b : Sn) : (binOp .neq 45 (.agg #[.int .i64 a.lo, .int .i64 a.hi, .bool a.wk]) (.agg #[.int .i64 b.lo, .int .i64 b.hi, .bool b.wk])).run Tryz.prog w = .ok (.bool (!a.eqB b)) w := by
  obtain ⟨a0, a1, a2⟩ := a
  obtain ⟨b0, b1, b2⟩ := b
  unfold Sn.eqB
  cases h0 : (a0 == b0)
  · go_simp
  · skip
    cases h1 : (a1 == b1)
    · go_simp
    · skip
      cases h2 : (a2 == b2)
      · go_simp
      · go_simp

end Go.Proofs.YtklopjbpfddgfaaGreat

/- The document's own put: what stands between two rounds. No walk of the program here. -/
namespace Go.Proofs.YtklopjbpfddgfaaGreat
open Go.RowKit
set_option linter.unusedVariables false

theorem frozen_setCellsB (b : Nat) : ∀ (vs : List Value) (o : Nat) (w : World) (x : Addr), (w.setCells b o vs).frozen? x = w.frozen? x
  | [], _, _, _ => rfl
  | v :: vs, o, w, x => by
    rw [World.setCells, frozen_setCellsB b vs (o + 1)]
    simp
theorem own_but {w : World} {b base size : Nat} {e : TypeId} {v : Value} {n : Nat} {xs : List Value} (h : w.ownsRow base e size v n xs) (hb : b < base) (o : Nat) (vs : List Value) : (w.setCells b o vs).ownsRow base e size v n xs := by
  obtain ⟨h1, h2⟩ := h
  refine ⟨h1, h2.imp id ?_⟩
  rintro ⟨g, cap, cur, rfl, hb', hg, r⟩
  refine ⟨g, cap, cur, rfl, hb', ?_, r⟩
  have hlt : g < w.heap.size := by
    rcases Nat.lt_or_ge g w.heap.size with q | q
    · exact q
    · rw [Array.getElem?_eq_none q] at hg; cases hg
  rw [World.heap_setCells_other w b o vs hlt (by omega)]
  exact hg

/-- Between two rounds: the spans put out so far, the piece that is still to be put. -/
structure PutSt (w : World) (B base : Nat) (wr : World) (u : Value) (o : List Sn) (s : Sn) : Prop where
  new : New w wr
  lt : w.heap.size ≤ B ∧ B < base ∧ base ≤ wr.heap.size
  own : wr.ownsRow base 45 3 u o.length (o.flatMap Sn.enc)
  c0 : wr.cell? ⟨B, 0, none⟩ = some (.int .i64 s.lo)
  c1 : wr.cell? ⟨B, 1, none⟩ = some (.int .i64 s.hi)
  c2 : wr.cell? ⟨B, 2, none⟩ = some (.bool s.wk)
  fz : ∀ j, j < 3 → wr.frozen? ⟨B, j, none⟩ = false

theorem PutSt.keep {w wr wr' : World} {B base : Nat} {u : Value} {o : List Sn} {s : Sn} (h : PutSt w B base wr u o s) (n : New wr wr') : PutSt w B base wr' u o s :=
  ⟨h.new.trans n, ⟨h.lt.1, h.lt.2.1, Nat.le_trans h.lt.2.2 n.size⟩, own_new h.own n, n.keep h.c0, n.keep h.c1, n.keep h.c2, fun j hj => by
    rcases (show j = 0 ∨ j = 1 ∨ j = 2 by omega) with rfl | rfl | rfl
    · exact n.keepF h.c0 (h.fz _ hj)
    · exact n.keepF h.c1 (h.fz _ hj)
    · exact n.keepF h.c2 (h.fz _ hj)⟩

theorem PutSt.more {w wr wr' : World} {B base : Nat} {u v : Value} {o : List Sn} {s x : Sn} (h : PutSt w B base wr u o s) (ho : wr'.ownsRow base 45 3 v (o.length + 1) (o.flatMap Sn.enc ++ x.enc)) (hg : wr.grownBy wr' u.ownBlock) : PutSt w B base wr' v (o ++ [x]) s := by
  have hl := h.lt
  have hB : wr'.heap[B]? = wr.heap[B]? := hg.block B (by omega) fun e => by have := own_block h.own B e.symm; omega
  exact ⟨newGrown h.new hg (fun j hj => by have := own_block h.own j hj; omega), ⟨hl.1, hl.2.1, Nat.le_trans hl.2.2 hg.size⟩, by rw [List.length_append, List.flatMap_append]; simpa using ho, cell_block hB h.c0, cell_block hB h.c1, cell_block hB h.c2, fun j hj => frozen_block hB (h.fz j hj)⟩

theorem PutSt.there {w wr : World} {B base : Nat} {u : Value} {o : List Sn} {s : Sn} (h : PutSt w B base wr u o s) : wr.there B 0 3 := fun j hj => by
  refine ⟨?_, by rw [Nat.zero_add]; exact h.fz j hj⟩
  rw [Nat.zero_add]
  rcases (show j = 0 ∨ j = 1 ∨ j = 2 by omega) with rfl | rfl | rfl
  · rw [h.c0]; rfl
  · rw [h.c1]; rfl
  · rw [h.c2]; rfl

theorem PutSt.join {w wr : World} {B base : Nat} {u : Value} {o : List Sn} {s : Sn} (h : PutSt w B base wr u o s) (x : Sn) : PutSt w B base (wr.setCells B 0 x.enc) u o x := by
  have hs := World.rangeAt_setCells_same wr B 0 x.enc h.there
  have c : ∀ j (hj : j < 3), (wr.setCells B 0 x.enc).cell? ⟨B, j, none⟩ = some (x.enc[j]'(by rw [Sn.enc_len]; exact hj)) := fun j hj => by
    have := hs j (x.enc[j]'(by rw [Sn.enc_len]; exact hj)) (List.getElem?_eq_getElem _)
    rwa [Nat.zero_add] at this
  exact ⟨new_setCells h.new h.lt.1 _ _, ⟨h.lt.1, h.lt.2.1, by rw [nsize]; exact h.lt.2.2⟩, own_but h.own h.lt.2.1 _ _, c 0 (by omega), c 1 (by omega), c 2 (by omega), fun j hj => by rw [frozen_setCellsB]; exact h.fz j hj⟩
where
  nsize (w : World) (b : Nat) : ∀ (vs : List Value) (o : Nat), (w.setCells b o vs).heap.size = w.heap.size := fun vs => by
    induction vs generalizing w with
    | nil => intro o; rfl
    | cons v vs ih =>
      intro o
      rw [World.setCells, ih]
      simp

theorem sn_new (w : World) (c : Sn) (t : TypeId) : ∀ j u, c.enc[j]? = some u → (w.alloc (.cells #[.int .i64 c.lo, .int .i64 c.hi, .bool c.wk] t)).cell? ((⟨w.heap.size, 0, none⟩ : Addr).add j) = some u := by
  intro j u hu
  have hh := heap_new w (.cells #[.int .i64 c.lo, .int .i64 c.hi, .bool c.wk] t)
  rw [Addr.add_lit, Nat.zero_add]
  refine cell_of_heap hh ?_
  rw [← Array.getElem?_toList]
  exact hu

end Go.Proofs.YtklopjbpfddgfaaGreat

/- The document's own tests of pieces; what two pieces are together. -/
namespace Go.Proofs.YtklopjbpfddgfaaGreat
open Go.RowKit
set_option linter.unusedVariables false
set_option linter.unusedSimpArgs false

set_option maxHeartbeats 2000000 in
theorem r_join (p q : Sn) (w : World) : Calls Tryz.prog 99 #[.agg #[.int .i64 p.lo, .int .i64 p.hi, .bool p.wk], .agg #[.int .i64 q.lo, .int .i64 q.hi, .bool q.wk]] w fun e w' => e = .returned (.agg #[.int .i64 (un p q).lo, .int .i64 (un p q).hi, .bool (un p q).wk]) ∧ New w w' := by
  unfold un
  obtain ⟨a, b, c⟩ := p
  obtain ⟨d, e, f⟩ := q
  simp only
  obtain ⟨t1, h1⟩ : ∃ t, decide (e ≤ b) = t := ⟨_, rfl⟩
  obtain ⟨t2, h2⟩ : ∃ t, decide (b ≤ e) = t := ⟨_, rfl⟩
  rw [h1, h2]
  have e1 : (b == max b e) = t1 := by rw [← h1, Bool.eq_iff_iff]; simp; omega
  have e2 : (e == max b e) = t2 := by rw [← h2, Bool.eq_iff_iff]; simp; omega
  clear h1 h2
  go_enter Tryz.func99, Tryz.ntmps99
  cases c <;> cases f <;> cases t1 <;> cases t2
  all_goals
    go_wp2_with fail
    simp only [Bool.false_and, Bool.true_and, Bool.and_false, Bool.and_true, Bool.false_or, Bool.true_or, Bool.or_false, Bool.or_true]
    first
    | (refine bodyPost_ret (v := .agg #[.int .i64 (min a d), .int .i64 (max b e), .bool true]) (by simp [results, Tryz.results99, go_sem, *]) rfl ?_; exact ⟨rfl, by (repeat (first | (with_reducible exact New.refl _) | (with_reducible assumption) | ((with_reducible refine New.setB ?_ ?_ _); focus (first | omega | (simp; omega) | (simp; done))) | (with_reducible refine New.alloc ?_ _) | (with_reducible refine New.drew ?_) | (with_reducible refine New.drewN ?_ _) | (with_reducible refine New.hat ?_ _) | ((with_reducible apply New.snart); (with_reducible assumption))))⟩)
    | (refine bodyPost_ret (v := .agg #[.int .i64 (min a d), .int .i64 (max b e), .bool false]) (by simp [results, Tryz.results99, go_sem, *]) rfl ?_; exact ⟨rfl, by (repeat (first | (with_reducible exact New.refl _) | (with_reducible assumption) | ((with_reducible refine New.setB ?_ ?_ _); focus (first | omega | (simp; omega) | (simp; done))) | (with_reducible refine New.alloc ?_ _) | (with_reducible refine New.drew ?_) | (with_reducible refine New.drewN ?_ _) | (with_reducible refine New.hat ?_ _) | ((with_reducible apply New.snart); (with_reducible assumption))))⟩)

theorem retBo2 {b b' : Bool} (h : b = b') : Ending.returned (.bool b) = Ending.returned (.bool b') := by rw [h]

set_option maxHeartbeats 1000000 in
theorem r_may (p : Sn) (w : World) : Calls Tryz.prog 27 #[.agg #[.int .i64 p.lo, .int .i64 p.hi, .bool p.wk]] w fun e w' => e = .returned (.bool (!badS p)) ∧ New w w' := by
  have e : (!badS p) = (decide (p.lo ≤ p.hi) && decide (-2048 ≤ p.lo) && decide (p.hi ≤ 2048)) := by
    rw [Bool.eq_iff_iff]
    have := badS_not p
    simp only [Bool.not_eq_true', this, Bool.and_eq_true, decide_eq_true_eq]
    omega
  rw [e]
  clear e
  obtain ⟨a, b, c⟩ := p
  simp only
  go_enter Tryz.func27, Tryz.ntmps27
  go_wp2_with fail
  all_goals
    go_ret
    exact ⟨retBo2 (by first | rfl | (rw [Bool.eq_iff_iff]; simp; omega)), by (repeat (first | (with_reducible exact New.refl _) | (with_reducible assumption) | ((with_reducible refine New.setB ?_ ?_ _); focus (first | omega | (simp; omega) | (simp; done))) | (with_reducible refine New.alloc ?_ _) | (with_reducible refine New.drew ?_) | (with_reducible refine New.drewN ?_ _) | (with_reducible refine New.hat ?_ _) | ((with_reducible apply New.snart); (with_reducible assumption))))⟩

set_option maxHeartbeats 1000000 in
theorem r_meet (p q : Sn) (w : World) : Calls Tryz.prog 98 #[.agg #[.int .i64 p.lo, .int .i64 p.hi, .bool p.wk], .agg #[.int .i64 q.lo, .int .i64 q.hi, .bool q.wk]] w fun e w' => e = .returned (.bool (meets p q)) ∧ New w w' := by
  unfold meets
  obtain ⟨a, b, c⟩ := p
  obtain ⟨d, e, f⟩ := q
  simp only
  go_enter Tryz.func98, Tryz.ntmps98
  go_wp2_with fail
  all_goals
    go_ret
    exact ⟨retBo2 (by first | rfl | (rw [Bool.eq_iff_iff]; simp; omega)), by (repeat (first | (with_reducible exact New.refl _) | (with_reducible assumption) | ((with_reducible refine New.setB ?_ ?_ _); focus (first | omega | (simp; omega) | (simp; done))) | (with_reducible refine New.alloc ?_ _) | (with_reducible refine New.drew ?_) | (with_reducible refine New.drewN ?_ _) | (with_reducible refine New.hat ?_ _) | ((with_reducible apply New.snart); (with_reducible assumption))))⟩

end Go.Proofs.YtklopjbpfddgfaaGreat

/- The document's own put: spans and a piece. -/
namespace Go.Proofs.YtklopjbpfddgfaaGreat
open Go.RowKit
set_option linter.unusedVariables false

set_option maxHeartbeats 8000000 in
set_option maxRecDepth 100000 in
theorem rs_put (v : Value) (l : List Sn) (c : Sn) (w : World) (hs : Sl Sn.enc 3 w v l) (hl : l.length ≤ 1000) :
    Calls Tryz.prog 75 #[v, .agg #[.int .i64 c.lo, .int .i64 c.hi, .bool c.wk]] w fun e w' => ∃ v', e = .returned v' ∧ Sl Sn.enc 3 w' v' (putS c l false) ∧ New w w' := by
  obtain ⟨i0, hi, hz0, hz1, hz2⟩ := info_parts sn_info
  have HI := Lib.hid hi
  have HZ0 := Lib.hid hz0
  have HZ1 := Lib.hid hz1
  have HZ2 := Lib.hid hz2
  have KM := Lib.hid (fun p q W => r_meet p q W)
  have KJ := Lib.hid (fun p q W => r_join p q W)
  obtain ⟨at0, cap, rfl, hcap, hmax, -, hrow⟩ := hs
  have HR := Lib.hid hrow
  unfold maxLen at hmax
  obtain ⟨n, hn⟩ : ∃ n, n = l.length := ⟨_, rfl⟩
  rw [← hn] at hl hcap ⊢
  have HNL := Lib.hid hn
  clear hi hz0 hz1 hz2 hrow hn
  go_enter Tryz.func75, Tryz.ntmps75
  go_wp2_with fail
  refine Code.at (fun W0 hW => ?_)
  have P0 : PutSt w w.heap.size W0.heap.size W0 (.slice none 0 0) [] c := by
    subst hW
    exact ⟨by (repeat (first | (with_reducible exact New.refl _) | (with_reducible assumption) | ((with_reducible refine New.setB ?_ ?_ _); focus (first | omega | (simp; omega) | (simp; done))) | (with_reducible refine New.alloc ?_ _) | (with_reducible refine New.drew ?_) | (with_reducible refine New.drewN ?_ _) | (with_reducible refine New.hat ?_ _) | ((with_reducible apply New.snart); (with_reducible assumption)))), by simp, World.ownsRow_nil _ _ _ _, by go_simp, by go_simp, by go_simp, fun j hj => by go_simp⟩
  have HP0 := Lib.hid P0
  have HS : Hid ([] ++ putS c (l.drop 0) false = putS c l false) := Lib.hid (by rw [List.drop_zero]; rfl)
  obtain ⟨B, hB⟩ : ∃ B, B = w.heap.size := ⟨_, rfl⟩
  obtain ⟨base, hbase⟩ : ∃ base, base = W0.heap.size := ⟨_, rfl⟩
  rw [← hB, ← hbase] at HP0
  rw [← hB]
  clear hW P0 hB hbase
  go_loopg [5, 6, 7] n (fun gk s5 s6 s7 wr => ∃ (i : Nat) (o : List Sn) (u : Value) (s : Sn) (dn : Bool), u = s5 ∧ s6 = .bool dn ∧ s7 = .int .i64 i ∧ i ≤ n ∧ n - i ≤ gk ∧ o.length ≤ 2 * i ∧ Hid (o ++ putS s (l.drop i) dn = putS c l false) ∧ Hid (PutSt w B base wr u o s))
  case atStart => exact ⟨0, [], _, c, false, rfl, rfl, rfl, by omega, by omega, by simp, HS, HP0⟩
  case round =>
    clear HP0 HS
    obtain ⟨i, o, u, s, dn, rfl, rfl, rfl, hi, hgk, ho, HE, HP⟩ := hrel
    by_cases hlt : i < n
    · have hil : i < l.length := by rw [← HNL.out]; exact hlt
      obtain ⟨g, off, rfl, hA⟩ := HR.out (by omega)
      obtain ⟨r0, r1, r2⟩ := Sn.cells (hA.keep HP.out.new) i hil
      have HA := Lib.hid hA
      have HDR : Hid (l.drop i = l[i] :: l.drop (i + 1)) := Lib.hid (List.drop_eq_getElem_cons hil)
      obtain ⟨E, hE⟩ : ∃ E, E = l[i] := ⟨_, rfl⟩
      rw [← hE] at r0 r1 r2 HDR
      have HEE := Lib.hid hE
      clear hE hA
      have k0 := HP.out.c0
      have k1 := HP.out.c1
      have k2 := HP.out.c2
      cases hm : meets E s
      · have KC : Hid (∀ W, Calls Tryz.prog 98 #[.agg #[.int .i64 E.lo, .int .i64 E.hi, .bool E.wk], .agg #[.int .i64 s.lo, .int .i64 s.hi, .bool s.wk]] W fun e w' => e = .returned (.bool false) ∧ New W w') := Lib.hid (fun W => by rw [← hm]; exact KM.out E s W)
        have HM := Lib.hid hm
        clear hm
        go_upto_region 6 with fail
        (refine wp_region_hat (by kernel_rfl) (by kernel_rfl) ?_; intro hatc hatf; (repeat (go_big_quiet_step ((go_at_call 98; exact Calls.hat (KC.out _))))); refine wpQuiet_nil ?_; rintro _ ⟨X, rfl⟩)
        clear hatc hatf
        (replace r0 := New.keep X.h r0; replace r1 := New.keep X.h r1; replace r2 := New.keep X.h r2; replace k0 := New.keep X.h k0; replace k1 := New.keep X.h k1; replace k2 := New.keep X.h k2)
        have HP := Lib.hid (HP.out.keep X.h)
        generalize X.w = W6 at *
        clear X
        cases dn
        · by_cases hg : s.hi < E.lo
          · have hgd : decide (s.hi < E.lo) = true := decide_eq_true hg
            have HE2 : Hid (((o ++ [s]) ++ [E]) ++ putS s (l.drop (i + 1)) true = putS c l false) := Lib.hid (by
              rw [← HE.out, HDR.out, putS, HM.out]; simp [hg])
            clear HE hg
            go_upto_region 8 with fail
            (refine wp_region_hat (by kernel_rfl) (by kernel_rfl) ?_; intro hatc hatf; (repeat (go_big_quiet_step ((fail)))); refine wpQuiet_nil ?_; rintro _ ⟨X, rfl⟩)
            clear hatc hatf
            (replace r0 := New.keep X.h r0; replace r1 := New.keep X.h r1; replace r2 := New.keep X.h r2; replace k0 := New.keep X.h k0; replace k1 := New.keep X.h k1; replace k2 := New.keep X.h k2)
            have HP := Lib.hid (HP.out.keep X.h)
            generalize X.w = W6 at *
            clear X
            have hol : (o).length ≤ 2100 := by (try simp only [List.length_append, List.length_cons, List.length_nil]); omega
            have hzw : base ≤ _ := HP.out.lt.2.2
            go_wp2_with (at_builtin; refine wpList_append_own _ rfl _ _ 24 rfl base 45 i0 (.agg #[.int .i64 0, .int .i64 0, .bool false]) 3 24 Tryz.underlying24 HI.out HZ0.out HZ1.out HZ2.out rfl (by decide) _ (o).length ((o).flatMap Sn.enc) rfl (World.ownsRow.alloc HP.out.own _) ⟨_, 0, none⟩ 1 1 s.enc rfl rfl (sn_new _ _ _) (Sn.enc_one s) (by unfold maxLen; omega) (by omega) (by simp; omega) ?_)
            intro v7 W7 ho7 hg7 _
            have HP := Lib.hid ((HP.out.keep ((New.refl _).alloc _)).more ho7 hg7)
            have n7 : New w W7 := HP.out.new
            (obtain ⟨r0, r1, r2⟩ := Sn.cells (HA.out.keep n7) i hil)
            rw [← HEE.out] at r0 r1 r2
            clear hol hzw ho7 hg7 k0 k1 k2
            have k0 := HP.out.c0
            have k1 := HP.out.c1
            have k2 := HP.out.c2
            obtain ⟨o1, hO1⟩ : ∃ o1, o1 = o ++ [s] := ⟨_, rfl⟩
            rw [← hO1] at HP
            have hl1 : o1.length ≤ 2 * i + 1 := by rw [hO1]; simp; omega
            have HE3 : Hid ((o1 ++ [E]) ++ putS s (l.drop (i + 1)) true = putS c l false) := Lib.hid (by rw [hO1]; exact HE2.out)
            clear hO1 HE2
            have hol : (o1).length ≤ 2100 := by (try simp only [List.length_append, List.length_cons, List.length_nil]); omega
            have hzw : base ≤ _ := HP.out.lt.2.2
            go_wp2_with (at_builtin; refine wpList_append_own _ rfl _ _ 24 rfl base 45 i0 (.agg #[.int .i64 0, .int .i64 0, .bool false]) 3 24 Tryz.underlying24 HI.out HZ0.out HZ1.out HZ2.out rfl (by decide) _ (o1).length ((o1).flatMap Sn.enc) rfl (World.ownsRow.alloc HP.out.own _) ⟨_, 0, none⟩ 1 1 E.enc rfl rfl (sn_new _ _ _) (Sn.enc_one E) (by unfold maxLen; omega) (by omega) (by simp; omega) ?_)
            intro v7 W7 ho7 hg7 _
            have HP := Lib.hid ((HP.out.keep ((New.refl _).alloc _)).more ho7 hg7)
            clear hol hzw ho7 hg7 k0 k1 k2
            go_wp2_with fail
            go_roundg (n - (i + 1))
            case measure => omega
            case rel => exact ⟨i + 1, o1 ++ [E], _, s, true, rfl, rfl, by go_num, by omega, by omega, by simp only [List.length_append, List.length_cons, List.length_nil]; omega, HE3, HP⟩
          · have hgd : decide (s.hi < E.lo) = false := decide_eq_false hg
            have HE2 : Hid ((o ++ [E]) ++ putS s (l.drop (i + 1)) false = putS c l false) := Lib.hid (by
              rw [← HE.out, HDR.out, putS, HM.out]; simp [hg])
            clear HE hg
            go_upto_region 8 with fail
            (refine wp_region_hat (by kernel_rfl) (by kernel_rfl) ?_; intro hatc hatf; (repeat (go_big_quiet_step ((fail)))); refine wpQuiet_nil ?_; rintro _ ⟨X, rfl⟩)
            clear hatc hatf
            (replace r0 := New.keep X.h r0; replace r1 := New.keep X.h r1; replace r2 := New.keep X.h r2; replace k0 := New.keep X.h k0; replace k1 := New.keep X.h k1; replace k2 := New.keep X.h k2)
            have HP := Lib.hid (HP.out.keep X.h)
            generalize X.w = W6 at *
            clear X
            have hol : (o).length ≤ 2100 := by (try simp only [List.length_append, List.length_cons, List.length_nil]); omega
            have hzw : base ≤ _ := HP.out.lt.2.2
            go_wp2_with (at_builtin; refine wpList_append_own _ rfl _ _ 24 rfl base 45 i0 (.agg #[.int .i64 0, .int .i64 0, .bool false]) 3 24 Tryz.underlying24 HI.out HZ0.out HZ1.out HZ2.out rfl (by decide) _ (o).length ((o).flatMap Sn.enc) rfl (World.ownsRow.alloc HP.out.own _) ⟨_, 0, none⟩ 1 1 E.enc rfl rfl (sn_new _ _ _) (Sn.enc_one E) (by unfold maxLen; omega) (by omega) (by simp; omega) ?_)
            intro v7 W7 ho7 hg7 _
            have HP := Lib.hid ((HP.out.keep ((New.refl _).alloc _)).more ho7 hg7)
            clear hol hzw ho7 hg7 k0 k1 k2
            go_wp2_with fail
            go_roundg (n - (i + 1))
            case measure => omega
            case rel => exact ⟨i + 1, o ++ [E], _, s, false, rfl, rfl, by go_num, by omega, by omega, by simp only [List.length_append, List.length_cons, List.length_nil]; omega, HE2, HP⟩
        · have HE2 : Hid ((o ++ [E]) ++ putS s (l.drop (i + 1)) true = putS c l false) := Lib.hid (by
            rw [← HE.out, HDR.out, putS, HM.out]; simp)
          clear HE
          go_upto_region 8 with fail
          (refine wp_region_hat (by kernel_rfl) (by kernel_rfl) ?_; intro hatc hatf; (repeat (go_big_quiet_step ((fail)))); refine wpQuiet_nil ?_; rintro _ ⟨X, rfl⟩)
          clear hatc hatf
          (replace r0 := New.keep X.h r0; replace r1 := New.keep X.h r1; replace r2 := New.keep X.h r2; replace k0 := New.keep X.h k0; replace k1 := New.keep X.h k1; replace k2 := New.keep X.h k2)
          have HP := Lib.hid (HP.out.keep X.h)
          generalize X.w = W6 at *
          clear X
          have hol : (o).length ≤ 2100 := by (try simp only [List.length_append, List.length_cons, List.length_nil]); omega
          have hzw : base ≤ _ := HP.out.lt.2.2
          go_wp2_with (at_builtin; refine wpList_append_own _ rfl _ _ 24 rfl base 45 i0 (.agg #[.int .i64 0, .int .i64 0, .bool false]) 3 24 Tryz.underlying24 HI.out HZ0.out HZ1.out HZ2.out rfl (by decide) _ (o).length ((o).flatMap Sn.enc) rfl (World.ownsRow.alloc HP.out.own _) ⟨_, 0, none⟩ 1 1 E.enc rfl rfl (sn_new _ _ _) (Sn.enc_one E) (by unfold maxLen; omega) (by omega) (by simp; omega) ?_)
          intro v7 W7 ho7 hg7 _
          have HP := Lib.hid ((HP.out.keep ((New.refl _).alloc _)).more ho7 hg7)
          clear hol hzw ho7 hg7 k0 k1 k2
          go_wp2_with fail
          go_roundg (n - (i + 1))
          case measure => omega
          case rel => exact ⟨i + 1, o ++ [E], _, s, true, rfl, rfl, by go_num, by omega, by omega, by simp only [List.length_append, List.length_cons, List.length_nil]; omega, HE2, HP⟩
      · have KC : Hid (∀ W, Calls Tryz.prog 98 #[.agg #[.int .i64 E.lo, .int .i64 E.hi, .bool E.wk], .agg #[.int .i64 s.lo, .int .i64 s.hi, .bool s.wk]] W fun e w' => e = .returned (.bool true) ∧ New W w') := Lib.hid (fun W => by rw [← hm]; exact KM.out E s W)
        obtain ⟨U, hU⟩ : ∃ U, U = un E s := ⟨_, rfl⟩
        have KC2 : Hid (∀ W, Calls Tryz.prog 99 #[.agg #[.int .i64 E.lo, .int .i64 E.hi, .bool E.wk], .agg #[.int .i64 s.lo, .int .i64 s.hi, .bool s.wk]] W fun e w' => e = .returned (.agg #[.int .i64 U.lo, .int .i64 U.hi, .bool U.wk]) ∧ New W w') := Lib.hid (fun W => by rw [hU]; exact KJ.out E s W)
        have HE2 : Hid (o ++ putS U (l.drop (i + 1)) dn = putS c l false) := Lib.hid (by
          rw [← HE.out, HDR.out, putS, if_pos hm, hU])
        clear HE hm hU
        go_upto_region 6 with fail
        (refine wp_region_hat (by kernel_rfl) (by kernel_rfl) ?_; intro hatc hatf; (repeat (go_big_quiet_step ((go_at_call 98; exact Calls.hat (KC.out _))))); refine wpQuiet_nil ?_; rintro _ ⟨X, rfl⟩)
        clear hatc hatf
        (replace r0 := New.keep X.h r0; replace r1 := New.keep X.h r1; replace r2 := New.keep X.h r2; replace k0 := New.keep X.h k0; replace k1 := New.keep X.h k1; replace k2 := New.keep X.h k2)
        have HP := Lib.hid (HP.out.keep X.h)
        generalize X.w = W6 at *
        clear X
        go_upto_region 7 with fail
        (refine wp_region_steady 6 (by kernel_rfl) (by kernel_rfl) ?_; (intro hatc hatf; simp only [List.take_succ_cons, List.take_zero, List.drop_succ_cons, List.drop_zero]; (repeat (first | (refine mildWalk_made (by decide) ?_; simp only [Act.put, List.setIfInBounds_toArray, List.set_cons_zero, List.set_cons_succ]) | (refine mildWalk_step (by decide) (fun K hK => ?_); go_simp; first | (refine hK _ ?_; clear hK K) | (apply Exists.intro; refine ⟨fun _ => ?_, hK _ ?_⟩; (go_at_call 99; exact KC2.out _); clear hK K)))); refine mildWalk_nil ?_; (try simp only [List.setIfInBounds_toArray, List.set_cons_zero, List.set_cons_succ])))
        intro x
        clear hatc hatf
        have HP := Lib.hid (HP.out.keep x.h)
        generalize x.w = W3 at *
        clear r0 r1 r2 k0 k1 k2
        have HT := Lib.hid HP.out.there
        have HP := Lib.hid (HP.out.join U)
        go_wp2_with (refine wpList_store_mid rfl 45 _ _ rfl B 0 #[.int .i64 U.lo, .int .i64 U.hi, .bool U.wk] rfl rfl HT.out (by kernel_rfl) (all_oneCell_toArray (Sn.enc_one U)) ?_)
        clear HT
        go_wp2_with fail
        go_roundg (n - (i + 1))
        case measure => omega
        case rel => exact ⟨i + 1, o, _, U, dn, rfl, rfl, by go_num, by omega, by omega, by omega, HE2, HP⟩
    · have e : i = n := by omega
      subst e
      have hdr : l.drop i = [] := List.drop_eq_nil_of_le (by have := HNL.out; omega)
      have k0 := HP.out.c0
      have k1 := HP.out.c1
      have k2 := HP.out.c2
      cases dn
      · have HE2 : Hid (o ++ [s] = putS c l false) := Lib.hid (by rw [← HE.out, hdr]; rfl)
        clear HE hdr
        have hol : (o).length ≤ 2100 := by (try simp only [List.length_append, List.length_cons, List.length_nil]); omega
        have hzw : base ≤ _ := HP.out.lt.2.2
        go_wp2_with (at_builtin; refine wpList_append_own _ rfl _ _ 24 rfl base 45 i0 (.agg #[.int .i64 0, .int .i64 0, .bool false]) 3 24 Tryz.underlying24 HI.out HZ0.out HZ1.out HZ2.out rfl (by decide) _ (o).length ((o).flatMap Sn.enc) rfl (World.ownsRow.alloc HP.out.own _) ⟨_, 0, none⟩ 1 1 s.enc rfl rfl (sn_new _ _ _) (Sn.enc_one s) (by unfold maxLen; omega) (by omega) (by simp; omega) ?_)
        intro v7 W7 ho7 hg7 _
        have HP := Lib.hid ((HP.out.keep ((New.refl _).alloc _)).more ho7 hg7)
        clear hol hzw ho7 hg7 k0 k1 k2
        go_wp2_with fail
        go_ret
        exact ⟨_, rfl, by rw [← HE2.out]; exact own_sl Sn.enc_len HP.out.own, HP.out.new⟩
      · have HE2 : Hid (o = putS c l false) := Lib.hid (by rw [← HE.out, hdr]; simp [putS])
        clear HE hdr
        go_wp2_with fail
        go_ret
        exact ⟨_, rfl, by rw [← HE2.out]; exact own_sl Sn.enc_len HP.out.own, HP.out.new⟩

end Go.Proofs.YtklopjbpfddgfaaGreat

/- The document's own Check, Put, Solid, Same. -/
namespace Go.Proofs.YtklopjbpfddgfaaGreat
open Go.RowKit
set_option linter.unusedVariables false

theorem Sl.with_eq {α : Type} {enc : α → List Value} {k : Nat} {w : World} {v : Value} {l : List α} (h : Sl enc k w v l) : ∃ a c, v = .slice a l.length c ∧ True := by
  obtain ⟨a, c, e, _⟩ := h
  exact ⟨a, c, e, trivial⟩

set_option maxHeartbeats 4000000 in
set_option maxRecDepth 100000 in
theorem rs_check (at0 : Option Addr) (l : List Sn) (c : Nat) (hl : l.length ≤ maxLen) (w : World) (H : RowIn Sn.enc 3 w at0 l) :
    Calls Tryz.prog 18 #[.slice at0 l.length c] w fun e w' => e = .returned (.int .i64 (spE l)) ∧ New w w' := by
  have KM := Lib.hid (fun p W => r_may p W)
  have HH := Lib.hid H
  unfold maxLen at hl
  clear H
  obtain ⟨r, hr⟩ : ∃ r, r = spE l := ⟨_, rfl⟩
  rw [← hr]
  have HR := Lib.hid hr
  obtain ⟨n, hn⟩ : ∃ n, n = l.length := ⟨_, rfl⟩
  rw [← hn] at hl ⊢
  have HN := Lib.hid hn
  clear hn hr
  go_enter Tryz.func18, Tryz.ntmps18
  go_wp2_with fail
  · rename_i h8
    have HE : Hid (r = 2) := Lib.hid (by rw [HR.out]; exact chkE_long (by have := HN.out; omega))
    go_ret
    exact ⟨by rw [HE.out]; rfl, by (repeat (first | (with_reducible exact New.refl _) | (with_reducible assumption) | ((with_reducible refine New.setB ?_ ?_ _); focus (first | omega | (simp; omega) | (simp; done))) | (with_reducible refine New.alloc ?_ _) | (with_reducible refine New.drew ?_) | (with_reducible refine New.drewN ?_ _) | (with_reducible refine New.hat ?_ _) | ((with_reducible apply New.snart); (with_reducible assumption))))⟩
  · rename_i h8
    go_loopg [3] n (fun gk s3 wr => ∃ i : Nat, s3 = .int .i64 i ∧ i ≤ n ∧ n - i ≤ gk ∧ Hid (∀ j (h : j < l.length), j < i → badS l[j] = false) ∧ Hid (∀ j (h : j + 1 < l.length), j + 1 < i → l[j].hi < l[j + 1].lo) ∧ Hid (New w wr))
    case atStart => exact ⟨0, rfl, by omega, by omega, Lib.hid (fun j h hj => by omega), Lib.hid (fun j h hj => by omega), Lib.hid (by (repeat (first | (with_reducible exact New.refl _) | (with_reducible assumption) | ((with_reducible refine New.setB ?_ ?_ _); focus (first | omega | (simp; omega) | (simp; done))) | (with_reducible refine New.alloc ?_ _) | (with_reducible refine New.drew ?_) | (with_reducible refine New.drewN ?_ _) | (with_reducible refine New.hat ?_ _) | ((with_reducible apply New.snart); (with_reducible assumption)))))⟩
    case round =>
      obtain ⟨i, rfl, hi, hgk, HB, HS, hnr⟩ := hrel
      by_cases hlt : i < n
      · have hil : i < l.length := by rw [← HN.out]; exact hlt
        obtain ⟨b0, off, rfl, hA⟩ := HH.out (by omega)
        have hA' := hA.keep hnr.out
        obtain ⟨c0, c1, c2⟩ := Sn.cells hA' i hil
        have HA := Lib.hid hA'
        clear hA hA'
        obtain ⟨E, hE⟩ : ∃ E, E = l[i] := ⟨_, rfl⟩
        rw [← hE] at c0 c1 c2
        have HEE := Lib.hid hE
        clear hE
        cases hb : badS E
        · have KC : Hid (∀ W, Calls Tryz.prog 27 #[.agg #[.int .i64 E.lo, .int .i64 E.hi, .bool E.wk]] W fun e w' => e = .returned (.bool true) ∧ New W w') := Lib.hid (fun W => by have := KM.out E W; rw [hb] at this; exact this)
          have HBE := Lib.hid hb
          have hall : Hid (∀ j (h : j < l.length), j < i + 1 → badS l[j] = false) := Lib.hid (fun j h hj => by
            by_cases e : j < i
            · exact HB.out j h e
            · have e2 : j = i := by omega
              subst e2
              rw [← HEE.out]; exact hb)
          clear hb HB
          by_cases hi0 : i = 0
          · have hgt : decide (0 < i) = false := decide_eq_false (by omega)
            have HI0 := Lib.hid hi0
            clear hi0
            go_upto_region 6 with fail
            (refine wp_region_hat (by kernel_rfl) (by kernel_rfl) ?_; intro hatc hatf; (repeat (go_big_quiet_step ((go_at_call 27; exact Calls.hat (KC.out _))))); refine wpQuiet_nil ?_; rintro _ ⟨X, rfl⟩)
            clear hatc hatf
            have n2 := Lib.hid (hnr.out.trans X.h)
            generalize X.w = W2 at *
            clear X c0 c1 c2
            go_wp2_with fail
            go_roundg (n - (i + 1))
            case measure => omega
            case rel => exact ⟨i + 1, by go_num, by omega, by omega, hall, Lib.hid (fun j h hj => by have := HI0.out; omega), n2⟩
          · obtain ⟨d0, d1, d2⟩ := Sn.cells HA.out (i - 1) (by omega)
            have hz : IntKind.i64.wrap ((i : Int) - 1) = ((i - 1 : Nat) : Int) := by rw [IntWalk.i64_in _ (by omega)]; omega
            have hlt2 : i - 1 < n := by omega
            have hgt : decide (0 < i) = true := decide_eq_true (by omega)
            obtain ⟨y, hy⟩ : ∃ y, y = l[i - 1].hi := ⟨_, rfl⟩
            rw [← hy] at d1
            have HY := Lib.hid hy
            clear hy d0 d2
            by_cases hm : E.lo ≤ y
            · have hm' : decide (E.lo ≤ y) = true := decide_eq_true hm
              have HE : Hid (r = 2) := Lib.hid (by
                rw [HR.out]
                refine chkE_meet (i - 1) (by omega) ?_
                have e : i - 1 + 1 = i := by omega
                simp only [e]
                rw [← HEE.out, ← HY.out]; exact hm)
              go_upto_region 6 with fail
              (refine wp_region_hat (by kernel_rfl) (by kernel_rfl) ?_; intro hatc hatf; (repeat (go_big_quiet_step ((go_at_call 27; exact Calls.hat (KC.out _))))); refine wpQuiet_nil ?_; rintro _ ⟨X, rfl⟩)
              clear hatc hatf
              have n2 := hnr.out.trans X.h
              generalize X.w = W2 at *
              clear X
              go_wp2_with fail
              go_ret
              exact ⟨by rw [HE.out]; rfl, n2⟩
            · have hm' : decide (E.lo ≤ y) = false := decide_eq_false hm
              have HM := Lib.hid hm
              clear hm
              go_upto_region 6 with fail
              (refine wp_region_hat (by kernel_rfl) (by kernel_rfl) ?_; intro hatc hatf; (repeat (go_big_quiet_step ((go_at_call 27; exact Calls.hat (KC.out _))))); refine wpQuiet_nil ?_; rintro _ ⟨X, rfl⟩)
              clear hatc hatf
              have n2 := Lib.hid (hnr.out.trans X.h)
              generalize X.w = W2 at *
              clear X
              go_wp2_with fail
              go_roundg (n - (i + 1))
              case measure => omega
              case rel =>
                refine ⟨i + 1, by go_num, by omega, by omega, hall, Lib.hid (fun j h hj => ?_), n2⟩
                by_cases e : j + 1 < i
                · exact HS.out j h e
                · have e2 : j + 1 = i := by omega
                  subst e2
                  have := HM.out
                  rw [HY.out, HEE.out] at this
                  simpa using this
        · have KC : Hid (∀ W, Calls Tryz.prog 27 #[.agg #[.int .i64 E.lo, .int .i64 E.hi, .bool E.wk]] W fun e w' => e = .returned (.bool false) ∧ New W w') := Lib.hid (fun W => by have := KM.out E W; rw [hb] at this; exact this)
          have HE : Hid (r = 2) := Lib.hid (by
            rw [HR.out]
            exact chkE_bad (List.any_eq_true.2 ⟨l[i], List.getElem_mem hil, by rw [← HEE.out]; exact hb⟩))
          clear hb
          go_upto_region 6 with fail
          (refine wp_region_hat (by kernel_rfl) (by kernel_rfl) ?_; intro hatc hatf; (repeat (go_big_quiet_step ((go_at_call 27; exact Calls.hat (KC.out _))))); refine wpQuiet_nil ?_; rintro _ ⟨X, rfl⟩)
          clear hatc hatf
          have n2 := hnr.out.trans X.h
          generalize X.w = W2 at *
          clear X
          go_wp2_with fail
          go_ret
          exact ⟨by rw [HE.out]; rfl, n2⟩
      · have HE : Hid (r = 0) := Lib.hid (by
          rw [HR.out]
          refine chkE_fine (by have := HN.out; omega) ?_ (fun j h => HS.out j h (by have := HN.out; omega))
          unfold fstB
          rw [List.any_eq_false]
          intro p hp
          obtain ⟨j, hj, rfl⟩ := List.getElem_of_mem hp
          rw [HB.out j hj (by have := HN.out; omega)]; simp)
        go_wp2_with fail
        go_ret
        exact ⟨by rw [HE.out]; rfl, hnr.out⟩

end Go.Proofs.YtklopjbpfddgfaaGreat

/- The document's own Floors. -/
namespace Go.Proofs.YtklopjbpfddgfaaGreat
open Go.RowKit
set_option linter.unusedVariables false

/-- The floors of the first i spans. -/
def flF (C : CfgR) (l : List Sn) (i : Nat) : List Fl := ((List.range i).filter (opnB C l)).map (flOf l)
theorem flF_succ (C : CfgR) (l : List Sn) (i : Nat) : flF C l (i + 1) = flF C l i ++ (if opnB C l i = true then [flOf l i] else []) := by
  unfold flF
  rw [List.range_succ, List.filter_append, List.map_append]
  cases h : opnB C l i <;> simp [h]
theorem flF_all {C : CfgR} {l : List Sn} (h : fiE C l = 0) : flF C l l.length = flX C l := by unfold flF flX opX opL; rw [if_pos h]
theorem flF_len (C : CfgR) (l : List Sn) (i : Nat) : (flF C l i).length ≤ i := by
  unfold flF
  rw [List.length_map]
  have := List.length_filter_le (opnB C l) (List.range i)
  rwa [List.length_range] at this

set_option maxHeartbeats 4000000 in
set_option maxRecDepth 100000 in
theorem rg_Floors (C : CfgR) (at0 : Option Addr) (l : List Sn) (cap : Nat) (w : World) (h : Sl Sn.enc 3 w (.slice at0 l.length cap) l) :
    Calls Tryz.prog 8 #[.agg #[.int .i64 C.cl, .int .i64 C.cb, .int .i64 C.ht, .int .i64 C.ri, .int .i64 C.ru, .int .i64 C.wd, .int .i64 C.dp], .slice at0 l.length cap] w fun e w' => ∃ v, e = .returned (.tuple #[v, .int .i64 (fiE C l)]) ∧ w'.ownsRow w.heap.size 42 3 v (flX C l).length ((flX C l).flatMap Fl.enc) ∧ New w w' := by
  obtain ⟨i0, hi, hz0, hz1, hz2⟩ := info_parts fl_info
  have HI := Lib.hid hi
  have hlm : l.length ≤ maxLen := by obtain ⟨_, h1, h2, _⟩ := h.row'; omega
  have HH := Lib.hid (h.row'.2.2.2.2)
  have KC := Lib.hid (fun W => rcheck_any C.cl C.cb C.ht C.ri C.ru C.wd C.dp W)
  have KS := Lib.hid (fun W n => rs_check at0 l cap hlm W ((h.keep (n : New w W)).row'.2.2.2.2))
  have h2 := fi_err_two C
  have h3 := chkE_two l
  obtain ⟨r, hr⟩ : ∃ r, r = C.err := ⟨_, rfl⟩
  obtain ⟨q, hq⟩ : ∃ q, q = spE l := ⟨_, rfl⟩
  obtain ⟨f, hf⟩ : ∃ f, f = fiE C l := ⟨_, rfl⟩
  have HF : Hid (f = if r = 0 then q else r) := Lib.hid (by rw [hf, hr, hq]; rfl)
  rw [show checkE C.cl C.cb C.ht C.ri C.ru C.wd C.dp = r from hr.symm] at KC
  rw [← hr] at h2
  rw [← hq] at h3 KS
  rw [← hf]
  have HE := Lib.hid (And.intro hr (And.intro hq hf))
  clear hr hq hf hi h hlm
  obtain ⟨n, hn⟩ : ∃ n, n = l.length := ⟨_, rfl⟩
  rw [← hn] at KS ⊢
  have HN := Lib.hid hn
  clear hn
  go_enter Tryz.func8, Tryz.ntmps8
  go_upto_region 1 with fail
  refine Code.at (fun W0 hW => ?_)
  have n0 : New w W0 := by subst hW; (repeat (first | (with_reducible exact New.refl _) | (with_reducible assumption) | ((with_reducible refine New.setB ?_ ?_ _); focus (first | omega | (simp; omega) | (simp; done))) | (with_reducible refine New.alloc ?_ _) | (with_reducible refine New.drew ?_) | (with_reducible refine New.drewN ?_ _) | (with_reducible refine New.hat ?_ _) | ((with_reducible apply New.snart); (with_reducible assumption))))
  have hc : CellsAt W0 w.heap.size 0 C.enc := by subst hW; exact cells_new _ _ _
  clear hW
  obtain ⟨c0, c1, c2, c3, c4, c5, c6⟩ := CfgR.at hc
  go_wp2_with fail
  refine (KC.out _).mono ?_
  rintro e w1 ⟨rfl, n1, -⟩
  have hn1 : New w w1 := n0.trans n1
  have hc1 := Lib.hid (hc.keep n1)
  clear c0 c1 c2 c3 c4 c5 c6 hc n1 n0 KC
  rcases h2 with rfl | rfl
  rotate_left
  · have HO : Hid (flX C l = [] ∧ f = 20) := Lib.hid (by
      have e : f = 20 := HF.out
      exact ⟨flX_bad (by rw [← HE.out.2.2, e]; decide), e⟩)
    go_wp2_with fail
    rw [HO.out.2]
    refine bodyPost_ret (v := .tuple #[.slice none 0 0, .int .i64 20]) (by simp [results, Tryz.results8, go_sem, *]) rfl ?_
    exact ⟨_, rfl, by rw [HO.out.1]; exact World.ownsRow_nil _ _ _ _, hn1⟩
  go_wp2_with fail
  refine (KS.out _ hn1).mono ?_
  rintro e w2 ⟨rfl, n2⟩
  have hn2 : New w w2 := hn1.trans n2
  have hc2 := Lib.hid (hc1.out.keep n2)
  clear n2 hn1 hc1
  rcases h3 with rfl | rfl
  rotate_left
  · have HO : Hid (flX C l = [] ∧ f = 2) := Lib.hid (by
      have e : f = 2 := HF.out
      exact ⟨flX_bad (by rw [← HE.out.2.2, e]; decide), e⟩)
    go_wp2_with fail
    rw [HO.out.2]
    refine bodyPost_ret (v := .tuple #[.slice none 0 0, .int .i64 2]) (by simp [results, Tryz.results8, go_sem, *]) rfl ?_
    exact ⟨_, rfl, by rw [HO.out.1]; exact World.ownsRow_nil _ _ _ _, hn2⟩
  have hf0 : f = 0 := HF.out
  have HO : Hid (flF C l l.length = flX C l) := Lib.hid (flF_all (by rw [← HE.out.2.2]; exact hf0))
  have hl8 : n ≤ 8 := by rw [HN.out]; exact (chkE_zero HE.out.2.1.symm).1
  have HPR := Lib.hid (chkE_zero HE.out.2.1.symm).2.1
  subst hf0
  have hwz := hn2.size
  have N2 := Lib.hid hn2
  clear hn2
  go_wp2_with fail
  go_loopg [7, 6] n (fun gk s7 s6 wr => ∃ (i : Nat) (ra : Option Addr) (rn rc : Nat), s7 = .int .i64 i ∧ s6 = .slice ra rn rc ∧ i ≤ n ∧ n - i ≤ gk ∧ Hid (wr.ownsRow w2.heap.size 42 3 (.slice ra rn rc) (flF C l i).length ((flF C l i).flatMap Fl.enc)) ∧ Hid (New w2 wr))
  case atStart => exact ⟨0, none, 0, 0, rfl, rfl, by omega, by omega, Lib.hid (World.ownsRow_nil _ _ _ _), Lib.hid (New.refl _)⟩
  case round =>
    obtain ⟨i, ra, rn, rc, rfl, rfl, hi', hgk, HW, hnr⟩ := hrel
    by_cases hlt : i < n
    · obtain ⟨c0, c1, c2, c3, c4, c5, c6⟩ := CfgR.at (hc2.out.keep hnr.out)
      have hil : i < l.length := by rw [← HN.out]; exact hlt
      obtain ⟨b0, off, rfl, hA⟩ := HH.out (by omega)
      have hA' := hA.keep (N2.out.trans hnr.out)
      obtain ⟨-, d1, d2⟩ := Sn.cells hA' i hil
      have hfs := flF_succ C l i
      have hfl := flF_len C l i
      rw [flOf_at hil] at hfs
      have hop := opnB_at C hil
      have hb1 := HPR.out _ (List.getElem_mem hil)
      have hi1 : IntKind.i64.wrap ((i : Int) + 1) = ((i + 1 : Nat) : Int) := by rw [IntWalk.i64_in _ (by omega)]; omega
      obtain ⟨top, htop⟩ : ∃ q, q = roofF l i := ⟨_, rfl⟩
      rw [← htop] at hfs hop
      have htb : -2048 ≤ top ∧ top ≤ 1048576 := by
        by_cases h1 : i + 1 < l.length
        · rw [htop, roofF_mid h1]
          have := HPR.out _ (List.getElem_mem h1)
          omega
        · rw [htop, roofF_last (by omega)]
          omega
      rw [wrap64_in (by omega)] at hop
      have hwt : IntKind.i64.wrap (top - l[i].hi) = top - l[i].hi := IntWalk.i64_in _ (by omega)
      obtain ⟨y, hy⟩ : ∃ q, q = l[i].hi := ⟨_, rfl⟩
      rw [← hy] at d1 hfs hop hwt
      obtain ⟨wk, hwk⟩ : ∃ q, q = l[i].wk := ⟨_, rfl⟩
      rw [← hwk] at d2 hop
      have HNX := Lib.hid (fun h1 => roofF_mid (l := l) (k := i) h1)
      have HLA := Lib.hid (fun h1 => roofF_last (l := l) (k := i) h1)
      have HTP := Lib.hid htop
      have HROW := Lib.hid hA'
      have nr := hnr.out
      clear hA hA' htop hy hwk hb1 htb hnr
      go_upto_if 25 with (fail)
      go_cut [8] (fun s8 Z => s8 = .int .i64 top ∧ Z = wr)
      case first =>
        by_cases h1 : i + 1 < n
        · have hd : decide (((i + 1 : Nat) : Int) < (n : Int)) = true := decide_eq_true (by omega)
          have hil1 : i + 1 < l.length := by rw [← HN.out]; exact h1
          obtain ⟨e0, -, -⟩ := Sn.cells HROW.out (i + 1) hil1
          have ht : l[i + 1].lo = top := by rw [HTP.out, HNX.out hil1]
          rw [ht] at e0
          clear ht
          go_wp2_with fail
          all_goals
            go_meet
            first
            | exact ⟨rfl, rfl⟩
            | (exfalso; omega)
        · have hd : decide (((i + 1 : Nat) : Int) < (n : Int)) = false := decide_eq_false (by omega)
          have ht : Hid (top = 1048576) := Lib.hid (by rw [HTP.out, HLA.out (by rw [← HN.out]; omega)])
          go_wp2_with fail
          all_goals
            go_meet
            exact ⟨by rw [ht.out], rfl⟩
      case rest =>
        obtain ⟨rfl, hZ⟩ := hcut
        obtain rfl : wr = _ := hZ.symm
        have hlen := flF_len C l i
        cases wk
        · rw [Bool.false_and] at hop
          rw [hop] at hfs
          simp only [Bool.false_eq_true, if_false, List.append_nil] at hfs
          have HFS := Lib.hid hfs
          clear hfs hop hwt
          go_upto_region 12 with fail
          (refine wp_region_hat (by kernel_rfl) (by kernel_rfl) ?_; intro hatc hatf; (repeat (go_big_quiet_step ((fail)))); refine wpQuiet_nil ?_; rintro _ ⟨X, rfl⟩)
          clear hatc hatf
          have nx := Lib.hid (nr.trans X.h)
          have HW3 := Lib.hid (own_new HW.out X.h)
          generalize X.w = W3 at *
          clear X c0 c1 c2 c3 c4 c5 c6 d1 d2
          go_wp2_with fail
          go_roundg (n - (i + 1))
          case measure => omega
          case rel => exact ⟨i + 1, ra, rn, rc, by go_num, rfl, by omega, by omega, by rw [HFS.out]; exact HW3, nx⟩
        · rw [Bool.true_and] at hop
          cases hb : decide (C.ht ≤ top - y)
          · rw [hb] at hop
            rw [hop] at hfs
            simp only [Bool.false_eq_true, if_false, List.append_nil] at hfs
            have HFS := Lib.hid hfs
            have hb2 : decide (top - y ≥ C.ht) = false := hb
            clear hfs hop
            go_upto_region 12 with fail
            (refine wp_region_hat (by kernel_rfl) (by kernel_rfl) ?_; intro hatc hatf; (repeat (go_big_quiet_step ((fail)))); refine wpQuiet_nil ?_; rintro _ ⟨X, rfl⟩)
            clear hatc hatf
            have nx := Lib.hid (nr.trans X.h)
            have HW3 := Lib.hid (own_new HW.out X.h)
            generalize X.w = W3 at *
            clear X c0 c1 c2 c3 c4 c5 c6 d1 d2
            go_wp2_with fail
            go_roundg (n - (i + 1))
            case measure => omega
            case rel => exact ⟨i + 1, ra, rn, rc, by go_num, rfl, by omega, by omega, by rw [HFS.out]; exact HW3, nx⟩
          · rw [hb] at hop
            rw [hop] at hfs
            simp only [if_true] at hfs
            have HFS := Lib.hid hfs
            have hb2 : decide (top - y ≥ C.ht) = true := hb
            clear hfs hop
            go_upto_region 12 with fail
            (refine wp_region_hat (by kernel_rfl) (by kernel_rfl) ?_; intro hatc hatf; (repeat (go_big_quiet_step ((fail)))); refine wpQuiet_nil ?_; rintro _ ⟨X, rfl⟩)
            clear hatc hatf
            have nx := nr.trans X.h
            have own3 := own_new HW.out X.h
            have hr3 : w2.heap.size ≤ X.w.heap.size := nx.size
            replace d1 := New.keep X.h d1
            generalize X.w = W3 at *
            clear X c0 c1 c2 c3 c4 c5 c6 d2
            have hbz := World.block_lt_of_cell? _ _ d1
            have hi2 := HI.out
            go_wp2_with (at_builtin; refine wpList_append_own_at _ rfl _ _ 28 rfl w2.heap.size 42 i0 _ 3 24 Tryz.underlying28 hi2 hz0 hz1 hz2 rfl (by decide) _ _ _ rfl (own3.alloc _) ⟨W3.heap.size, 0, none⟩ 1 1 ((⟨y, top, 1⟩ : Fl)).enc rfl rfl (fl_new W3 ⟨y, top, 1⟩ _) (Fl.enc_one _) (by unfold maxLen; omega) (by omega) (by simp; omega) ?_; intro v' w4 hown' hgrow _ hat; obtain ⟨a', d', N', hN', rfl⟩ := own_shape2 hown'; clear hN')
            have hn4 := Lib.hid (newGrown (New.alloc nx _) hgrow (own_block own3))
            have HW4 := Lib.hid hown'
            clear hown' hgrow hat
            go_roundg (n - (i + 1))
            case measure => omega
            case rel => exact ⟨i + 1, a', N', d', by go_num, rfl, by omega, by omega, Lib.hid (by rw [HFS.out]; simpa using HW4.out), hn4⟩
    · obtain rfl : i = n := by omega
      go_wp2_with fail
      refine bodyPost_ret (v := .tuple #[.slice ra rn rc, .int .i64 0]) (by simp [results, Tryz.results8, go_sem, *]) rfl ?_
      refine ⟨_, rfl, ?_, N2.out.trans hnr.out⟩
      have h5 := ownsRow_down HW.out hwz
      rw [HN.out, HO.out] at h5
      exact h5

end Go.Proofs.YtklopjbpfddgfaaGreat

/- The document's Normal of a triangle. -/
namespace Go.Proofs.YtklopjbpfddgfaaGreat
open Go.RowKit
set_option linter.unusedVariables false

def badB (x y z : Int) : Bool := decide (x < 0) || (decide (32 < x) || (decide (z < 0) || (decide (32 < z) || (decide (y < -2048) || decide (2048 < y)))))
theorem badB_iff {x y z : Int} : badB x y z = false ↔ StV 32 32 x y z := by
  unfold badB StV
  simp only [Bool.or_eq_false_iff, decide_eq_false_iff_not]
  omega
theorem bad_st (x0 y0 z0 x1 y1 z1 x2 y2 z2 : Int) : stB 32 32 x0 y0 z0 x1 y1 z1 x2 y2 z2 = (!badB x0 y0 z0 && (!badB x1 y1 z1 && !badB x2 y2 z2)) := by
  rw [Bool.eq_iff_iff, stB_iff]
  unfold StP
  simp only [Bool.and_eq_true, Bool.not_eq_true', badB_iff]

set_option maxHeartbeats 4000000 in
set_option maxRecDepth 100000 in
theorem r_normal (i x0 y0 z0 x1 y1 z1 x2 y2 z2 : Int) (w : World) :
    Calls Tryz.prog 74 #[.agg #[.int .i64 i, .int .i64 x0, .int .i64 y0, .int .i64 z0, .int .i64 x1, .int .i64 y1, .int .i64 z1, .int .i64 x2, .int .i64 y2, .int .i64 z2]] w fun e w' => e = .returned (.tuple #[.int .i64 (normX x0 y0 z0 x1 y1 z1 x2 y2 z2), .int .i64 (normY x0 y0 z0 x1 y1 z1 x2 y2 z2), .int .i64 (normZ x0 y0 z0 x1 y1 z1 x2 y2 z2), .int .i64 (normE x0 y0 z0 x1 y1 z1 x2 y2 z2)]) ∧ New w w' := by
  obtain ⟨X, hX⟩ : ∃ X, X = normX x0 y0 z0 x1 y1 z1 x2 y2 z2 := ⟨_, rfl⟩
  obtain ⟨Y, hY⟩ : ∃ X, X = normY x0 y0 z0 x1 y1 z1 x2 y2 z2 := ⟨_, rfl⟩
  obtain ⟨Z, hZ⟩ : ∃ X, X = normZ x0 y0 z0 x1 y1 z1 x2 y2 z2 := ⟨_, rfl⟩
  obtain ⟨E, hE⟩ : ∃ X, X = normE x0 y0 z0 x1 y1 z1 x2 y2 z2 := ⟨_, rfl⟩
  rw [← hX, ← hY, ← hZ, ← hE]
  obtain ⟨k0, hk0⟩ : ∃ b, b = badB x0 y0 z0 := ⟨_, rfl⟩
  obtain ⟨k1, hk1⟩ : ∃ b, b = badB x1 y1 z1 := ⟨_, rfl⟩
  obtain ⟨k2, hk2⟩ : ∃ b, b = badB x2 y2 z2 := ⟨_, rfl⟩
  have hst : stB 32 32 x0 y0 z0 x1 y1 z1 x2 y2 z2 = (!k0 && (!k1 && !k2)) := by rw [bad_st, hk0, hk1, hk2]
  have HB : Hid ((k0 || (k1 || k2)) = true → X = 0 ∧ Y = 0 ∧ Z = 0 ∧ E = 40) := by
    show _ → _
    intro h
    have : okB x0 y0 z0 x1 y1 z1 x2 y2 z2 = false := by
      unfold okB; rw [hst]; revert h; cases k0 <;> cases k1 <;> cases k2 <;> simp
    rw [hX, hY, hZ, hE]
    exact norm_no this
  have HG : Hid (k0 = false → k1 = false → k2 = false → StP 32 32 x0 y0 z0 x1 y1 z1 x2 y2 z2 ∧ (nyI x0 y0 z0 x1 y1 z1 x2 y2 z2 = 0 → X = 0 ∧ Y = 0 ∧ Z = 0 ∧ E = 40) ∧
      (¬ nyI x0 y0 z0 x1 y1 z1 x2 y2 z2 = 0 → X = nxI x0 y0 z0 x1 y1 z1 x2 y2 z2 ∧ Y = nyI x0 y0 z0 x1 y1 z1 x2 y2 z2 ∧ Z = nzI x0 y0 z0 x1 y1 z1 x2 y2 z2 ∧ E = 0)) := by
    show _ → _
    intro h0 h1 h2
    have hs : stB 32 32 x0 y0 z0 x1 y1 z1 x2 y2 z2 = true := by rw [hst, h0, h1, h2]; rfl
    refine ⟨stB_iff.1 hs, fun hy => ?_, fun hy => ?_⟩
    · rw [hX, hY, hZ, hE]
      exact norm_no (by unfold okB; rw [hs]; simp [hy])
    · rw [hX, hY, hZ, hE]
      exact norm_yes (by unfold okB; rw [hs]; simp [hy])
  have K0 : Hid _ := hk0
  have K1 : Hid _ := hk1
  have K2 : Hid _ := hk2
  clear hX hY hZ hE hk0 hk1 hk2 hst
  go_enter Tryz.func74, Tryz.ntmps74
  go_wp2_with fail
  generalize hW : World.alloc _ _ = W0
  (have c0 : (W0).cell? ⟨w.heap.size, 0, none⟩ = some (.int .i64 i) := (by subst hW; go_simp)); (have c1 : (W0).cell? ⟨w.heap.size, 1, none⟩ = some (.int .i64 x0) := (by subst hW; go_simp)); (have c2 : (W0).cell? ⟨w.heap.size, 2, none⟩ = some (.int .i64 y0) := (by subst hW; go_simp)); (have c3 : (W0).cell? ⟨w.heap.size, 3, none⟩ = some (.int .i64 z0) := (by subst hW; go_simp)); (have c4 : (W0).cell? ⟨w.heap.size, 4, none⟩ = some (.int .i64 x1) := (by subst hW; go_simp)); (have c5 : (W0).cell? ⟨w.heap.size, 5, none⟩ = some (.int .i64 y1) := (by subst hW; go_simp)); (have c6 : (W0).cell? ⟨w.heap.size, 6, none⟩ = some (.int .i64 z1) := (by subst hW; go_simp)); (have c7 : (W0).cell? ⟨w.heap.size, 7, none⟩ = some (.int .i64 x2) := (by subst hW; go_simp)); (have c8 : (W0).cell? ⟨w.heap.size, 8, none⟩ = some (.int .i64 y2) := (by subst hW; go_simp)); (have c9 : (W0).cell? ⟨w.heap.size, 9, none⟩ = some (.int .i64 z2) := (by subst hW; go_simp))
  have hn : New w W0 := by subst hW; (repeat (first | (with_reducible exact New.refl _) | (with_reducible assumption) | ((with_reducible refine New.setB ?_ ?_ _); focus (first | omega | (simp; omega) | (simp; done))) | (with_reducible refine New.alloc ?_ _) | (with_reducible refine New.drew ?_) | (with_reducible refine New.drewN ?_ _) | (with_reducible refine New.hat ?_ _) | ((with_reducible apply New.snart); (with_reducible assumption))))
  have zz := World.block_lt_of_cell? _ _ c1
  simp only [] at zz
  clear hW
  refine wp_loop_rounds 4 ?_
  rw [rounds_succ]
  go_upto_region 5 with fail
  go_cut [55] (fun s55 Z => s55 = .bool k0 ∧ New W0 Z)
  case first =>
    clear HB HG
    go_wp2_with fail
    all_goals
      go_meet
      refine ⟨?_, by (repeat (first | (with_reducible exact New.refl _) | (with_reducible assumption) | ((with_reducible refine New.setB ?_ ?_ _); focus (first | omega | (simp; omega) | (simp; done))) | (with_reducible refine New.alloc ?_ _) | (with_reducible refine New.drew ?_) | (with_reducible refine New.drewN ?_ _) | (with_reducible refine New.hat ?_ _) | ((with_reducible apply New.snart); (with_reducible assumption))))⟩
      rw [show k0 = _ from K0.out]
      refine congrArg Value.bool ?_
      unfold badB
      rw [Bool.eq_iff_iff]
      simp only [Bool.or_eq_true, decide_eq_true_eq, true_iff]
      omega
  case rest =>
    obtain ⟨rfl, nZ⟩ := hcut
    ((replace c0 := New.keep nZ c0); (replace c1 := New.keep nZ c1); (replace c2 := New.keep nZ c2); (replace c3 := New.keep nZ c3); (replace c4 := New.keep nZ c4); (replace c5 := New.keep nZ c5); (replace c6 := New.keep nZ c6); (replace c7 := New.keep nZ c7); (replace c8 := New.keep nZ c8); (replace c9 := New.keep nZ c9))
    replace hn := hn.trans nZ
    clear nZ
    rename World => W1
    replace zz := World.block_lt_of_cell? _ _ c1
    simp only [] at zz
    cases k0
    rotate_left
    · have hb := HB.out (by simp)
      have hb' : Hid _ := hb
      clear hb HB HG K0 K1 K2
      go_wp2_with fail
      refine bodyPost_ret (v := .tuple #[.int .i64 0, .int .i64 0, .int .i64 0, .int .i64 40]) (by simp [results, Tryz.results74, go_sem]) rfl ?_
      rw [hb'.out.1, hb'.out.2.1, hb'.out.2.2.1, hb'.out.2.2.2]
      exact ⟨rfl, hn⟩
    go_wp2_with fail
    rw [rounds_succ]
    go_upto_region 5 with fail
    go_cut [55] (fun s55 Z => s55 = .bool k1 ∧ New W1 Z)
    case first =>
      clear HB HG
      go_wp2_with fail
      all_goals
        go_meet
        refine ⟨?_, by (repeat (first | (with_reducible exact New.refl _) | (with_reducible assumption) | ((with_reducible refine New.setB ?_ ?_ _); focus (first | omega | (simp; omega) | (simp; done))) | (with_reducible refine New.alloc ?_ _) | (with_reducible refine New.drew ?_) | (with_reducible refine New.drewN ?_ _) | (with_reducible refine New.hat ?_ _) | ((with_reducible apply New.snart); (with_reducible assumption))))⟩
        rw [show k1 = _ from K1.out]
        refine congrArg Value.bool ?_
        unfold badB
        rw [Bool.eq_iff_iff]
        simp only [Bool.or_eq_true, decide_eq_true_eq, true_iff]
        omega
    case rest =>
      obtain ⟨rfl, nZ⟩ := hcut
      ((replace c0 := New.keep nZ c0); (replace c1 := New.keep nZ c1); (replace c2 := New.keep nZ c2); (replace c3 := New.keep nZ c3); (replace c4 := New.keep nZ c4); (replace c5 := New.keep nZ c5); (replace c6 := New.keep nZ c6); (replace c7 := New.keep nZ c7); (replace c8 := New.keep nZ c8); (replace c9 := New.keep nZ c9))
      replace hn := hn.trans nZ
      clear nZ
      rename World => W2
      replace zz := World.block_lt_of_cell? _ _ c1
      simp only [] at zz
      cases k1
      rotate_left
      · have hb := HB.out (by simp)
        have hb' : Hid _ := hb
        clear hb HB HG K0 K1 K2
        go_wp2_with fail
        refine bodyPost_ret (v := .tuple #[.int .i64 0, .int .i64 0, .int .i64 0, .int .i64 40]) (by simp [results, Tryz.results74, go_sem]) rfl ?_
        rw [hb'.out.1, hb'.out.2.1, hb'.out.2.2.1, hb'.out.2.2.2]
        exact ⟨rfl, hn⟩
      go_wp2_with fail
      rw [rounds_succ]
      go_upto_region 5 with fail
      go_cut [55] (fun s55 Z => s55 = .bool k2 ∧ New W2 Z)
      case first =>
        clear HB HG
        go_wp2_with fail
        all_goals
          go_meet
          refine ⟨?_, by (repeat (first | (with_reducible exact New.refl _) | (with_reducible assumption) | ((with_reducible refine New.setB ?_ ?_ _); focus (first | omega | (simp; omega) | (simp; done))) | (with_reducible refine New.alloc ?_ _) | (with_reducible refine New.drew ?_) | (with_reducible refine New.drewN ?_ _) | (with_reducible refine New.hat ?_ _) | ((with_reducible apply New.snart); (with_reducible assumption))))⟩
          rw [show k2 = _ from K2.out]
          refine congrArg Value.bool ?_
          unfold badB
          rw [Bool.eq_iff_iff]
          simp only [Bool.or_eq_true, decide_eq_true_eq, true_iff]
          omega
      case rest =>
        obtain ⟨rfl, nZ⟩ := hcut
        ((replace c0 := New.keep nZ c0); (replace c1 := New.keep nZ c1); (replace c2 := New.keep nZ c2); (replace c3 := New.keep nZ c3); (replace c4 := New.keep nZ c4); (replace c5 := New.keep nZ c5); (replace c6 := New.keep nZ c6); (replace c7 := New.keep nZ c7); (replace c8 := New.keep nZ c8); (replace c9 := New.keep nZ c9))
        replace hn := hn.trans nZ
        clear nZ
        rename World => W3
        replace zz := World.block_lt_of_cell? _ _ c1
        simp only [] at zz
        cases k2
        rotate_left
        · have hb := HB.out (by simp)
          have hb' : Hid _ := hb
          clear hb HB HG K0 K1 K2
          go_wp2_with fail
          refine bodyPost_ret (v := .tuple #[.int .i64 0, .int .i64 0, .int .i64 0, .int .i64 40]) (by simp [results, Tryz.results74, go_sem]) rfl ?_
          rw [hb'.out.1, hb'.out.2.1, hb'.out.2.2.1, hb'.out.2.2.2]
          exact ⟨rfl, hn⟩
        go_wp2_with fail
        obtain ⟨hs, hy0, hy1⟩ := HG.out (by trivial) (by trivial) (by trivial)
        replace hy0 := Lib.hid hy0
        replace hy1 := Lib.hid hy1
        have hbd := nI_bd hs
        unfold StP StV at hs
        obtain ⟨⟨⟨X0, X0'⟩, ⟨Z0, Z0'⟩, ⟨Y0, Y0'⟩⟩, ⟨⟨X1, X1'⟩, ⟨Z1, Z1'⟩, ⟨Y1, Y1'⟩⟩, ⟨⟨X2, X2'⟩, ⟨Z2, Z2'⟩, ⟨Y2, Y2'⟩⟩⟩ := hs
        clear HB HG K0 K1 K2
        rw [rounds_succ]
        go_upto_region 7 with fail
        go_cut [8, 9, 10] (fun s8 s9 s10 Z => ∃ p q r : Nat, s8 = .pointer (some ⟨p, 0, none⟩) ∧ s9 = .pointer (some ⟨q, 0, none⟩) ∧ s10 = .pointer (some ⟨r, 0, none⟩) ∧ New W3 Z ∧ (Z.cell? ⟨p, 0, none⟩ = some (.int .i64 x0) ∧ Z.cell? ⟨p, 1, none⟩ = some (.int .i64 y0) ∧ Z.cell? ⟨p, 2, none⟩ = some (.int .i64 z0)) ∧
          (Z.cell? ⟨q, 0, none⟩ = some (.int .i64 x1) ∧ Z.cell? ⟨q, 1, none⟩ = some (.int .i64 y1) ∧ Z.cell? ⟨q, 2, none⟩ = some (.int .i64 z1)) ∧ (Z.cell? ⟨r, 0, none⟩ = some (.int .i64 x2) ∧ Z.cell? ⟨r, 1, none⟩ = some (.int .i64 y2) ∧ Z.cell? ⟨r, 2, none⟩ = some (.int .i64 z2)))
        case first =>
          clear X0 X0' Z0 Z0' Y0 Y0' X1 X1' Z1 Z1' Y1 Y1' X2 X2' Z2 Z2' Y2 Y2' hy0 hy1 hbd
          have hk1 : ∀ o1 o2 o3, (((W3.alloc o1).alloc o2).alloc o3).cell? ⟨w.heap.size, 1, none⟩ = some (.int .i64 x0) := fun o1 o2 o3 => New.keep (by (repeat (first | (with_reducible exact New.refl _) | (with_reducible assumption) | ((with_reducible refine New.setB ?_ ?_ _); focus (first | omega | (simp; omega) | (simp; done))) | (with_reducible refine New.alloc ?_ _) | (with_reducible refine New.drew ?_) | (with_reducible refine New.drewN ?_ _) | (with_reducible refine New.hat ?_ _) | ((with_reducible apply New.snart); (with_reducible assumption))))) c1
          have hk2 : ∀ o1 o2 o3, (((W3.alloc o1).alloc o2).alloc o3).cell? ⟨w.heap.size, 2, none⟩ = some (.int .i64 y0) := fun o1 o2 o3 => New.keep (by (repeat (first | (with_reducible exact New.refl _) | (with_reducible assumption) | ((with_reducible refine New.setB ?_ ?_ _); focus (first | omega | (simp; omega) | (simp; done))) | (with_reducible refine New.alloc ?_ _) | (with_reducible refine New.drew ?_) | (with_reducible refine New.drewN ?_ _) | (with_reducible refine New.hat ?_ _) | ((with_reducible apply New.snart); (with_reducible assumption))))) c2
          have hk3 : ∀ o1 o2 o3, (((W3.alloc o1).alloc o2).alloc o3).cell? ⟨w.heap.size, 3, none⟩ = some (.int .i64 z0) := fun o1 o2 o3 => New.keep (by (repeat (first | (with_reducible exact New.refl _) | (with_reducible assumption) | ((with_reducible refine New.setB ?_ ?_ _); focus (first | omega | (simp; omega) | (simp; done))) | (with_reducible refine New.alloc ?_ _) | (with_reducible refine New.drew ?_) | (with_reducible refine New.drewN ?_ _) | (with_reducible refine New.hat ?_ _) | ((with_reducible apply New.snart); (with_reducible assumption))))) c3
          have hk4 : ∀ o1 o2 o3, (((W3.alloc o1).alloc o2).alloc o3).cell? ⟨w.heap.size, 4, none⟩ = some (.int .i64 x1) := fun o1 o2 o3 => New.keep (by (repeat (first | (with_reducible exact New.refl _) | (with_reducible assumption) | ((with_reducible refine New.setB ?_ ?_ _); focus (first | omega | (simp; omega) | (simp; done))) | (with_reducible refine New.alloc ?_ _) | (with_reducible refine New.drew ?_) | (with_reducible refine New.drewN ?_ _) | (with_reducible refine New.hat ?_ _) | ((with_reducible apply New.snart); (with_reducible assumption))))) c4
          have hk5 : ∀ o1 o2 o3, (((W3.alloc o1).alloc o2).alloc o3).cell? ⟨w.heap.size, 5, none⟩ = some (.int .i64 y1) := fun o1 o2 o3 => New.keep (by (repeat (first | (with_reducible exact New.refl _) | (with_reducible assumption) | ((with_reducible refine New.setB ?_ ?_ _); focus (first | omega | (simp; omega) | (simp; done))) | (with_reducible refine New.alloc ?_ _) | (with_reducible refine New.drew ?_) | (with_reducible refine New.drewN ?_ _) | (with_reducible refine New.hat ?_ _) | ((with_reducible apply New.snart); (with_reducible assumption))))) c5
          have hk6 : ∀ o1 o2 o3, (((W3.alloc o1).alloc o2).alloc o3).cell? ⟨w.heap.size, 6, none⟩ = some (.int .i64 z1) := fun o1 o2 o3 => New.keep (by (repeat (first | (with_reducible exact New.refl _) | (with_reducible assumption) | ((with_reducible refine New.setB ?_ ?_ _); focus (first | omega | (simp; omega) | (simp; done))) | (with_reducible refine New.alloc ?_ _) | (with_reducible refine New.drew ?_) | (with_reducible refine New.drewN ?_ _) | (with_reducible refine New.hat ?_ _) | ((with_reducible apply New.snart); (with_reducible assumption))))) c6
          have hk7 : ∀ o1 o2 o3, (((W3.alloc o1).alloc o2).alloc o3).cell? ⟨w.heap.size, 7, none⟩ = some (.int .i64 x2) := fun o1 o2 o3 => New.keep (by (repeat (first | (with_reducible exact New.refl _) | (with_reducible assumption) | ((with_reducible refine New.setB ?_ ?_ _); focus (first | omega | (simp; omega) | (simp; done))) | (with_reducible refine New.alloc ?_ _) | (with_reducible refine New.drew ?_) | (with_reducible refine New.drewN ?_ _) | (with_reducible refine New.hat ?_ _) | ((with_reducible apply New.snart); (with_reducible assumption))))) c7
          have hk8 : ∀ o1 o2 o3, (((W3.alloc o1).alloc o2).alloc o3).cell? ⟨w.heap.size, 8, none⟩ = some (.int .i64 y2) := fun o1 o2 o3 => New.keep (by (repeat (first | (with_reducible exact New.refl _) | (with_reducible assumption) | ((with_reducible refine New.setB ?_ ?_ _); focus (first | omega | (simp; omega) | (simp; done))) | (with_reducible refine New.alloc ?_ _) | (with_reducible refine New.drew ?_) | (with_reducible refine New.drewN ?_ _) | (with_reducible refine New.hat ?_ _) | ((with_reducible apply New.snart); (with_reducible assumption))))) c8
          have hk9 : ∀ o1 o2 o3, (((W3.alloc o1).alloc o2).alloc o3).cell? ⟨w.heap.size, 9, none⟩ = some (.int .i64 z2) := fun o1 o2 o3 => New.keep (by (repeat (first | (with_reducible exact New.refl _) | (with_reducible assumption) | ((with_reducible refine New.setB ?_ ?_ _); focus (first | omega | (simp; omega) | (simp; done))) | (with_reducible refine New.alloc ?_ _) | (with_reducible refine New.drew ?_) | (with_reducible refine New.drewN ?_ _) | (with_reducible refine New.hat ?_ _) | ((with_reducible apply New.snart); (with_reducible assumption))))) c9
          go_region
          all_goals
            go_wp2_with fail
            go_meet
            exact ⟨_, _, _, rfl, rfl, rfl, by (repeat (first | (with_reducible exact New.refl _) | (with_reducible assumption) | ((with_reducible refine New.setB ?_ ?_ _); focus (first | omega | (simp; omega) | (simp; done))) | (with_reducible refine New.alloc ?_ _) | (with_reducible refine New.drew ?_) | (with_reducible refine New.drewN ?_ _) | (with_reducible refine New.hat ?_ _) | ((with_reducible apply New.snart); (with_reducible assumption)))), ⟨by go_simp, by go_simp, by go_simp⟩, ⟨by go_simp, by go_simp, by go_simp⟩, ⟨by go_simp, by go_simp, by go_simp⟩⟩
        case rest =>
          obtain ⟨p, q, r, rfl, rfl, rfl, nZ, ⟨p0, p1, p2⟩, ⟨q0, q1, q2⟩, ⟨r0, r1, r2⟩⟩ := hcut
          replace hn := hn.trans nZ
          clear nZ c0 c1 c2 c3 c4 c5 c6 c7 c8 c9 zz
          rename World => W4
          go_wp2_with fail
          go_quiet (fail)
          generalize hW : World.drewN _ _ = W5
          have n5 : New W4 W5 := by subst hW; (repeat (first | (with_reducible exact New.refl _) | (with_reducible assumption) | ((with_reducible refine New.setB ?_ ?_ _); focus (first | omega | (simp; omega) | (simp; done))) | (with_reducible refine New.alloc ?_ _) | (with_reducible refine New.drew ?_) | (with_reducible refine New.drewN ?_ _) | (with_reducible refine New.hat ?_ _) | ((with_reducible apply New.snart); (with_reducible assumption))))
          replace p0 := n5.keep p0
          replace p1 := n5.keep p1
          replace p2 := n5.keep p2
          replace q0 := n5.keep q0
          replace q1 := n5.keep q1
          replace q2 := n5.keep q2
          replace r0 := n5.keep r0
          replace r1 := n5.keep r1
          replace r2 := n5.keep r2
          replace hn := hn.trans n5
          clear hW n5
          go_wp2_with fail
          go_quiet (fail)
          clear p0 p1 p2 q0 q1 q2 r0 r1 r2
          have a1 := mul_bd (a := y1 - y0) (b := z2 - z0) (A := 4096) (B := 32) (by omega) (by omega)
          have a2 := mul_bd (a := z1 - z0) (b := y2 - y0) (A := 32) (B := 4096) (by omega) (by omega)
          have a3 := mul_bd (a := z1 - z0) (b := x2 - x0) (A := 32) (B := 32) (by omega) (by omega)
          have a4 := mul_bd (a := x1 - x0) (b := z2 - z0) (A := 32) (B := 32) (by omega) (by omega)
          have a5 := mul_bd (a := x1 - x0) (b := y2 - y0) (A := 32) (B := 4096) (by omega) (by omega)
          have a6 := mul_bd (a := y1 - y0) (b := x2 - x0) (A := 4096) (B := 32) (by omega) (by omega)
          by_cases hy : nyI x0 y0 z0 x1 y1 z1 x2 y2 z2 = 0
          · have hb : Hid _ := hy0.out hy
            have he : (((z1 - z0) * (x2 - x0) - (x1 - x0) * (z2 - z0)) == 0) = true := by rw [beq_iff_eq]; exact hy
            clear hy0 hy1 hy hbd
            go_wp2_with fail
            refine bodyPost_ret (v := .tuple #[.int .i64 0, .int .i64 0, .int .i64 0, .int .i64 40]) (by simp [results, Tryz.results74, go_sem]) rfl ?_
            rw [hb.out.1, hb.out.2.1, hb.out.2.2.1, hb.out.2.2.2]
            exact ⟨rfl, by (repeat (first | (with_reducible exact New.refl _) | (with_reducible assumption) | ((with_reducible refine New.setB ?_ ?_ _); focus (first | omega | (simp; omega) | (simp; done))) | (with_reducible refine New.alloc ?_ _) | (with_reducible refine New.drew ?_) | (with_reducible refine New.drewN ?_ _) | (with_reducible refine New.hat ?_ _) | ((with_reducible apply New.snart); (with_reducible assumption))))⟩
          · have hb : Hid _ := hy1.out hy
            have he : (((z1 - z0) * (x2 - x0) - (x1 - x0) * (z2 - z0)) == 0) = false := by rw [beq_eq_false_iff_ne]; exact hy
            clear hy0 hy1 hy hbd
            go_wp2_with fail
            refine bodyPost_ret (v := .tuple #[.int .i64 ((y1 - y0) * (z2 - z0) - (z1 - z0) * (y2 - y0)), .int .i64 ((z1 - z0) * (x2 - x0) - (x1 - x0) * (z2 - z0)), .int .i64 ((x1 - x0) * (y2 - y0) - (y1 - y0) * (x2 - x0)), .int .i64 0]) (by simp [results, Tryz.results74, go_sem]) rfl ?_
            rw [hb.out.1, hb.out.2.1, hb.out.2.2.1, hb.out.2.2.2]
            exact ⟨rfl, by (repeat (first | (with_reducible exact New.refl _) | (with_reducible assumption) | ((with_reducible refine New.setB ?_ ?_ _); focus (first | omega | (simp; omega) | (simp; done))) | (with_reducible refine New.alloc ?_ _) | (with_reducible refine New.drew ?_) | (with_reducible refine New.drewN ?_ _) | (with_reducible refine New.hat ?_ _) | ((with_reducible apply New.snart); (with_reducible assumption))))⟩

end Go.Proofs.YtklopjbpfddgfaaGreat

/- The document's own: Bounds of triangles. -/
namespace Go.Proofs.YtklopjbpfddgfaaGreat
open Go.RowKit
set_option linter.unusedVariables false

end Go.Proofs.YtklopjbpfddgfaaGreat

/- The document's Walk, Height. -/
namespace Go.Proofs.YtklopjbpfddgfaaGreat
open Go.RowKit
set_option linter.unusedVariables false

set_option maxHeartbeats 2000000 in
set_option maxRecDepth 100000 in
theorem r_walk (cl cb ht ri ru wd dp i x0 y0 z0 x1 y1 z1 x2 y2 z2 : Int) (w : World) :
    Calls Tryz.prog 50 #[.agg #[.int .i64 cl, .int .i64 cb, .int .i64 ht, .int .i64 ri, .int .i64 ru, .int .i64 wd, .int .i64 dp], .agg #[.int .i64 i, .int .i64 x0, .int .i64 y0, .int .i64 z0, .int .i64 x1, .int .i64 y1, .int .i64 z1, .int .i64 x2, .int .i64 y2, .int .i64 z2]] w fun e w' => e = .returned (.tuple #[.bool (walkB cl cb ht ri ru wd dp x0 y0 z0 x1 y1 z1 x2 y2 z2), .int .i64 (walkE cl cb ht ri ru wd dp x0 y0 z0 x1 y1 z1 x2 y2 z2)]) ∧ New w w' := by
  obtain ⟨v, hv⟩ : ∃ v, v = walkE cl cb ht ri ru wd dp x0 y0 z0 x1 y1 z1 x2 y2 z2 := ⟨_, rfl⟩
  obtain ⟨b, hb⟩ : ∃ b, b = walkB cl cb ht ri ru wd dp x0 y0 z0 x1 y1 z1 x2 y2 z2 := ⟨_, rfl⟩
  rw [← hv, ← hb]
  unfold walkE at hv
  unfold walkB at hb
  have hcc := fun W => rcheck_any cl cb ht ri ru wd dp W
  have htwo := checkE_two cl cb ht ri ru wd dp
  have hok := checkE_ok (cl := cl) (cb := cb) (ht := ht) (ri := ri) (ru := ru) (wd := wd) (dp := dp)
  generalize checkE cl cb ht ri ru wd dp = ce at *
  rcases htwo with rfl | rfl
  rotate_left
  · have hv1 : Hid (v = 20 ∧ b = false) := by show v = 20 ∧ b = false; rw [hv, hb]; simp
    clear hv hb hok
    go_enter Tryz.func50, Tryz.ntmps50
    go_wp2_with fail
    refine (hcc _).mono ?_
    rintro e W0 ⟨rfl, n1, -⟩
    have hn : New w W0 := New.trans (by (repeat (first | (with_reducible exact New.refl _) | (with_reducible assumption) | ((with_reducible refine New.setB ?_ ?_ _); focus (first | omega | (simp; omega) | (simp; done))) | (with_reducible refine New.alloc ?_ _) | (with_reducible refine New.drew ?_) | (with_reducible refine New.drewN ?_ _) | (with_reducible refine New.hat ?_ _) | ((with_reducible apply New.snart); (with_reducible assumption))))) n1
    clear n1 hcc
    go_wp2_with fail
    refine bodyPost_ret (v := .tuple #[.bool false, .int .i64 20]) (by simp [results, Tryz.results50, go_sem]) rfl ?_
    rw [hv1.out.1, hv1.out.2]
    exact ⟨rfl, hn⟩
  have hno := fun W => r_normal i x0 y0 z0 x1 y1 z1 x2 y2 z2 W
  obtain ⟨hri, hru, -, -⟩ := hok rfl
  clear hok
  cases hk : okB x0 y0 z0 x1 y1 z1 x2 y2 z2
  · obtain ⟨h1, h2, h3, h4⟩ := norm_no hk
    rw [h1, h2, h3, h4] at hno
    have hv1 : Hid (v = 40 ∧ b = false) := by show v = 40 ∧ b = false; rw [hv, hb, h4, hk]; simp
    clear hv hb hri hru h1 h2 h3 h4 hk
    go_enter Tryz.func50, Tryz.ntmps50
    go_wp2_with fail
    generalize hW : World.alloc _ _ = W
    (have c0 : (W).cell? ⟨w.heap.size + 1, 0, none⟩ = some (.int .i64 i) := (by subst hW; go_simp)); (have c1 : (W).cell? ⟨w.heap.size + 1, 1, none⟩ = some (.int .i64 x0) := (by subst hW; go_simp)); (have c2 : (W).cell? ⟨w.heap.size + 1, 2, none⟩ = some (.int .i64 y0) := (by subst hW; go_simp)); (have c3 : (W).cell? ⟨w.heap.size + 1, 3, none⟩ = some (.int .i64 z0) := (by subst hW; go_simp)); (have c4 : (W).cell? ⟨w.heap.size + 1, 4, none⟩ = some (.int .i64 x1) := (by subst hW; go_simp)); (have c5 : (W).cell? ⟨w.heap.size + 1, 5, none⟩ = some (.int .i64 y1) := (by subst hW; go_simp)); (have c6 : (W).cell? ⟨w.heap.size + 1, 6, none⟩ = some (.int .i64 z1) := (by subst hW; go_simp)); (have c7 : (W).cell? ⟨w.heap.size + 1, 7, none⟩ = some (.int .i64 x2) := (by subst hW; go_simp)); (have c8 : (W).cell? ⟨w.heap.size + 1, 8, none⟩ = some (.int .i64 y2) := (by subst hW; go_simp)); (have c9 : (W).cell? ⟨w.heap.size + 1, 9, none⟩ = some (.int .i64 z2) := (by subst hW; go_simp))
    have hn : New w W := by subst hW; (repeat (first | (with_reducible exact New.refl _) | (with_reducible assumption) | ((with_reducible refine New.setB ?_ ?_ _); focus (first | omega | (simp; omega) | (simp; done))) | (with_reducible refine New.alloc ?_ _) | (with_reducible refine New.drew ?_) | (with_reducible refine New.drewN ?_ _) | (with_reducible refine New.hat ?_ _) | ((with_reducible apply New.snart); (with_reducible assumption))))
    clear hW
    refine (hcc _).mono ?_
    rintro e W0 ⟨rfl, n1, -⟩
    ((replace c0 := New.keep n1 c0); (replace c1 := New.keep n1 c1); (replace c2 := New.keep n1 c2); (replace c3 := New.keep n1 c3); (replace c4 := New.keep n1 c4); (replace c5 := New.keep n1 c5); (replace c6 := New.keep n1 c6); (replace c7 := New.keep n1 c7); (replace c8 := New.keep n1 c8); (replace c9 := New.keep n1 c9))
    replace hn : New w W0 := New.trans hn n1
    clear n1 hcc
    go_wp2_with fail
    refine (hno _).mono ?_
    rintro e W1 ⟨rfl, n1⟩
    replace hn : New w W1 := New.trans hn n1
    clear n1 hno
    go_wp2_with fail
    refine bodyPost_ret (v := .tuple #[.bool false, .int .i64 40]) (by simp [results, Tryz.results50, go_sem]) rfl ?_
    rw [hv1.out.1, hv1.out.2]
    exact ⟨rfl, hn⟩
  · obtain ⟨h1, h2, h3, h4⟩ := norm_yes hk
    obtain ⟨bx, by', bz⟩ := nI_bd (ok_st hk).1
    rw [h1, h2, h3, h4] at hno
    rw [hk, Bool.and_true] at hb
    rw [h4] at hv
    clear h1 h2 h3 h4 hk
    generalize nxI x0 y0 z0 x1 y1 z1 x2 y2 z2 = nx at *
    generalize nyI x0 y0 z0 x1 y1 z1 x2 y2 z2 = ny at *
    generalize nzI x0 y0 z0 x1 y1 z1 x2 y2 z2 = nz at *
    have hv1 : Hid (v = 0 ∧ b = decide ((nx * nx + nz * nz) * ru * ru ≤ ny * ny * ri * ri)) := by
      show v = 0 ∧ b = _
      rw [hv, hb]; simp [slopeB]
    have s1 := sq_in bx
    have s2 := sq_in by'
    have s3 := sq_in bz
    have s4 := pos_mul (a := nx * nx + nz * nz) (b := ru) (A := 137438953472) (B := 100) (by omega) (by omega)
    have s5 := pos_mul (a := (nx * nx + nz * nz) * ru) (b := ru) (A := 13743895347200) (B := 100) (by omega) (by omega)
    have s6 := pos_mul (a := ny * ny) (b := ri) (A := 4194304) (B := 100) (by omega) (by omega)
    have s7 := pos_mul (a := ny * ny * ri) (b := ri) (A := 419430400) (B := 100) (by omega) (by omega)
    clear hv hb hri hru bx by' bz
    go_enter Tryz.func50, Tryz.ntmps50
    go_wp2_with fail
    generalize hW : World.alloc _ _ = W
    (have c0 : (W).cell? ⟨w.heap.size + 1, 0, none⟩ = some (.int .i64 i) := (by subst hW; go_simp)); (have c1 : (W).cell? ⟨w.heap.size + 1, 1, none⟩ = some (.int .i64 x0) := (by subst hW; go_simp)); (have c2 : (W).cell? ⟨w.heap.size + 1, 2, none⟩ = some (.int .i64 y0) := (by subst hW; go_simp)); (have c3 : (W).cell? ⟨w.heap.size + 1, 3, none⟩ = some (.int .i64 z0) := (by subst hW; go_simp)); (have c4 : (W).cell? ⟨w.heap.size + 1, 4, none⟩ = some (.int .i64 x1) := (by subst hW; go_simp)); (have c5 : (W).cell? ⟨w.heap.size + 1, 5, none⟩ = some (.int .i64 y1) := (by subst hW; go_simp)); (have c6 : (W).cell? ⟨w.heap.size + 1, 6, none⟩ = some (.int .i64 z1) := (by subst hW; go_simp)); (have c7 : (W).cell? ⟨w.heap.size + 1, 7, none⟩ = some (.int .i64 x2) := (by subst hW; go_simp)); (have c8 : (W).cell? ⟨w.heap.size + 1, 8, none⟩ = some (.int .i64 y2) := (by subst hW; go_simp)); (have c9 : (W).cell? ⟨w.heap.size + 1, 9, none⟩ = some (.int .i64 z2) := (by subst hW; go_simp))
    have b3 : W.cell? ⟨w.heap.size, 3, none⟩ = some (.int .i64 ri) := by subst hW; go_simp
    have b4 : W.cell? ⟨w.heap.size, 4, none⟩ = some (.int .i64 ru) := by subst hW; go_simp
    have hn : New w W := by subst hW; (repeat (first | (with_reducible exact New.refl _) | (with_reducible assumption) | ((with_reducible refine New.setB ?_ ?_ _); focus (first | omega | (simp; omega) | (simp; done))) | (with_reducible refine New.alloc ?_ _) | (with_reducible refine New.drew ?_) | (with_reducible refine New.drewN ?_ _) | (with_reducible refine New.hat ?_ _) | ((with_reducible apply New.snart); (with_reducible assumption))))
    clear hW
    refine (hcc _).mono ?_
    rintro e W0 ⟨rfl, n1, -⟩
    ((replace c0 := New.keep n1 c0); (replace c1 := New.keep n1 c1); (replace c2 := New.keep n1 c2); (replace c3 := New.keep n1 c3); (replace c4 := New.keep n1 c4); (replace c5 := New.keep n1 c5); (replace c6 := New.keep n1 c6); (replace c7 := New.keep n1 c7); (replace c8 := New.keep n1 c8); (replace c9 := New.keep n1 c9))
    replace b3 := New.keep n1 b3
    replace b4 := New.keep n1 b4
    replace hn : New w W0 := New.trans hn n1
    clear n1 hcc
    go_wp2_with fail
    refine (hno _).mono ?_
    rintro e W1 ⟨rfl, n1⟩
    replace b3 := New.keep n1 b3
    replace b4 := New.keep n1 b4
    replace hn : New w W1 := New.trans hn n1
    clear n1 hno c0 c1 c2 c3 c4 c5 c6 c7 c8 c9
    go_wp2_with fail
    refine bodyPost_ret (v := .tuple #[.bool (decide ((nx * nx + nz * nz) * ru * ru ≤ ny * ny * ri * ri)), .int .i64 0]) (by simp [results, Tryz.results50, go_sem]) rfl ?_
    rw [hv1.out.1, hv1.out.2]
    exact ⟨rfl, hn⟩

end Go.Proofs.YtklopjbpfddgfaaGreat

/- Package spans: Put, Same. -/
namespace Go.Proofs.YtklopjbpfddgfaaGreat
open Go.RowKit
set_option linter.unusedVariables false

theorem sn_part2 {w : World} {B c d : Nat} {a b : Option Addr} {l m : List Sn} (h : w.cell? ⟨B, 0, none⟩ = some (.slice a l.length c)) (hs : Sl Sn.enc 3 w (.slice a l.length c) l) (h' : w.cell? ⟨B, 1, none⟩ = some (.slice b m.length d)) (hs' : Sl Sn.enc 3 w (.slice b m.length d) m) : PartsAt Sn.enc 3 w B [⟨a, l, c⟩, ⟨b, m, d⟩] := fun j hj => by
  rcases (show j = 0 ∨ j = 1 by simp at hj; omega) with rfl | rfl
  · exact ⟨h, hs⟩
  · exact ⟨h', hs'⟩
theorem sn_one {w : World} {g : Nat} {s : Sn} (h0 : w.cell? ⟨g, 0, none⟩ = some (.int .i64 s.lo)) (h1 : w.cell? ⟨g, 1, none⟩ = some (.int .i64 s.hi)) (h2 : w.cell? ⟨g, 2, none⟩ = some (.bool s.wk)) : Sl Sn.enc 3 w (.slice (some ⟨g, 0, none⟩) [s].length 1) [s] :=
  ⟨_, _, rfl, Nat.le_refl _, by unfold maxLen; omega, fun h => (by cases h), fun _ => ⟨g, 0, rfl, fun j hj i hi => by
    have e : j = 0 := by simp at hj; omega
    subst e
    have hi' : i < 3 := hi
    rcases (show i = 0 ∨ i = 1 ∨ i = 2 by omega) with rfl | rfl | rfl
    · exact h0
    · exact h1
    · exact h2⟩⟩

theorem hBad {l : List Sn} {s : Sn} {b : Bool} (h : fstB badS (l ++ [s]) = true) (k : fstB badS (l ++ [s]) = b) : b = true := by rw [← k]; exact h
theorem bad_snoc (l : List Sn) (s : Sn) (h : spE l = 0) : fstB badS (l ++ [s]) = badS s := by
  have hp := (chkE_zero h).2.1
  have h1 : l.any badS = false := by
    rw [List.any_eq_false]
    intro p hpm
    rw [(badS_not p).2 (hp p hpm)]; simp
  unfold fstB
  rw [List.any_append, h1]; simp

end Go.Proofs.YtklopjbpfddgfaaGreat

/- The document's own Merge, Put, Solid, Same. -/
namespace Go.Proofs.YtklopjbpfddgfaaGreat
open Go.RowKit
set_option linter.unusedVariables false

set_option maxHeartbeats 4000000 in
set_option maxRecDepth 100000 in
theorem r_merge (at0 : Option Addr) (l : List Sn) (c : Nat) (hl : l.length ≤ 1000) (w : World) (h : Sl Sn.enc 3 w (.slice at0 l.length c) l) :
    Calls Tryz.prog 51 #[.slice at0 l.length c] w (Merged l w) := by
  have KM := Lib.hid (fun p W => r_may p W)
  have KP := Lib.hid (fun v K p W hs hK => rs_put v K p W hs hK)
  have HR := Lib.hid h.row'.2.2.2.2
  obtain ⟨n, hn⟩ : ∃ n, n = l.length := ⟨_, rfl⟩
  rw [← hn] at hl ⊢
  have HN := Lib.hid hn
  clear h hn
  go_enter Tryz.func51, Tryz.ntmps51
  go_wp2_with fail
  go_loopg [4, 5] n (fun gk s4 s5 wr => ∃ (i : Nat) (K : List Sn) (u : Value), u = s4 ∧ s5 = .int .i64 i ∧ i ≤ n ∧ n - i ≤ gk ∧ K.length ≤ i ∧ Hid (IsM (l.take i) K) ∧ Hid (∀ j (h : j < l.length), j < i → badS l[j] = false) ∧ Hid (Sl Sn.enc 3 wr u K) ∧ Hid (New w wr))
  case atStart => exact ⟨0, [], _, rfl, rfl, by omega, by omega, by simp, Lib.hid (by simpa using IsM.nil), Lib.hid (fun j _ h => by omega), Lib.hid Sl.nil, Lib.hid (New.refl _)⟩
  case round =>
    obtain ⟨i, K, u, rfl, rfl, hi, hgk, hKl, HI, HB, HS, HW⟩ := hrel
    by_cases hlt : i < n
    · have hil : i < l.length := by rw [← HN.out]; exact hlt
      obtain ⟨g, off, rfl, hA⟩ := HR.out (by omega)
      obtain ⟨r0, r1, r2⟩ := Sn.cells (hA.keep HW.out) i hil
      have HA := Lib.hid hA
      obtain ⟨E, hE⟩ : ∃ E, E = l[i] := ⟨_, rfl⟩
      rw [← hE] at r0 r1 r2
      have HEE := Lib.hid hE
      clear hE hA
      cases hb : badS E
      · have KC : Hid (∀ W, Calls Tryz.prog 27 #[.agg #[.int .i64 E.lo, .int .i64 E.hi, .bool E.wk]] W fun e w' => e = .returned (.bool true) ∧ New W w') := Lib.hid (fun W => by have := KM.out E W; rw [hb] at this; exact this)
        have HBE := Lib.hid hb
        clear hb
        go_wp2_with fail
        refine (KC.out _).mono ?_
        rintro e w1 ⟨rfl, n1⟩
        (replace r0 := n1.keep r0; replace r1 := n1.keep r1; replace r2 := n1.keep r2)
        have HW1 := Lib.hid (HW.out.trans n1)
        have HS1 := Lib.hid (HS.out.keep n1)
        clear n1
        go_wp2_with fail
        refine (KP.out _ K E _ HS1.out (by omega)).mono ?_
        rintro e w2 ⟨v', rfl, hs2, n2⟩
        have HS2 := Lib.hid hs2
        have HW2 := Lib.hid (HW1.out.trans n2)
        clear hs2 n2 r0 r1 r2
        go_wp2_with fail
        go_roundg (n - (i + 1))
        case measure => omega
        case rel =>
          have hall : ∀ j (h : j < l.length), j < i + 1 → badS l[j] = false := fun j h hj => by
            by_cases e : j < i
            · exact HB.out j h e
            · have e2 : j = i := by omega
              subst e2
              rw [← HEE.out]; exact HBE.out
          refine ⟨i + 1, putS E K false, _, rfl, by go_num, by omega, by omega, by have := putS_len E K false; omega, Lib.hid ?_, Lib.hid hall, HS2, HW2⟩
          rw [List.take_succ_eq_append_getElem hil, ← HEE.out]
          refine IsM.put (fun p hp => ?_) HI.out ((badS_not E).1 HBE.out).2.1
          obtain ⟨j, hj, rfl⟩ := List.getElem_of_mem hp
          have hj' : j < i := by simp at hj; omega
          rw [List.getElem_take]
          exact ((badS_not _).1 (HB.out j (by omega) hj')).2.1
      · have KC : Hid (∀ W, Calls Tryz.prog 27 #[.agg #[.int .i64 E.lo, .int .i64 E.hi, .bool E.wk]] W fun e w' => e = .returned (.bool false) ∧ New W w') := Lib.hid (fun W => by have := KM.out E W; rw [hb] at this; exact this)
        have HBE : Hid (fstB badS l = true) := Lib.hid (List.any_eq_true.2 ⟨l[i], List.getElem_mem hil, by rw [← HEE.out]; exact hb⟩)
        clear hb
        go_wp2_with fail
        refine (KC.out _).mono ?_
        rintro e w1 ⟨rfl, n1⟩
        have HW1 := Lib.hid (HW.out.trans n1)
        clear n1 r0 r1 r2
        go_wp2_with fail
        refine bodyPost_ret (v := .tuple #[.slice none 0 0, .int .i64 2]) (by simp [results, Tryz.results51, go_sem, *]) rfl ?_
        exact ⟨HW1.out, .inl ⟨HBE.out, rfl⟩⟩
    · have e : i = n := by omega
      subst e
      have HIN : Hid (IsM l K) := Lib.hid (by have := HI.out; rw [HN.out, List.take_length] at this; exact this)
      have HBE : Hid (fstB badS l = false) := Lib.hid (by
        unfold fstB
        rw [List.any_eq_false]
        intro p hp
        obtain ⟨j, hj, rfl⟩ := List.getElem_of_mem hp
        rw [HB.out j hj (by have := HN.out; omega)]; simp)
      obtain ⟨a, c', hu, -⟩ := HS.out
      subst hu
      go_wp2_with fail
      refine bodyPost_ret (v := .tuple #[.slice a K.length c', .int .i64 0]) (by simp [results, Tryz.results51, go_sem, *]) rfl ?_
      exact ⟨HW.out, .inr ⟨HBE.out, K, a, c', HIN.out, by have := HN.out; omega, rfl, HS.out⟩⟩

end Go.Proofs.YtklopjbpfddgfaaGreat

/- The document's own put and Merge: where their rows lie is told, too. (SpRb's and SpRc's walks.) -/
namespace Go.Proofs.YtklopjbpfddgfaaGreat
open Go.RowKit
set_option linter.unusedVariables false

set_option maxHeartbeats 8000000 in
set_option maxRecDepth 100000 in
theorem rs_put_own (v : Value) (l : List Sn) (c : Sn) (w : World) (hs : Sl Sn.enc 3 w v l) (hl : l.length ≤ 1000) :
    Calls Tryz.prog 75 #[v, .agg #[.int .i64 c.lo, .int .i64 c.hi, .bool c.wk]] w fun e w' => ∃ v', e = .returned v' ∧ Sl Sn.enc 3 w' v' (putS c l false) ∧ (∀ g, v'.ownBlock = some g → w.heap.size ≤ g) ∧ New w w' := by
  obtain ⟨i0, hi, hz0, hz1, hz2⟩ := info_parts sn_info
  have HI := Lib.hid hi
  have HZ0 := Lib.hid hz0
  have HZ1 := Lib.hid hz1
  have HZ2 := Lib.hid hz2
  have KM := Lib.hid (fun p q W => r_meet p q W)
  have KJ := Lib.hid (fun p q W => r_join p q W)
  obtain ⟨at0, cap, rfl, hcap, hmax, -, hrow⟩ := hs
  have HR := Lib.hid hrow
  unfold maxLen at hmax
  obtain ⟨n, hn⟩ : ∃ n, n = l.length := ⟨_, rfl⟩
  rw [← hn] at hl hcap ⊢
  have HNL := Lib.hid hn
  clear hi hz0 hz1 hz2 hrow hn
  go_enter Tryz.func75, Tryz.ntmps75
  go_wp2_with fail
  refine Code.at (fun W0 hW => ?_)
  have P0 : PutSt w w.heap.size W0.heap.size W0 (.slice none 0 0) [] c := by
    subst hW
    exact ⟨by (repeat (first | (with_reducible exact New.refl _) | (with_reducible assumption) | ((with_reducible refine New.setB ?_ ?_ _); focus (first | omega | (simp; omega) | (simp; done))) | (with_reducible refine New.alloc ?_ _) | (with_reducible refine New.drew ?_) | (with_reducible refine New.drewN ?_ _) | (with_reducible refine New.hat ?_ _) | ((with_reducible apply New.snart); (with_reducible assumption)))), by simp, World.ownsRow_nil _ _ _ _, by go_simp, by go_simp, by go_simp, fun j hj => by go_simp⟩
  have HP0 := Lib.hid P0
  have HS : Hid ([] ++ putS c (l.drop 0) false = putS c l false) := Lib.hid (by rw [List.drop_zero]; rfl)
  obtain ⟨B, hB⟩ : ∃ B, B = w.heap.size := ⟨_, rfl⟩
  obtain ⟨base, hbase⟩ : ∃ base, base = W0.heap.size := ⟨_, rfl⟩
  rw [← hB, ← hbase] at HP0
  rw [← hB]
  have hz0 : w.heap.size ≤ base := by rw [hbase]; subst hW; simp; try omega
  have HBS := Lib.hid hz0
  clear hW P0 hB hbase hz0
  go_loopg [5, 6, 7] n (fun gk s5 s6 s7 wr => ∃ (i : Nat) (o : List Sn) (u : Value) (s : Sn) (dn : Bool), u = s5 ∧ s6 = .bool dn ∧ s7 = .int .i64 i ∧ i ≤ n ∧ n - i ≤ gk ∧ o.length ≤ 2 * i ∧ Hid (o ++ putS s (l.drop i) dn = putS c l false) ∧ Hid (PutSt w B base wr u o s))
  case atStart => exact ⟨0, [], _, c, false, rfl, rfl, rfl, by omega, by omega, by simp, HS, HP0⟩
  case round =>
    clear HP0 HS
    obtain ⟨i, o, u, s, dn, rfl, rfl, rfl, hi, hgk, ho, HE, HP⟩ := hrel
    by_cases hlt : i < n
    · have hil : i < l.length := by rw [← HNL.out]; exact hlt
      obtain ⟨g, off, rfl, hA⟩ := HR.out (by omega)
      obtain ⟨r0, r1, r2⟩ := Sn.cells (hA.keep HP.out.new) i hil
      have HA := Lib.hid hA
      have HDR : Hid (l.drop i = l[i] :: l.drop (i + 1)) := Lib.hid (List.drop_eq_getElem_cons hil)
      obtain ⟨E, hE⟩ : ∃ E, E = l[i] := ⟨_, rfl⟩
      rw [← hE] at r0 r1 r2 HDR
      have HEE := Lib.hid hE
      clear hE hA
      have k0 := HP.out.c0
      have k1 := HP.out.c1
      have k2 := HP.out.c2
      cases hm : meets E s
      · have KC : Hid (∀ W, Calls Tryz.prog 98 #[.agg #[.int .i64 E.lo, .int .i64 E.hi, .bool E.wk], .agg #[.int .i64 s.lo, .int .i64 s.hi, .bool s.wk]] W fun e w' => e = .returned (.bool false) ∧ New W w') := Lib.hid (fun W => by rw [← hm]; exact KM.out E s W)
        have HM := Lib.hid hm
        clear hm
        go_upto_region 6 with fail
        (refine wp_region_hat (by kernel_rfl) (by kernel_rfl) ?_; intro hatc hatf; (repeat (go_big_quiet_step ((go_at_call 98; exact Calls.hat (KC.out _))))); refine wpQuiet_nil ?_; rintro _ ⟨X, rfl⟩)
        clear hatc hatf
        (replace r0 := New.keep X.h r0; replace r1 := New.keep X.h r1; replace r2 := New.keep X.h r2; replace k0 := New.keep X.h k0; replace k1 := New.keep X.h k1; replace k2 := New.keep X.h k2)
        have HP := Lib.hid (HP.out.keep X.h)
        generalize X.w = W6 at *
        clear X
        cases dn
        · by_cases hg : s.hi < E.lo
          · have hgd : decide (s.hi < E.lo) = true := decide_eq_true hg
            have HE2 : Hid (((o ++ [s]) ++ [E]) ++ putS s (l.drop (i + 1)) true = putS c l false) := Lib.hid (by
              rw [← HE.out, HDR.out, putS, HM.out]; simp [hg])
            clear HE hg
            go_upto_region 8 with fail
            (refine wp_region_hat (by kernel_rfl) (by kernel_rfl) ?_; intro hatc hatf; (repeat (go_big_quiet_step ((fail)))); refine wpQuiet_nil ?_; rintro _ ⟨X, rfl⟩)
            clear hatc hatf
            (replace r0 := New.keep X.h r0; replace r1 := New.keep X.h r1; replace r2 := New.keep X.h r2; replace k0 := New.keep X.h k0; replace k1 := New.keep X.h k1; replace k2 := New.keep X.h k2)
            have HP := Lib.hid (HP.out.keep X.h)
            generalize X.w = W6 at *
            clear X
            have hol : (o).length ≤ 2100 := by (try simp only [List.length_append, List.length_cons, List.length_nil]); omega
            have hzw : base ≤ _ := HP.out.lt.2.2
            go_wp2_with (at_builtin; refine wpList_append_own _ rfl _ _ 24 rfl base 45 i0 (.agg #[.int .i64 0, .int .i64 0, .bool false]) 3 24 Tryz.underlying24 HI.out HZ0.out HZ1.out HZ2.out rfl (by decide) _ (o).length ((o).flatMap Sn.enc) rfl (World.ownsRow.alloc HP.out.own _) ⟨_, 0, none⟩ 1 1 s.enc rfl rfl (sn_new _ _ _) (Sn.enc_one s) (by unfold maxLen; omega) (by omega) (by simp; omega) ?_)
            intro v7 W7 ho7 hg7 _
            have HP := Lib.hid ((HP.out.keep ((New.refl _).alloc _)).more ho7 hg7)
            have n7 : New w W7 := HP.out.new
            (obtain ⟨r0, r1, r2⟩ := Sn.cells (HA.out.keep n7) i hil)
            rw [← HEE.out] at r0 r1 r2
            clear hol hzw ho7 hg7 k0 k1 k2
            have k0 := HP.out.c0
            have k1 := HP.out.c1
            have k2 := HP.out.c2
            obtain ⟨o1, hO1⟩ : ∃ o1, o1 = o ++ [s] := ⟨_, rfl⟩
            rw [← hO1] at HP
            have hl1 : o1.length ≤ 2 * i + 1 := by rw [hO1]; simp; omega
            have HE3 : Hid ((o1 ++ [E]) ++ putS s (l.drop (i + 1)) true = putS c l false) := Lib.hid (by rw [hO1]; exact HE2.out)
            clear hO1 HE2
            have hol : (o1).length ≤ 2100 := by (try simp only [List.length_append, List.length_cons, List.length_nil]); omega
            have hzw : base ≤ _ := HP.out.lt.2.2
            go_wp2_with (at_builtin; refine wpList_append_own _ rfl _ _ 24 rfl base 45 i0 (.agg #[.int .i64 0, .int .i64 0, .bool false]) 3 24 Tryz.underlying24 HI.out HZ0.out HZ1.out HZ2.out rfl (by decide) _ (o1).length ((o1).flatMap Sn.enc) rfl (World.ownsRow.alloc HP.out.own _) ⟨_, 0, none⟩ 1 1 E.enc rfl rfl (sn_new _ _ _) (Sn.enc_one E) (by unfold maxLen; omega) (by omega) (by simp; omega) ?_)
            intro v7 W7 ho7 hg7 _
            have HP := Lib.hid ((HP.out.keep ((New.refl _).alloc _)).more ho7 hg7)
            clear hol hzw ho7 hg7 k0 k1 k2
            go_wp2_with fail
            go_roundg (n - (i + 1))
            case measure => omega
            case rel => exact ⟨i + 1, o1 ++ [E], _, s, true, rfl, rfl, by go_num, by omega, by omega, by simp only [List.length_append, List.length_cons, List.length_nil]; omega, HE3, HP⟩
          · have hgd : decide (s.hi < E.lo) = false := decide_eq_false hg
            have HE2 : Hid ((o ++ [E]) ++ putS s (l.drop (i + 1)) false = putS c l false) := Lib.hid (by
              rw [← HE.out, HDR.out, putS, HM.out]; simp [hg])
            clear HE hg
            go_upto_region 8 with fail
            (refine wp_region_hat (by kernel_rfl) (by kernel_rfl) ?_; intro hatc hatf; (repeat (go_big_quiet_step ((fail)))); refine wpQuiet_nil ?_; rintro _ ⟨X, rfl⟩)
            clear hatc hatf
            (replace r0 := New.keep X.h r0; replace r1 := New.keep X.h r1; replace r2 := New.keep X.h r2; replace k0 := New.keep X.h k0; replace k1 := New.keep X.h k1; replace k2 := New.keep X.h k2)
            have HP := Lib.hid (HP.out.keep X.h)
            generalize X.w = W6 at *
            clear X
            have hol : (o).length ≤ 2100 := by (try simp only [List.length_append, List.length_cons, List.length_nil]); omega
            have hzw : base ≤ _ := HP.out.lt.2.2
            go_wp2_with (at_builtin; refine wpList_append_own _ rfl _ _ 24 rfl base 45 i0 (.agg #[.int .i64 0, .int .i64 0, .bool false]) 3 24 Tryz.underlying24 HI.out HZ0.out HZ1.out HZ2.out rfl (by decide) _ (o).length ((o).flatMap Sn.enc) rfl (World.ownsRow.alloc HP.out.own _) ⟨_, 0, none⟩ 1 1 E.enc rfl rfl (sn_new _ _ _) (Sn.enc_one E) (by unfold maxLen; omega) (by omega) (by simp; omega) ?_)
            intro v7 W7 ho7 hg7 _
            have HP := Lib.hid ((HP.out.keep ((New.refl _).alloc _)).more ho7 hg7)
            clear hol hzw ho7 hg7 k0 k1 k2
            go_wp2_with fail
            go_roundg (n - (i + 1))
            case measure => omega
            case rel => exact ⟨i + 1, o ++ [E], _, s, false, rfl, rfl, by go_num, by omega, by omega, by simp only [List.length_append, List.length_cons, List.length_nil]; omega, HE2, HP⟩
        · have HE2 : Hid ((o ++ [E]) ++ putS s (l.drop (i + 1)) true = putS c l false) := Lib.hid (by
            rw [← HE.out, HDR.out, putS, HM.out]; simp)
          clear HE
          go_upto_region 8 with fail
          (refine wp_region_hat (by kernel_rfl) (by kernel_rfl) ?_; intro hatc hatf; (repeat (go_big_quiet_step ((fail)))); refine wpQuiet_nil ?_; rintro _ ⟨X, rfl⟩)
          clear hatc hatf
          (replace r0 := New.keep X.h r0; replace r1 := New.keep X.h r1; replace r2 := New.keep X.h r2; replace k0 := New.keep X.h k0; replace k1 := New.keep X.h k1; replace k2 := New.keep X.h k2)
          have HP := Lib.hid (HP.out.keep X.h)
          generalize X.w = W6 at *
          clear X
          have hol : (o).length ≤ 2100 := by (try simp only [List.length_append, List.length_cons, List.length_nil]); omega
          have hzw : base ≤ _ := HP.out.lt.2.2
          go_wp2_with (at_builtin; refine wpList_append_own _ rfl _ _ 24 rfl base 45 i0 (.agg #[.int .i64 0, .int .i64 0, .bool false]) 3 24 Tryz.underlying24 HI.out HZ0.out HZ1.out HZ2.out rfl (by decide) _ (o).length ((o).flatMap Sn.enc) rfl (World.ownsRow.alloc HP.out.own _) ⟨_, 0, none⟩ 1 1 E.enc rfl rfl (sn_new _ _ _) (Sn.enc_one E) (by unfold maxLen; omega) (by omega) (by simp; omega) ?_)
          intro v7 W7 ho7 hg7 _
          have HP := Lib.hid ((HP.out.keep ((New.refl _).alloc _)).more ho7 hg7)
          clear hol hzw ho7 hg7 k0 k1 k2
          go_wp2_with fail
          go_roundg (n - (i + 1))
          case measure => omega
          case rel => exact ⟨i + 1, o ++ [E], _, s, true, rfl, rfl, by go_num, by omega, by omega, by simp only [List.length_append, List.length_cons, List.length_nil]; omega, HE2, HP⟩
      · have KC : Hid (∀ W, Calls Tryz.prog 98 #[.agg #[.int .i64 E.lo, .int .i64 E.hi, .bool E.wk], .agg #[.int .i64 s.lo, .int .i64 s.hi, .bool s.wk]] W fun e w' => e = .returned (.bool true) ∧ New W w') := Lib.hid (fun W => by rw [← hm]; exact KM.out E s W)
        obtain ⟨U, hU⟩ : ∃ U, U = un E s := ⟨_, rfl⟩
        have KC2 : Hid (∀ W, Calls Tryz.prog 99 #[.agg #[.int .i64 E.lo, .int .i64 E.hi, .bool E.wk], .agg #[.int .i64 s.lo, .int .i64 s.hi, .bool s.wk]] W fun e w' => e = .returned (.agg #[.int .i64 U.lo, .int .i64 U.hi, .bool U.wk]) ∧ New W w') := Lib.hid (fun W => by rw [hU]; exact KJ.out E s W)
        have HE2 : Hid (o ++ putS U (l.drop (i + 1)) dn = putS c l false) := Lib.hid (by
          rw [← HE.out, HDR.out, putS, if_pos hm, hU])
        clear HE hm hU
        go_upto_region 6 with fail
        (refine wp_region_hat (by kernel_rfl) (by kernel_rfl) ?_; intro hatc hatf; (repeat (go_big_quiet_step ((go_at_call 98; exact Calls.hat (KC.out _))))); refine wpQuiet_nil ?_; rintro _ ⟨X, rfl⟩)
        clear hatc hatf
        (replace r0 := New.keep X.h r0; replace r1 := New.keep X.h r1; replace r2 := New.keep X.h r2; replace k0 := New.keep X.h k0; replace k1 := New.keep X.h k1; replace k2 := New.keep X.h k2)
        have HP := Lib.hid (HP.out.keep X.h)
        generalize X.w = W6 at *
        clear X
        go_upto_region 7 with fail
        (refine wp_region_steady 6 (by kernel_rfl) (by kernel_rfl) ?_; (intro hatc hatf; simp only [List.take_succ_cons, List.take_zero, List.drop_succ_cons, List.drop_zero]; (repeat (first | (refine mildWalk_made (by decide) ?_; simp only [Act.put, List.setIfInBounds_toArray, List.set_cons_zero, List.set_cons_succ]) | (refine mildWalk_step (by decide) (fun K hK => ?_); go_simp; first | (refine hK _ ?_; clear hK K) | (apply Exists.intro; refine ⟨fun _ => ?_, hK _ ?_⟩; (go_at_call 99; exact KC2.out _); clear hK K)))); refine mildWalk_nil ?_; (try simp only [List.setIfInBounds_toArray, List.set_cons_zero, List.set_cons_succ])))
        intro x
        clear hatc hatf
        have HP := Lib.hid (HP.out.keep x.h)
        generalize x.w = W3 at *
        clear r0 r1 r2 k0 k1 k2
        have HT := Lib.hid HP.out.there
        have HP := Lib.hid (HP.out.join U)
        go_wp2_with (refine wpList_store_mid rfl 45 _ _ rfl B 0 #[.int .i64 U.lo, .int .i64 U.hi, .bool U.wk] rfl rfl HT.out (by kernel_rfl) (all_oneCell_toArray (Sn.enc_one U)) ?_)
        clear HT
        go_wp2_with fail
        go_roundg (n - (i + 1))
        case measure => omega
        case rel => exact ⟨i + 1, o, _, U, dn, rfl, rfl, by go_num, by omega, by omega, by omega, HE2, HP⟩
    · have e : i = n := by omega
      subst e
      have hdr : l.drop i = [] := List.drop_eq_nil_of_le (by have := HNL.out; omega)
      have k0 := HP.out.c0
      have k1 := HP.out.c1
      have k2 := HP.out.c2
      cases dn
      · have HE2 : Hid (o ++ [s] = putS c l false) := Lib.hid (by rw [← HE.out, hdr]; rfl)
        clear HE hdr
        have hol : (o).length ≤ 2100 := by (try simp only [List.length_append, List.length_cons, List.length_nil]); omega
        have hzw : base ≤ _ := HP.out.lt.2.2
        go_wp2_with (at_builtin; refine wpList_append_own _ rfl _ _ 24 rfl base 45 i0 (.agg #[.int .i64 0, .int .i64 0, .bool false]) 3 24 Tryz.underlying24 HI.out HZ0.out HZ1.out HZ2.out rfl (by decide) _ (o).length ((o).flatMap Sn.enc) rfl (World.ownsRow.alloc HP.out.own _) ⟨_, 0, none⟩ 1 1 s.enc rfl rfl (sn_new _ _ _) (Sn.enc_one s) (by unfold maxLen; omega) (by omega) (by simp; omega) ?_)
        intro v7 W7 ho7 hg7 _
        have HP := Lib.hid ((HP.out.keep ((New.refl _).alloc _)).more ho7 hg7)
        clear hol hzw ho7 hg7 k0 k1 k2
        go_wp2_with fail
        go_ret
        exact ⟨_, rfl, by rw [← HE2.out]; exact own_sl Sn.enc_len HP.out.own, fun g h => Nat.le_trans HBS.out (own_block HP.out.own g h), HP.out.new⟩
      · have HE2 : Hid (o = putS c l false) := Lib.hid (by rw [← HE.out, hdr]; simp [putS])
        clear HE hdr
        go_wp2_with fail
        go_ret
        exact ⟨_, rfl, by rw [← HE2.out]; exact own_sl Sn.enc_len HP.out.own, fun g h => Nat.le_trans HBS.out (own_block HP.out.own g h), HP.out.new⟩


set_option maxHeartbeats 4000000 in
set_option maxRecDepth 100000 in
theorem r_merge_own (at0 : Option Addr) (l : List Sn) (c : Nat) (hl : l.length ≤ 1000) (w : World) (h : Sl Sn.enc 3 w (.slice at0 l.length c) l) :
    Calls Tryz.prog 51 #[.slice at0 l.length c] w fun e w' => New w w' ∧ ((fstB badS l = true ∧ e = .returned (.tuple #[.slice none 0 0, .int .i64 2])) ∨ (fstB badS l = false ∧ ∃ (R : List Sn) (a : Option Addr) (c : Nat), IsM l R ∧ R.length ≤ l.length ∧ e = .returned (.tuple #[.slice a R.length c, .int .i64 0]) ∧ Sl Sn.enc 3 w' (.slice a R.length c) R ∧ (∀ g, (Value.slice a R.length c).ownBlock = some g → w.heap.size ≤ g))) := by
  have KM := Lib.hid (fun p W => r_may p W)
  have KP := Lib.hid (fun v K p W hs hK => rs_put_own v K p W hs hK)
  have HR := Lib.hid h.row'.2.2.2.2
  obtain ⟨n, hn⟩ : ∃ n, n = l.length := ⟨_, rfl⟩
  rw [← hn] at hl ⊢
  have HN := Lib.hid hn
  clear h hn
  go_enter Tryz.func51, Tryz.ntmps51
  go_wp2_with fail
  go_loopg [4, 5] n (fun gk s4 s5 wr => ∃ (i : Nat) (K : List Sn) (u : Value), u = s4 ∧ s5 = .int .i64 i ∧ i ≤ n ∧ n - i ≤ gk ∧ K.length ≤ i ∧ Hid (IsM (l.take i) K) ∧ Hid (∀ j (h : j < l.length), j < i → badS l[j] = false) ∧ Hid (Sl Sn.enc 3 wr u K) ∧ Hid (∀ g, u.ownBlock = some g → w.heap.size ≤ g) ∧ Hid (New w wr))
  case atStart => exact ⟨0, [], _, rfl, rfl, by omega, by omega, by simp, Lib.hid (by simpa using IsM.nil), Lib.hid (fun j _ h => by omega), Lib.hid Sl.nil, Lib.hid (fun g h => by simp [Value.ownBlock] at h), Lib.hid (New.refl _)⟩
  case round =>
    obtain ⟨i, K, u, rfl, rfl, hi, hgk, hKl, HI, HB, HS, HFR, HW⟩ := hrel
    by_cases hlt : i < n
    · have hil : i < l.length := by rw [← HN.out]; exact hlt
      obtain ⟨g, off, rfl, hA⟩ := HR.out (by omega)
      obtain ⟨r0, r1, r2⟩ := Sn.cells (hA.keep HW.out) i hil
      have HA := Lib.hid hA
      obtain ⟨E, hE⟩ : ∃ E, E = l[i] := ⟨_, rfl⟩
      rw [← hE] at r0 r1 r2
      have HEE := Lib.hid hE
      clear hE hA
      cases hb : badS E
      · have KC : Hid (∀ W, Calls Tryz.prog 27 #[.agg #[.int .i64 E.lo, .int .i64 E.hi, .bool E.wk]] W fun e w' => e = .returned (.bool true) ∧ New W w') := Lib.hid (fun W => by have := KM.out E W; rw [hb] at this; exact this)
        have HBE := Lib.hid hb
        clear hb
        go_wp2_with fail
        refine (KC.out _).mono ?_
        rintro e w1 ⟨rfl, n1⟩
        (replace r0 := n1.keep r0; replace r1 := n1.keep r1; replace r2 := n1.keep r2)
        have HW1 := Lib.hid (HW.out.trans n1)
        have HS1 := Lib.hid (HS.out.keep n1)
        clear n1
        go_wp2_with fail
        refine (KP.out _ K E _ HS1.out (by omega)).mono ?_
        rintro e w2 ⟨v', rfl, hs2, hf2, n2⟩
        have HFR2 : Hid (∀ g, v'.ownBlock = some g → w.heap.size ≤ g) := Lib.hid (fun g h => Nat.le_trans HW1.out.size (hf2 g h))
        clear hf2
        have HS2 := Lib.hid hs2
        have HW2 := Lib.hid (HW1.out.trans n2)
        clear hs2 n2 r0 r1 r2
        go_wp2_with fail
        go_roundg (n - (i + 1))
        case measure => omega
        case rel =>
          have hall : ∀ j (h : j < l.length), j < i + 1 → badS l[j] = false := fun j h hj => by
            by_cases e : j < i
            · exact HB.out j h e
            · have e2 : j = i := by omega
              subst e2
              rw [← HEE.out]; exact HBE.out
          refine ⟨i + 1, putS E K false, _, rfl, by go_num, by omega, by omega, by have := putS_len E K false; omega, Lib.hid ?_, Lib.hid hall, HS2, HFR2, HW2⟩
          rw [List.take_succ_eq_append_getElem hil, ← HEE.out]
          refine IsM.put (fun p hp => ?_) HI.out ((badS_not E).1 HBE.out).2.1
          obtain ⟨j, hj, rfl⟩ := List.getElem_of_mem hp
          have hj' : j < i := by simp at hj; omega
          rw [List.getElem_take]
          exact ((badS_not _).1 (HB.out j (by omega) hj')).2.1
      · have KC : Hid (∀ W, Calls Tryz.prog 27 #[.agg #[.int .i64 E.lo, .int .i64 E.hi, .bool E.wk]] W fun e w' => e = .returned (.bool false) ∧ New W w') := Lib.hid (fun W => by have := KM.out E W; rw [hb] at this; exact this)
        have HBE : Hid (fstB badS l = true) := Lib.hid (List.any_eq_true.2 ⟨l[i], List.getElem_mem hil, by rw [← HEE.out]; exact hb⟩)
        clear hb
        go_wp2_with fail
        refine (KC.out _).mono ?_
        rintro e w1 ⟨rfl, n1⟩
        have HW1 := Lib.hid (HW.out.trans n1)
        clear n1 r0 r1 r2
        go_wp2_with fail
        refine bodyPost_ret (v := .tuple #[.slice none 0 0, .int .i64 2]) (by simp [results, Tryz.results51, go_sem, *]) rfl ?_
        exact ⟨HW1.out, .inl ⟨HBE.out, rfl⟩⟩
    · have e : i = n := by omega
      subst e
      have HIN : Hid (IsM l K) := Lib.hid (by have := HI.out; rw [HN.out, List.take_length] at this; exact this)
      have HBE : Hid (fstB badS l = false) := Lib.hid (by
        unfold fstB
        rw [List.any_eq_false]
        intro p hp
        obtain ⟨j, hj, rfl⟩ := List.getElem_of_mem hp
        rw [HB.out j hj (by have := HN.out; omega)]; simp)
      obtain ⟨a, c', hu, -⟩ := HS.out
      subst hu
      go_wp2_with fail
      refine bodyPost_ret (v := .tuple #[.slice a K.length c', .int .i64 0]) (by simp [results, Tryz.results51, go_sem, *]) rfl ?_
      exact ⟨HW.out, .inr ⟨HBE.out, K, a, c', HIN.out, by have := HN.out; omega, rfl, HS.out, HFR.out⟩⟩

end Go.Proofs.YtklopjbpfddgfaaGreat

/- The document's own heights over a column, its comparison, its columns. -/
namespace Go.Proofs.YtklopjbpfddgfaaGreat
open Go.RowKit
set_option linter.unusedVariables false

def loR (l : List Co) : Int := l.foldl (fun a c => min a (flC c)) 1073741824
def hiR (l : List Co) : Int := l.foldl (fun a c => max a (clC c)) (-1073741824)
theorem loR_snoc (l : List Co) (c : Co) : loR (l ++ [c]) = min (loR l) (flC c) := by unfold loR; rw [List.foldl_append]; rfl
theorem hiR_snoc (l : List Co) (c : Co) : hiR (l ++ [c]) = max (hiR l) (clC c) := by unfold hiR; rw [List.foldl_append]; rfl
theorem loR_eq {T : TriR} {x z : Int} (h : ovB T x z = true) {R : List Co} (hm : ∀ c, c ∈ R ↔ c ∈ comL T x z) : ovLo T x z = loR R ∧ ovHi T x z = hiR R := by
  obtain ⟨⟨a, ha, ea⟩, ⟨b, hb, eb⟩⟩ := ov_got h
  obtain ⟨k1, k2, k3, -⟩ := ov_between h
  obtain ⟨y0, y1, y2⟩ := ok_y (cor_zero (ov_iff.1 h).1).1
  have k4 : minI T.y0 T.y1 T.y2 ≥ -2048 := by unfold minI; omega
  have k5 : maxI T.y0 T.y1 T.y2 ≤ 2048 := by unfold maxI; omega
  constructor
  · obtain ⟨a1, a2, a3⟩ := minf_spec flC R 1073741824
    have q := a2 a ((hm a).2 ha)
    have e : loR R = R.foldl (fun a c => min a (flC c)) 1073741824 := rfl
    rw [e]
    rcases a3 with a3 | ⟨c, hc, a3⟩
    · omega
    · have := (ov_mem h ((hm c).1 hc)).1
      omega
  · obtain ⟨a1, a2, a3⟩ := maxf_spec clC R (-1073741824)
    have q := a2 b ((hm b).2 hb)
    have e : hiR R = R.foldl (fun a c => max a (clC c)) (-1073741824) := rfl
    rw [e]
    rcases a3 with a3 | ⟨c, hc, a3⟩
    · omega
    · have := (ov_mem h ((hm c).1 hc)).2
      omega

set_option maxHeartbeats 4000000 in
set_option maxRecDepth 100000 in
theorem r_over (T : TriR) (x z : Int) (w : World) :
    Calls Tryz.prog 49 #[.agg #[.int .i64 T.i, .int .i64 T.x0, .int .i64 T.y0, .int .i64 T.z0, .int .i64 T.x1, .int .i64 T.y1, .int .i64 T.z1, .int .i64 T.x2, .int .i64 T.y2, .int .i64 T.z2], .int .i64 x, .int .i64 z] w fun e w' => e = .returned (.tuple #[.int .i64 (ovLo T x z), .int .i64 (ovHi T x z), .bool (ovB T x z), .int .i64 (corE T x z)]) ∧ New w w' := by
  by_cases hE : corE T x z = 0
  rotate_left
  · have KB := fun W => r_cor_bad T x z W hE
    have e : ovB T x z = false := by unfold ovB; rw [beq_eq_false_iff_ne.2 hE]; rfl
    have e1 : ovLo T x z = 0 := by unfold ovLo; rw [e]; rfl
    have e2 : ovHi T x z = 0 := by unfold ovHi; rw [e]; rfl
    rw [e, e1, e2]
    generalize corE T x z = er at *
    have hb : (er != 0) = true := by rw [bne_iff_ne]; exact hE
    replace KB := Lib.hid KB
    clear e e1 e2 hE
    go_enter Tryz.func49, Tryz.ntmps49
    go_wp2_with fail
    refine (KB.out _).mono ?_
    rintro e W1 ⟨rfl, n1⟩
    have hn : New w W1 := New.trans (by (repeat (first | (with_reducible exact New.refl _) | (with_reducible assumption) | ((with_reducible refine New.setB ?_ ?_ _); focus (first | omega | (simp; omega) | (simp; done))) | (with_reducible refine New.alloc ?_ _) | (with_reducible refine New.drew ?_) | (with_reducible refine New.drewN ?_ _) | (with_reducible refine New.hat ?_ _) | ((with_reducible apply New.snart); (with_reducible assumption))))) n1
    clear n1
    go_wp2_with fail
    refine bodyPost_ret (v := .tuple #[.int .i64 0, .int .i64 0, .bool false, .int .i64 er]) (by simp [results, Tryz.results49, go_sem, *]) rfl ?_
    exact ⟨rfl, hn⟩
  have KK := Lib.hid (fun W => r_cor T x z W hE)
  have HB : Hid (ovB T x z = !(comL T x z).isEmpty) := Lib.hid (by unfold ovB; rw [hE]; rfl)
  obtain ⟨lo, hlo⟩ : ∃ lo, lo = ovLo T x z := ⟨_, rfl⟩
  obtain ⟨hi, hhi⟩ : ∃ hi, hi = ovHi T x z := ⟨_, rfl⟩
  rw [hE, ← hlo, ← hhi]
  have HLO := Lib.hid hlo
  have HHI := Lib.hid hhi
  clear hlo hhi hE
  go_enter Tryz.func49, Tryz.ntmps49
  go_wp2_with fail
  refine (KK.out _).mono ?_
  rintro e W1 ⟨v, R, rfl, hs, hc, n1⟩
  obtain ⟨at0, cap, rfl, h1, h2, h3, h4⟩ := hs
  have hn : New w W1 := New.trans (by (repeat (first | (with_reducible exact New.refl _) | (with_reducible assumption) | ((with_reducible refine New.setB ?_ ?_ _); focus (first | omega | (simp; omega) | (simp; done))) | (with_reducible refine New.alloc ?_ _) | (with_reducible refine New.drew ?_) | (with_reducible refine New.drewN ?_ _) | (with_reducible refine New.hat ?_ _) | ((with_reducible apply New.snart); (with_reducible assumption))))) n1
  clear n1 KK
  by_cases h0 : R.length = 0
  · have hR : R = [] := List.eq_nil_of_length_eq_zero h0
    subst hR
    have hem : comL T x z = [] := List.eq_nil_iff_forall_not_mem.2 fun c hm => by have := (hc.mem c).2 hm; cases this
    have HB2 : Hid (ovB T x z = false) := Lib.hid (by rw [HB.out, hem]; rfl)
    have HL : Hid (lo = 0 ∧ hi = 0) := Lib.hid ⟨by rw [HLO.out]; unfold ovLo; rw [HB2.out]; rfl, by rw [HHI.out]; unfold ovHi; rw [HB2.out]; rfl⟩
    clear hem hc h4 h0 HB HLO HHI
    go_wp2_with fail
    refine bodyPost_ret (v := .tuple #[.int .i64 0, .int .i64 0, .bool false, .int .i64 0]) (by simp [results, Tryz.results49, go_sem]) rfl ?_
    exact ⟨by rw [HL.out.1, HL.out.2, HB2.out], hn⟩
  · have hem : (comL T x z).isEmpty = false := by
      cases hq : comL T x z with
      | nil => exfalso; apply h0; cases hr : R with
        | nil => rfl
        | cons c m => have := (hc.mem c).1 (by rw [hr]; exact List.mem_cons_self); rw [hq] at this; cases this
      | cons c m => rfl
    have HB2 : Hid (ovB T x z = true) := Lib.hid (by rw [HB.out, hem]; rfl)
    have HL : Hid (lo = loR R ∧ hi = hiR R) := Lib.hid ⟨by rw [HLO.out]; exact (loR_eq HB2.out hc.mem).1, by rw [HHI.out]; exact (loR_eq HB2.out hc.mem).2⟩
    obtain ⟨b, off, rfl, hrow⟩ := h4 (by omega)
    have HR := Lib.hid hrow
    obtain ⟨n, hnl⟩ : ∃ n, n = R.length := ⟨_, rfl⟩
    rw [← hnl] at h0 h1 ⊢
    have HNL := Lib.hid hnl
    have hne : ((n : Int) == 0) = false := by rw [beq_eq_false_iff_ne]; omega
    have HF := Lib.hid (fun y d W => rfloor_any y d W)
    have HCL := Lib.hid (fun y d W => rceil_any y d W)
    have HN1 := Lib.hid hn
    unfold maxLen at h2
    clear hem hc hrow hnl HB HLO HHI h3 h4 hn
    go_wp2_with fail
    go_loopg [12, 13, 14] n (fun gk s12 s13 s14 wr => ∃ (j : Nat) (p q : Int), s12 = .int .i64 p ∧ s13 = .int .i64 q ∧ s14 = .int .i64 j ∧ j ≤ n ∧ n - j ≤ gk ∧ Hid (p = loR (R.take j)) ∧ Hid (q = hiR (R.take j)) ∧ Hid (New W1 wr))
    case atStart => exact ⟨0, 1073741824, -1073741824, rfl, rfl, rfl, by omega, by omega, Lib.hid rfl, Lib.hid rfl, Lib.hid (New.refl _)⟩
    case round =>
      obtain ⟨j, p, q, rfl, rfl, rfl, hj, hgk, HP, HQ, HN⟩ := hrel
      by_cases hlt : j < n
      · have hjl : j < R.length := by rw [← HNL.out]; exact hlt
        have hrow := HR.out.keep HN.out
        have r2 := hrow j hjl 2 (by rw [Co.enc_len]; omega)
        have r3 := hrow j hjl 3 (by rw [Co.enc_len]; omega)
        change wr.cell? ⟨b, off + j * 4 + 2, none⟩ = some (.int .i64 R[j].y) at r2
        change wr.cell? ⟨b, off + j * 4 + 3, none⟩ = some (.int .i64 R[j].d) at r3
        have HP2 : Hid (min p (floorI R[j].y R[j].d) = loR (R.take (j + 1))) := Lib.hid (by rw [List.take_succ_eq_append_getElem hjl, loR_snoc, ← HP.out]; rfl)
        have HQ2 : Hid (max q (ceilI R[j].y R[j].d) = hiR (R.take (j + 1))) := Lib.hid (by rw [List.take_succ_eq_append_getElem hjl, hiR_snoc, ← HQ.out]; rfl)
        have KF := Lib.hid (fun W => HF.out R[j].y R[j].d W)
        have KG := Lib.hid (fun W => HCL.out R[j].y R[j].d W)
        clear hrow HP HQ
        generalize R[j].y = cy at *
        generalize R[j].d = cd at *
        generalize floorI cy cd = fy at *
        generalize ceilI cy cd = gy at *
        generalize errI (tameI cd != 0) = er at *
        go_upto_region 8 with fail
        (refine wp_region_hat (by kernel_rfl) (by kernel_rfl) ?_; intro hatc hatf; (repeat (go_big_quiet_step (((go_at_call 72; with_reducible exact Calls.hat ((KF.out _).mono fun _ _ h => ⟨h.1, h.2 ▸ New.refl _⟩)))))); refine wpQuiet_nil ?_; rintro _ ⟨X, rfl⟩)
        have HN2 := Lib.hid (HN.out.trans X.h)
        replace r2 := New.keep X.h r2
        replace r3 := New.keep X.h r3
        clear hatc hatf HN
        generalize X.w = W3 at *
        clear X
        go_upto_region 9 with fail
        (refine wp_region_hat (by kernel_rfl) (by kernel_rfl) ?_; intro hatc hatf; (repeat (go_big_quiet_step (((go_at_call 73; with_reducible exact Calls.hat ((KG.out _).mono fun _ _ h => ⟨h.1, h.2 ▸ New.refl _⟩)))))); refine wpQuiet_nil ?_; rintro _ ⟨X, rfl⟩)
        have HN3 := Lib.hid (HN2.out.trans X.h)
        clear hatc hatf HN2 r2 r3 KF KG
        generalize X.w = W4 at *
        clear X
        go_wp2_with fail
        go_roundg (n - (j + 1))
        case measure => omega
        case rel => exact ⟨j + 1, _, _, rfl, rfl, by go_num, by omega, by omega, HP2, HQ2, HN3⟩
      · have e : j = n := by omega
        subst e
        have HP2 : Hid (p = lo ∧ q = hi) := Lib.hid ⟨by rw [HL.out.1, HP.out, HNL.out, List.take_length], by rw [HL.out.2, HQ.out, HNL.out, List.take_length]⟩
        clear HP HQ HL
        go_wp2_with fail
        refine bodyPost_ret (v := .tuple #[.int .i64 p, .int .i64 q, .bool true, .int .i64 0]) (by simp [results, Tryz.results49, go_sem]) rfl ?_
        exact ⟨by rw [HP2.out.1, HP2.out.2, HB2.out], HN1.out.trans HN.out⟩

end Go.Proofs.YtklopjbpfddgfaaGreat

/- What the laws of layer 8 say of three rows. -/
namespace Go.Proofs.YtklopjbpfddgfaaGreat
open Go.RowKit
set_option linter.unusedVariables false

/-- A row of two in a block of its own. -/
theorem sn_two {w : World} {g : Nat} {s t : Sn} (h0 : w.cell? ⟨g, 0, none⟩ = some (.int .i64 s.lo)) (h1 : w.cell? ⟨g, 1, none⟩ = some (.int .i64 s.hi)) (h2 : w.cell? ⟨g, 2, none⟩ = some (.bool s.wk)) (h3 : w.cell? ⟨g, 3, none⟩ = some (.int .i64 t.lo)) (h4 : w.cell? ⟨g, 4, none⟩ = some (.int .i64 t.hi)) (h5 : w.cell? ⟨g, 5, none⟩ = some (.bool t.wk)) : Sl Sn.enc 3 w (.slice (some ⟨g, 0, none⟩) [s, t].length 2) [s, t] :=
  ⟨_, _, rfl, Nat.le_refl _, by unfold maxLen; omega, fun h => (by cases h), fun _ => ⟨g, 0, rfl, fun j hj i hi => by
    have hj' : j < 2 := hj
    have hi' : i < 3 := by have := hi; rw [Sn.enc_len] at this; exact this
    rcases (show j = 0 ∨ j = 1 by omega) with rfl | rfl <;> rcases (show i = 0 ∨ i = 1 ∨ i = 2 by omega) with rfl | rfl | rfl
    · exact h0
    · exact h1
    · exact h2
    · exact h3
    · exact h4
    · exact h5⟩⟩

theorem w_one : IsM [⟨0, 2, false⟩, ⟨2, 5, true⟩] [⟨0, 5, true⟩] := IsM.two (p := ⟨0, 2, false⟩) (q := ⟨2, 5, true⟩) (by decide) (by decide) (by decide) (by decide)
theorem w_two : IsM [⟨0, 6, false⟩, ⟨2, 5, true⟩] [⟨0, 6, false⟩] := IsM.two (p := ⟨0, 6, false⟩) (q := ⟨2, 5, true⟩) (by decide) (by decide) (by decide) (by decide)
theorem w_three : IsM [⟨0, 1, false⟩, ⟨2, 3, false⟩] [⟨0, 1, false⟩, ⟨2, 3, false⟩] := IsM.self (by unfold Sep; simp) (by intro p hp; simp at hp; rcases hp with rfl | rfl <;> decide)

/-- Merge of a row of which the spans are known. -/
theorem k_known (g : Nat) (s t : Sn) (R : List Sn) (hb : fstB badS [s, t] = false) (hR : IsM [s, t] R) (w : World) (h : Sl Sn.enc 3 w (.slice (some ⟨g, 0, none⟩) [s, t].length 2) [s, t]) :
    Calls Tryz.prog 47 #[.slice (some ⟨g, 0, none⟩) 2 2] w fun e w' => ∃ a c, e = .returned (.tuple #[.slice a R.length c, .int .i64 0]) ∧ Sl Sn.enc 3 w' (.slice a R.length c) R ∧ New w w' := by
  refine (k_merge (some ⟨g, 0, none⟩) [s, t] 2 (by simp) w h).mono ?_
  rintro e w' ⟨hn, h | ⟨-, R', a, c, h1, -, rfl, h3⟩⟩
  · rw [hb] at h; exact absurd h.1 (by simp)
  · have e1 : R' = R := h1.uniq (fun p hp => (not_bad hb p hp).2.1) hR (fun p => Iff.rfl)
    subst e1
    exact ⟨a, c, rfl, h3, hn⟩

end Go.Proofs.YtklopjbpfddgfaaGreat

/- Layer 8: what Put answers, told of one row and one number. -/
namespace Go.Proofs.YtklopjbpfddgfaaGreat
open Go.RowKit
set_option linter.unusedVariables false

def PR (l : List Sn) (s : Sn) (R : List Sn) (r : Int) : Prop := ((spE l = 2 ∨ badS s = true) ∧ R = [] ∧ r = 2) ∨ (spE l = 0 ∧ badS s = false ∧ ∃ Q, IsM (l ++ [s]) Q ∧ ((8 < Q.length ∧ R = [] ∧ r = 51) ∨ (Q.length ≤ 8 ∧ R = Q ∧ r = 0)))
theorem PR.proper {l : List Sn} {s : Sn} (h1 : spE l = 0) (h2 : badS s = false) : Proper (l ++ [s]) := fun p hp => by
  rcases List.mem_append.1 hp with k | k
  · exact ((chkE_zero h1).2.1 p k).2.1
  · rw [List.mem_singleton] at k; subst k; exact ((badS_not _).1 h2).2.1
theorem PR.uniq {l R R' : List Sn} {s : Sn} {r r' : Int} (h : PR l s R r) (h' : PR l s R' r') : R = R' ∧ r = r' := by
  rcases h with ⟨a, b, c⟩ | ⟨a, b, Q, q, c⟩ <;> rcases h' with ⟨a', b', c'⟩ | ⟨a', b', Q', q', c'⟩
  · exact ⟨b.trans b'.symm, c.trans c'.symm⟩
  · rcases a with a | a
    · omega
    · rw [a] at b'; cases b'
  · rcases a' with a' | a'
    · omega
    · rw [b] at a'; cases a'
  · have e := q.uniq (PR.proper a b) q' (fun p => Iff.rfl)
    subst e
    rcases c with ⟨c1, c2, c3⟩ | ⟨c1, c2, c3⟩ <;> rcases c' with ⟨d1, d2, d3⟩ | ⟨d1, d2, d3⟩
    · exact ⟨c2.trans d2.symm, c3.trans d3.symm⟩
    · omega
    · omega
    · exact ⟨c2.trans d2.symm, c3.trans d3.symm⟩
theorem Putted.flat {l : List Sn} {s : Sn} {w w' : World} {e : Ending} (h : Putted l s w e w') : New w w' ∧ ∃ (R : List Sn) (a : Option Addr) (c : Nat) (r : Int), PR l s R r ∧ R.length ≤ 8 ∧ e = .returned (.tuple #[.slice a R.length c, .int .i64 r]) ∧ Sl Sn.enc 3 w' (.slice a R.length c) R := by
  obtain ⟨hn, ⟨h1, h2⟩ | ⟨h1, h2, R, h3, ⟨h4, h5⟩ | ⟨h4, a, c, h5, h6⟩⟩⟩ := h
  · exact ⟨hn, [], none, 0, 2, .inl ⟨h1, rfl, rfl⟩, by simp, h2, Sl.nil⟩
  · exact ⟨hn, [], none, 0, 51, .inr ⟨h1, h2, R, h3, .inl ⟨h4, rfl, rfl⟩⟩, by simp, h5, Sl.nil⟩
  · exact ⟨hn, R, a, c, 0, .inr ⟨h1, h2, R, h3, .inr ⟨h4, rfl, rfl⟩⟩, h4, h5, h6⟩
theorem chk_of {l R : List Sn} (h : IsM l R) (hb : ∀ p ∈ l, -2048 ≤ p.lo ∧ p.lo ≤ p.hi ∧ p.hi ≤ 2048) (h8 : R.length ≤ 8) : spE R = 0 := by
  refine chkE_fine h8 ?_ fun i hi => List.pairwise_iff_getElem.1 h.sep i (i + 1) (by omega) hi (by omega)
  unfold fstB
  rw [List.any_eq_false]
  intro r hr
  rw [(badS_not r).2 ?_]
  · simp
  · obtain ⟨p, hp, q⟩ := h.low r hr
    have := hb p hp
    have f := h.fit r hr
    refine ⟨by omega, f, ?_⟩
    by_cases e : r.lo < r.hi
    · obtain ⟨u, hu, u1, u2⟩ := h.cov r hr (r.hi - 1) (by omega) (by omega)
      have := hb u hu
      omega
    · omega

end Go.Proofs.YtklopjbpfddgfaaGreat

/- Layer 8: what Merge and Put answer, told of one row and one number. -/
namespace Go.Proofs.YtklopjbpfddgfaaGreat
open Go.RowKit
set_option linter.unusedVariables false

def MR (l R : List Sn) (r : Int) : Prop := (fstB badS l = true ∧ R = [] ∧ r = 2) ∨ (fstB badS l = false ∧ IsM l R ∧ r = 0)
theorem MR.uniq {l R R' : List Sn} {r r' : Int} (h : MR l R r) (h' : MR l R' r') : R = R' ∧ r = r' := by
  rcases h with ⟨a, b, c⟩ | ⟨a, b, c⟩ <;> rcases h' with ⟨a', b', c'⟩ | ⟨a', b', c'⟩
  · exact ⟨b.trans b'.symm, c.trans c'.symm⟩
  · rw [a] at a'; cases a'
  · rw [a] at a'; cases a'
  · exact ⟨b.uniq (fun p hp => (not_bad a p hp).2.1) b' (fun p => Iff.rfl), c.trans c'.symm⟩
theorem Merged.flat {l : List Sn} {w w' : World} {e : Ending} (h : Merged l w e w') : New w w' ∧ ∃ (R : List Sn) (a : Option Addr) (c : Nat) (r : Int), MR l R r ∧ R.length ≤ l.length ∧ e = .returned (.tuple #[.slice a R.length c, .int .i64 r]) ∧ Sl Sn.enc 3 w' (.slice a R.length c) R := by
  obtain ⟨hn, ⟨h1, h2⟩ | ⟨h1, R, a, c, h2, h3, h4, h5⟩⟩ := h
  · exact ⟨hn, [], none, 0, 2, .inl ⟨h1, rfl, rfl⟩, by simp, h2, Sl.nil⟩
  · exact ⟨hn, R, a, c, 0, .inr ⟨h1, h2, rfl⟩, h3, h4, h5⟩
theorem allEq_self (l : List Sn) : Sn.allEq l l = true := (Sn.allEq_iff l l).2 rfl

end Go.Proofs.YtklopjbpfddgfaaGreat

/- The document's own May (layer 9). -/
namespace Go.Proofs.YtklopjbpfddgfaaGreat
open Go.RowKit Go.Sort
set_option linter.unusedVariables false

set_option maxHeartbeats 2000000 in
set_option maxRecDepth 100000 in
theorem m_may (C : CfgR) (hC : C.fine) (at0 : Option Addr) (l : List TriR) (cap : Nat) (hl : l.length ≤ maxLen) (w : World) (H : RowIn TriR.enc 10 w at0 l) :
    Calls Tryz.prog 31 #[.agg #[.int .i64 C.cl, .int .i64 C.cb, .int .i64 C.ht, .int .i64 C.ri, .int .i64 C.ru, .int .i64 C.wd, .int .i64 C.dp], .slice at0 l.length cap] w fun e w' => e = .returned (.bool (mayL C l)) ∧ New w w' := by
  have KM := Lib.hid (fun T W => u_mayTri C.wd C.dp ⟨hC.w1, hC.w2⟩ ⟨hC.d1, hC.d2⟩ T W)
  have HH := Lib.hid H
  obtain ⟨v, hv⟩ : ∃ v, v = mayL C l := ⟨_, rfl⟩
  rw [← hv]
  have HV := Lib.hid hv
  clear hv H
  unfold maxLen at hl
  by_cases hn : 200 < l.length
  · have HE : Hid (v = false) := Lib.hid (by rw [HV.out]; unfold mayL; rw [decide_eq_false (by omega)]; rfl)
    have hd : ((l.length : Int) > 200) := by omega
    go_enter Tryz.func31, Tryz.ntmps31
    go_wp2_with fail
    go_ret
    rw [HE.out]
    exact ⟨rfl, by (repeat (first | (with_reducible exact New.refl _) | (with_reducible assumption) | ((with_reducible refine New.setB ?_ ?_ _); focus (first | omega | (simp; omega) | (simp; done))) | (with_reducible refine New.alloc ?_ _) | (with_reducible refine New.drew ?_) | (with_reducible refine New.drewN ?_ _) | (with_reducible refine New.hat ?_ _) | ((with_reducible apply New.snart); (with_reducible assumption))))⟩
  · have hd : ¬ ((l.length : Int) > 200) := by omega
    go_enter Tryz.func31, Tryz.ntmps31
    go_wp2_with fail
    clear hd
    generalize hW : World.alloc _ _ = W1
    have n1 : New w W1 := by subst hW; (repeat (first | (with_reducible exact New.refl _) | (with_reducible assumption) | ((with_reducible refine New.setB ?_ ?_ _); focus (first | omega | (simp; omega) | (simp; done))) | (with_reducible refine New.alloc ?_ _) | (with_reducible refine New.drew ?_) | (with_reducible refine New.drewN ?_ _) | (with_reducible refine New.hat ?_ _) | ((with_reducible apply New.snart); (with_reducible assumption))))
    have hB : W1.heap[w.heap.size]? = some (.cells (cfgA C) 23 (0, 0)) := by subst hW; exact World.alloc_heap_new w _
    clear hW
    have HB := Lib.hid (And.intro n1 hB)
    clear n1 hB
    go_loopg [5] l.length (fun k s wr => ∃ i : Nat, s = .int .i64 i ∧ i + k = l.length ∧ Hid (∀ j (hj : j < l.length), j < i → mayTB C.wd C.dp l[j] = true) ∧ Hid (New W1 wr))
    case atStart => exact ⟨0, by simp, by omega, Lib.hid (fun _ _ h => absurd h (by omega)), Lib.hid (New.refl _)⟩
    case round =>
      obtain ⟨i, rfl, hik, HNO, HN⟩ := hrel
      by_cases hlt : i < l.length
      · obtain ⟨b0, off, rfl, hA⟩ := HH.out (by omega)
        obtain ⟨d0, d1, d2, d3, d4, d5, d6, d7, d8, d9⟩ := TriR.cells (hA.keep (HB.out.1.trans HN.out)) i hlt
        obtain ⟨c0, c1, c2, c3, c4, c5, c6⟩ := cfg_cs (HN.out.blk HB.out.2)
        have KM1 := fun W => KM.out l[i] W
        clear hA
        cases he : mayTB C.wd C.dp l[i]
        · rw [he] at KM1
          have KM2 := Lib.hid KM1
          have HE : Hid (v = false) := Lib.hid (by
            rw [HV.out]
            unfold mayL
            cases ha : l.all (mayTB C.wd C.dp)
            · simp
            · rw [List.all_eq_true] at ha
              have := ha _ (List.getElem_mem hlt)
              rw [he] at this
              cases this)
          clear KM1 he
          go_wp2_with fail
          (refine wp_region_hat (by kernel_rfl) (by kernel_rfl) ?_; intro hatc hatf; (repeat (go_big_quiet_step ((first | (go_at_call 48; with_reducible exact Calls.hat (KM2.out _)))))); refine wpQuiet_nil ?_; rintro _ ⟨x, rfl⟩)
          have hn := HB.out.1.trans (HN.out.trans x.h)
          generalize x.w = V at *
          go_wp2_with fail
          go_ret
          rw [HE.out]
          exact ⟨rfl, hn⟩
        · rw [he] at KM1
          have KM2 := Lib.hid KM1
          have HE := Lib.hid he
          clear KM1 he
          go_wp2_with fail
          (refine wp_region_hat (by kernel_rfl) (by kernel_rfl) ?_; intro hatc hatf; (repeat (go_big_quiet_step ((first | (go_at_call 48; with_reducible exact Calls.hat (KM2.out _)))))); refine wpQuiet_nil ?_; rintro _ ⟨x, rfl⟩)
          have hn := HN.out.trans x.h
          generalize x.w = V at *
          go_wp2_with fail
          go_roundg (gk - 1)
          case measure => omega
          case rel =>
            refine ⟨i + 1, by go_num, by omega, Lib.hid (fun j hj hji => ?_), Lib.hid hn⟩
            by_cases h : j < i
            · exact HNO.out j hj h
            · obtain rfl : j = i := by omega
              exact HE.out
      · have HE : Hid (v = true) := Lib.hid (by
          rw [HV.out]
          unfold mayL
          rw [decide_eq_true (by omega), Bool.true_and, List.all_eq_true]
          intro x hx
          obtain ⟨j, hj, rfl⟩ := List.getElem_of_mem hx
          exact HNO.out j hj (by omega))
        go_wp2_with fail
        go_ret
        rw [HE.out]
        exact ⟨rfl, HB.out.1.trans HN.out⟩

end Go.Proofs.YtklopjbpfddgfaaGreat

/- The document's own Column. -/
namespace Go.Proofs.YtklopjbpfddgfaaGreat
open Go.RowKit Go.Sort
set_option linter.unusedVariables false

theorem col_out {C : CfgR} {l : List TriR} {x z : Int} (h : rchk C l = 0) (hw : inW C x z = false) : cE C l x z = 0 ∧ cR C l x z = [] := by
  have e : colQ C l x z = [] := by unfold colQ colL; rw [hw]; rfl
  have f : fullB C l x z = false := by unfold fullB; rw [e]; rfl
  obtain ⟨h1, h2⟩ := c_fine h f
  exact ⟨h1, h2.trans e⟩

set_option maxHeartbeats 2000000 in
set_option maxRecDepth 100000 in
theorem q_column (C : CfgR) (at0 : Option Addr) (l : List TriR) (cap : Nat) (hl : l.length ≤ maxLen) (x z : Int) (w : World) (H : RowIn TriR.enc 10 w at0 l) :
    Calls Tryz.prog 33 #[.agg #[.int .i64 C.cl, .int .i64 C.cb, .int .i64 C.ht, .int .i64 C.ri, .int .i64 C.ru, .int .i64 C.wd, .int .i64 C.dp], .slice at0 l.length cap, .int .i64 x, .int .i64 z] w fun e w' =>
      ∃ v, e = .returned (.tuple #[v, .int .i64 (cE C l x z)]) ∧ Sl Sn.enc 3 w' v (cR C l x z) ∧ (∀ g, v.ownBlock = some g → w.heap.size ≤ g) ∧ New w w' := by
  have KE := Lib.hid (fun W => rcheck_any C.cl C.cb C.ht C.ri C.ru C.wd C.dp W)
  have eE : checkE C.cl C.cb C.ht C.ri C.ru C.wd C.dp = C.err := rfl
  rw [eE] at KE
  clear eE
  by_cases hE : C.err = 0
  rotate_left
  · have e20 : C.err = 20 := (err_two C).resolve_left hE
    have ec : rchk C l = 20 := by unfold rchk; rw [if_pos hE, e20]
    obtain ⟨e1, e2⟩ := rchk_no (x := x) (z := z) (by rw [ec]; decide : rchk C l ≠ 0)
    rw [e1, e2, ec]
    rw [e20] at KE
    clear e1 e2 ec e20 hE
    go_enter Tryz.func33, Tryz.ntmps33
    go_wp2_with fail
    generalize hW : World.alloc _ _ = W1
    have n1 : New w W1 := by subst hW; (repeat (first | (with_reducible exact New.refl _) | (with_reducible assumption) | ((with_reducible refine New.setB ?_ ?_ _); focus (first | omega | (simp; omega) | (simp; done))) | (with_reducible refine New.alloc ?_ _) | (with_reducible refine New.drew ?_) | (with_reducible refine New.drewN ?_ _) | (with_reducible refine New.hat ?_ _) | ((with_reducible apply New.snart); (with_reducible assumption))))
    have hB : W1.heap[w.heap.size]? = some (.cells (cfgA C) 23 (0, 0)) := by subst hW; exact World.alloc_heap_new w _
    clear hW
    refine (KE.out _).mono ?_
    rintro e w2 ⟨rfl, n2⟩
    obtain ⟨c0, c1, c2, c3, c4, c5, c6⟩ := cfg_cs (New.blk n2.1 hB)
    go_wp2_with fail
    have hn := n1.trans n2.1
    refine bodyPost_ret (v := .tuple #[.slice none 0 0, .int .i64 20]) (by simp [results, Tryz.results33, go_sem, *]) rfl ?_
    exact ⟨_, rfl, Sl.nil, fun g h => (by simp [Value.ownBlock] at h), hn⟩
  · rw [hE] at KE
    have hC := CfgR.fine_of hE
    have KM := Lib.hid (fun W (n : New w W) => m_may C hC at0 l cap hl W (H.keep n))
    have HH := Lib.hid (fun W (n : New w W) => H.keep n)
    cases hm : mayL C l
    · have ec : rchk C l = 2 := by unfold rchk; rw [if_neg (by simpa using hE), hm]; rfl
      obtain ⟨e1, e2⟩ := rchk_no (x := x) (z := z) (by rw [ec]; decide : rchk C l ≠ 0)
      rw [e1, e2, ec]
      rw [hm] at KM
      clear e1 e2 ec hm hE
      go_enter Tryz.func33, Tryz.ntmps33
      go_wp2_with fail
      generalize hW : World.alloc _ _ = W1
      have n1 : New w W1 := by subst hW; (repeat (first | (with_reducible exact New.refl _) | (with_reducible assumption) | ((with_reducible refine New.setB ?_ ?_ _); focus (first | omega | (simp; omega) | (simp; done))) | (with_reducible refine New.alloc ?_ _) | (with_reducible refine New.drew ?_) | (with_reducible refine New.drewN ?_ _) | (with_reducible refine New.hat ?_ _) | ((with_reducible apply New.snart); (with_reducible assumption))))
      have hB : W1.heap[w.heap.size]? = some (.cells (cfgA C) 23 (0, 0)) := by subst hW; exact World.alloc_heap_new w _
      clear hW
      refine (KE.out _).mono ?_
      rintro e w2 ⟨rfl, n2⟩
      obtain ⟨c0, c1, c2, c3, c4, c5, c6⟩ := cfg_cs (New.blk n2.1 hB)
      go_wp2_with fail
      refine (KM.out _ (n1.trans n2.1)).mono ?_
      rintro e w3 ⟨rfl, n3⟩
      clear c0 c1 c2 c3 c4 c5 c6
      have N3 := Lib.hid (n1.trans (New.trans n2.1 n3))
      have HB := Lib.hid (New.blk n3 (New.blk n2.1 hB))
      clear n1 n2 n3 hB
      go_wp2_with fail
      refine bodyPost_ret (v := .tuple #[.slice none 0 0, .int .i64 2]) (by simp [results, Tryz.results33, go_sem, *]) rfl ?_
      exact ⟨_, rfl, Sl.nil, fun g h => (by simp [Value.ownBlock] at h), N3.out⟩
    · have ec : rchk C l = 0 := by unfold rchk; rw [if_neg (by simpa using hE), hm]; rfl
      obtain ⟨k1, k2, k3⟩ := rchk_zero ec
      rw [hm] at KM
      cases hw : inW C x z
      · obtain ⟨e1, e2⟩ := col_out ec hw
        rw [e1, e2]
        have hne : x < 0 ∨ C.wd ≤ x ∨ z < 0 ∨ C.dp ≤ z := by
          have : ¬ (inW C x z = true) := by rw [hw]; simp
          rw [inW_iff] at this
          omega
        clear e1 e2 ec hm hE hw k1 k2 k3
        go_enter Tryz.func33, Tryz.ntmps33
        go_wp2_with fail
        generalize hW : World.alloc _ _ = W1
        have n1 : New w W1 := by subst hW; (repeat (first | (with_reducible exact New.refl _) | (with_reducible assumption) | ((with_reducible refine New.setB ?_ ?_ _); focus (first | omega | (simp; omega) | (simp; done))) | (with_reducible refine New.alloc ?_ _) | (with_reducible refine New.drew ?_) | (with_reducible refine New.drewN ?_ _) | (with_reducible refine New.hat ?_ _) | ((with_reducible apply New.snart); (with_reducible assumption))))
        have hB : W1.heap[w.heap.size]? = some (.cells (cfgA C) 23 (0, 0)) := by subst hW; exact World.alloc_heap_new w _
        clear hW
        refine (KE.out _).mono ?_
        rintro e w2 ⟨rfl, n2⟩
        obtain ⟨c0, c1, c2, c3, c4, c5, c6⟩ := cfg_cs (New.blk n2.1 hB)
        go_wp2_with fail
        refine (KM.out _ (n1.trans n2.1)).mono ?_
        rintro e w3 ⟨rfl, n3⟩
        clear c0 c1 c2 c3 c4 c5 c6
        have N3 := Lib.hid (n1.trans (New.trans n2.1 n3))
        have HB := Lib.hid (New.blk n3 (New.blk n2.1 hB))
        clear n1 n2 n3 hB
        obtain ⟨c0, c1, c2, c3, c4, c5, c6⟩ := cfg_cs HB.out
        by_cases t1 : x < 0
        · go_wp2_with fail
          refine bodyPost_ret (v := .tuple #[.slice none 0 0, .int .i64 0]) (by simp [results, Tryz.results33, go_sem, *]) rfl ?_
          exact ⟨_, rfl, Sl.nil, fun g h => (by simp [Value.ownBlock] at h), N3.out⟩
        by_cases t2 : C.wd ≤ x
        · go_wp2_with fail
          refine bodyPost_ret (v := .tuple #[.slice none 0 0, .int .i64 0]) (by simp [results, Tryz.results33, go_sem, *]) rfl ?_
          exact ⟨_, rfl, Sl.nil, fun g h => (by simp [Value.ownBlock] at h), N3.out⟩
        by_cases t3 : z < 0
        · go_wp2_with fail
          refine bodyPost_ret (v := .tuple #[.slice none 0 0, .int .i64 0]) (by simp [results, Tryz.results33, go_sem, *]) rfl ?_
          exact ⟨_, rfl, Sl.nil, fun g h => (by simp [Value.ownBlock] at h), N3.out⟩
        have t4 : C.dp ≤ z := by omega
        go_wp2_with fail
        refine bodyPost_ret (v := .tuple #[.slice none 0 0, .int .i64 0]) (by simp [results, Tryz.results33, go_sem, *]) rfl ?_
        exact ⟨_, rfl, Sl.nil, fun g h => (by simp [Value.ownBlock] at h), N3.out⟩
      · have hw' := inW_iff.1 hw
        have t1 : ¬ (x < 0) := by omega
        have t2 : ¬ (C.wd ≤ x) := by omega
        have t3 : ¬ (z < 0) := by omega
        have t4 : ¬ (C.dp ≤ z) := by omega
        have hcol : colL C l x z = l.filterMap (pcO C x z) := by unfold colL; rw [if_pos hw]
        have hfit : ∀ p ∈ l.filterMap (pcO C x z), -2048 ≤ p.lo ∧ p.lo ≤ p.hi ∧ p.hi ≤ 2048 := by rw [← hcol]; exact fun p hp => col_fit hp
        have hcl : (l.filterMap (pcO C x z)).length ≤ 200 := Nat.le_trans (List.length_filterMap_le _ _) k2
        have hq : colQ C l x z = mrg (l.filterMap (pcO C x z)) := by unfold colQ; rw [hcol]
        have HF := Lib.hid (And.intro ec (And.intro hq hfit))
        have KO := Lib.hid (fun T W => r_over T x z W)
        have KW := Lib.hid (fun (T : TriR) W => r_walk C.cl C.cb C.ht C.ri C.ru C.wd C.dp 1 T.x0 T.y0 T.z0 T.x1 T.y1 T.z1 T.x2 T.y2 T.z2 W)
        obtain ⟨i0, hi0, hz0, hz1, hz2⟩ := info_parts span_info
        obtain ⟨EE, hEE⟩ : ∃ E, E = cE C l x z := ⟨_, rfl⟩
        obtain ⟨RR, hRR⟩ : ∃ E, E = cR C l x z := ⟨_, rfl⟩
        rw [← hEE, ← hRR]
        have HEE := Lib.hid (And.intro hEE hRR)
        clear hw hw' hcol hfit hq ec hm hE k1 k3 hEE hRR
        go_enter Tryz.func33, Tryz.ntmps33
        go_wp2_with fail
        generalize hW : World.alloc _ _ = W1
        have n1 : New w W1 := by subst hW; (repeat (first | (with_reducible exact New.refl _) | (with_reducible assumption) | ((with_reducible refine New.setB ?_ ?_ _); focus (first | omega | (simp; omega) | (simp; done))) | (with_reducible refine New.alloc ?_ _) | (with_reducible refine New.drew ?_) | (with_reducible refine New.drewN ?_ _) | (with_reducible refine New.hat ?_ _) | ((with_reducible apply New.snart); (with_reducible assumption))))
        have hB : W1.heap[w.heap.size]? = some (.cells (cfgA C) 23 (0, 0)) := by subst hW; exact World.alloc_heap_new w _
        clear hW
        refine (KE.out _).mono ?_
        rintro e w2 ⟨rfl, n2⟩
        obtain ⟨c0, c1, c2, c3, c4, c5, c6⟩ := cfg_cs (New.blk n2.1 hB)
        go_wp2_with fail
        refine (KM.out _ (n1.trans n2.1)).mono ?_
        rintro e w3 ⟨rfl, n3⟩
        clear c0 c1 c2 c3 c4 c5 c6
        have N3 := Lib.hid (n1.trans (New.trans n2.1 n3))
        have HB := Lib.hid (New.blk n3 (New.blk n2.1 hB))
        clear n1 n2 n3 hB
        obtain ⟨c0, c1, c2, c3, c4, c5, c6⟩ := cfg_cs HB.out
        go_wp2_with fail
        clear c0 c1 c2 c3 c4 c5 c6 t1 t2 t3 t4
        go_loopg [10, 11] l.length (fun k row s wr => ∃ i : Nat, s = .int .i64 i ∧ i + k = l.length ∧ Hid (wr.ownsRow w3.heap.size 45 3 row ((l.take i).filterMap (pcO C x z)).length (((l.take i).filterMap (pcO C x z)).flatMap Sn.enc)) ∧ Hid (New w3 wr))
        case atStart => exact ⟨0, by simp, by omega, Lib.hid (World.ownsRow_nil _ _ _ _), Lib.hid (New.refl _)⟩
        case round =>
          obtain ⟨i, rfl, hik, HO, HN⟩ := hrel
          by_cases hlt : i < l.length
          · obtain ⟨b0, off, rfl, hA⟩ := HH.out w (New.refl _) (by omega)
            have HA := Lib.hid hA
            obtain ⟨d0, d1, d2, d3, d4, d5, d6, d7, d8, d9⟩ := TriR.cells (hA.keep (N3.out.trans HN.out)) i hlt
            have KO1 := fun W => KO.out l[i] W
            clear hA
            have htk : l.take (i + 1) = l.take i ++ [l[i]] := by rw [List.take_add_one, List.getElem?_eq_getElem hlt]; rfl
            have hnext : (l.take (i + 1)).filterMap (pcO C x z) = (l.take i).filterMap (pcO C x z) ++ (pcO C x z l[i]).toList := by
              rw [htk, List.filterMap_append]
              congr 1
            have hle : ((l.take i).filterMap (pcO C x z)).length ≤ 200 := Nat.le_trans (List.length_filterMap_le _ _) (by rw [List.length_take]; omega)
            have KW1 := fun W => KW.out l[i] W
            clear htk
            generalize l[i] = T at *
            have ewk : walkB C.cl C.cb C.ht C.ri C.ru C.wd C.dp T.x0 T.y0 T.z0 T.x1 T.y1 T.z1 T.x2 T.y2 T.z2 = walkT C T := rfl
            rw [ewk] at KW1
            clear ewk
            cases ho : ovB T x z
            · have hp : pcO C x z T = none := by unfold pcO; rw [ho]; rfl
              rw [hp] at hnext
              simp only [Option.toList_none, List.append_nil] at hnext
              rw [ho] at KO1
              have HX := Lib.hid hnext
              replace KO1 := Lib.hid KO1
              clear hnext hp ho KW1
              go_wp2_with fail
              refine (KO1.out _).mono ?_
              rintro e w5 ⟨rfl, n5⟩
              have N5 := Lib.hid n5
              clear n5 d0 d1 d2 d3 d4 d5 d6 d7 d8 d9
              go_wp2_with fail
              go_roundg (gk - 1)
              case measure => omega
              case rel => exact ⟨i + 1, by go_num, by omega, Lib.hid (by rw [HX.out]; exact own_new HO.out N5.out), Lib.hid (HN.out.trans N5.out)⟩
            · have hp : pcO C x z T = some ⟨ovLo T x z, ovHi T x z, walkT C T⟩ := by unfold pcO; rw [ho]; rfl
              rw [hp] at hnext
              simp only [Option.toList_some] at hnext
              have hlen : ((l.take i).filterMap (pcO C x z) ++ [(⟨ovLo T x z, ovHi T x z, walkT C T⟩ : Sn)]).length = ((l.take i).filterMap (pcO C x z)).length + 1 := by rw [List.length_append]; rfl
              have hfl : ((l.take i).filterMap (pcO C x z) ++ [(⟨ovLo T x z, ovHi T x z, walkT C T⟩ : Sn)]).flatMap Sn.enc = ((l.take i).filterMap (pcO C x z)).flatMap Sn.enc ++ (⟨ovLo T x z, ovHi T x z, walkT C T⟩ : Sn).enc := by rw [List.flatMap_append]; simp
              rw [ho] at KO1
              have HX := Lib.hid (And.intro hnext (And.intro hlen hfl))
              replace KO1 := Lib.hid KO1
              replace KW1 := Lib.hid KW1
              clear hnext hp ho hlen hfl
              go_wp2_with fail
              refine (KO1.out _).mono ?_
              rintro e w5 ⟨rfl, n5⟩
              replace d0 := n5.keep d0
              replace d1 := n5.keep d1
              replace d2 := n5.keep d2
              replace d3 := n5.keep d3
              replace d4 := n5.keep d4
              replace d5 := n5.keep d5
              replace d6 := n5.keep d6
              replace d7 := n5.keep d7
              replace d8 := n5.keep d8
              replace d9 := n5.keep d9
              obtain ⟨c0, c1, c2, c3, c4, c5, c6⟩ := cfg_cs ((HN.out.trans n5).blk HB.out)
              have lz := World.block_lt_of_cell? _ _ c0
              go_wp2_with fail
              generalize hW : World.alloc _ _ = W6
              have n6 : New w5 W6 := by subst hW; (repeat (first | (with_reducible exact New.refl _) | (with_reducible assumption) | ((with_reducible refine New.setB ?_ ?_ _); focus (first | omega | (simp; omega) | (simp; done))) | (with_reducible refine New.alloc ?_ _) | (with_reducible refine New.drew ?_) | (with_reducible refine New.drewN ?_ _) | (with_reducible refine New.hat ?_ _) | ((with_reducible apply New.snart); (with_reducible assumption))))
              clear hW d0 d1 d2 d3 d4 d5 d6 d7 d8 d9 c0 c1 c2 c3 c4 c5 c6
              refine (KW1.out _).mono ?_
              rintro e w7 ⟨rfl, n7⟩
              have N7 := Lib.hid (n5.trans (n6.trans n7))
              have HO7 := Lib.hid ((own_new HO.out (n5.trans (n6.trans n7))).alloc (.cells #[.int .i64 (ovLo T x z), .int .i64 (ovHi T x z), .bool (walkT C T)] 45))
              have hb7 : w3.heap.size ≤ w7.heap.size := by
                have := HN.out.size
                have := N7.out.size
                omega
              clear n5 n6 n7
              go_wp2_with (at_builtin; refine wpList_append_own _ rfl _ _ 24 rfl w3.heap.size 45 i0 (.agg #[.int .i64 0, .int .i64 0, .bool false]) 3 24 Tryz.underlying24 hi0 hz0 hz1 hz2 rfl (by decide) _ _ _ rfl HO7.out ⟨w7.heap.size, 0, none⟩ 1 1 (⟨ovLo T x z, ovHi T x z, walkT C T⟩ : Sn).enc rfl rfl (ra_sn_new w7 ⟨ovLo T x z, ovHi T x z, walkT C T⟩ 45) (Sn.enc_one _) (by unfold maxLen; omega) (by omega) (by simp; omega) ?_; intro v' w8 hown' hgrow _)
              go_roundg (gk - 1)
              case measure => omega
              case rel =>
                refine ⟨i + 1, by go_num, by omega, Lib.hid ?_, Lib.hid ?_⟩
                · rw [HX.out.1, HX.out.2.1, HX.out.2.2]
                  exact hown'
                · exact newGrown (HN.out.trans (N7.out.trans ((New.refl w7).alloc _))) hgrow (fun k hk => (HO.out.lt k hk).1)
          · obtain rfl : i = l.length := by omega
            have hOO := HO.out
            rw [List.take_length] at hOO
            obtain ⟨oa, oc, on, hon, rfl⟩ := own_shape2 hOO
            have HOS := own_sl Sn.enc_len hOO
            rw [hon] at HOS ⊢
            have KM2 := Lib.hid (r_merge_own oa (l.filterMap (pcO C x z)) oc (by omega) wr HOS)
            clear hOO HOS hon
            go_wp2_with fail
            refine KM2.out.mono ?_
            rintro e w5 ⟨n5, ⟨h1, -⟩ | ⟨-, R, a, c', hM, hR, rfl, hs, hfr⟩⟩
            · have hbad : fstB badS (l.filterMap (pcO C x z)) = false := FitS.bad HF.out.2.2
              rw [hbad] at h1
              cases h1
            have eR : R = colQ C l x z := by rw [HF.out.2.1]; exact mrg_eq (fun p hp => (HF.out.2.2 p hp).2.1) hM
            have N5 := Lib.hid (N3.out.trans (HN.out.trans n5))
            have hR2 : R.length ≤ 200 := by omega
            have HS5 := Lib.hid (And.intro hs (fun g h => Nat.le_trans (N3.out.trans HN.out).size (hfr g h) : ∀ g, (Value.slice a R.length c').ownBlock = some g → w.heap.size ≤ g))
            clear hfr
            by_cases h8 : 8 < R.length
            · have HE : Hid (EE = 51 ∧ RR = []) := Lib.hid (by rw [HEE.out.1, HEE.out.2]; exact c_full HF.out.1 (by unfold fullB; rw [← eR, decide_eq_true h8]))
              have hd : ((R.length : Int) > 8) := by omega
              clear eR hM n5 hs
              obtain ⟨e1, e2⟩ := HE.out
              clear HE HEE
              subst e1 e2
              go_wp2_with fail
              refine bodyPost_ret (v := .tuple #[.slice none 0 0, .int .i64 51]) (by simp [results, Tryz.results33, go_sem, *]) rfl ?_
              exact ⟨_, rfl, Sl.nil, fun g h => (by simp [Value.ownBlock] at h), N5.out⟩
            · have HE : Hid (EE = 0 ∧ RR = R) := Lib.hid (by
                rw [HEE.out.1, HEE.out.2]
                obtain ⟨q1, q2⟩ := c_fine (x := x) (z := z) HF.out.1 (by unfold fullB; rw [← eR, decide_eq_false h8])
                exact ⟨q1, q2.trans eR.symm⟩)
              have hd : ¬ ((R.length : Int) > 8) := by omega
              clear eR hM n5 hs
              obtain ⟨e1, e2⟩ := HE.out
              clear HE HEE
              subst e1 e2
              go_wp2_with fail
              refine bodyPost_ret (v := .tuple #[.slice a RR.length c', .int .i64 0]) (by simp [results, Tryz.results33, go_sem, *]) rfl ?_
              exact ⟨_, rfl, HS5.out.1, HS5.out.2, N5.out⟩

end Go.Proofs.YtklopjbpfddgfaaGreat

/- The document's own Box. -/
namespace Go.Proofs.YtklopjbpfddgfaaGreat
open Go.RowKit Go.Sort
set_option linter.unusedVariables false

theorem at_ji (C : CfgR) (l : List TriR) (x z : Int) (wn j i : Nat) (hi : i < wn) : plX x wn (j * wn + i) = x + i ∧ plZ z wn (j * wn + i) = z + j := by
  unfold plX plZ
  have h1 : (j * wn + i) % wn = i := by rw [Nat.add_comm, Nat.add_mul_mod_self_right, Nat.mod_eq_of_lt hi]
  have h2 : (j * wn + i) / wn = j := by rw [Nat.add_comm, Nat.add_mul_div_right _ _ (by omega), Nat.div_eq_of_lt hi, Nat.zero_add]
  rw [← Int.natCast_emod, ← Int.natCast_ediv, h1, h2]
  exact ⟨rfl, rfl⟩
theorem cE_zero {C : CfgR} {l : List TriR} {x z : Int} (h : rchk C l = 0) : cE C l x z = if fullB C l x z then 51 else 0 := by
  unfold cE
  rw [if_neg (by simpa using h)]

set_option maxHeartbeats 4000000 in
set_option maxRecDepth 100000 in
theorem q_box (C : CfgR) (at0 : Option Addr) (l : List TriR) (cap : Nat) (hl : l.length ≤ maxLen) (x z wi d : Int) (w : World) (H : RowIn TriR.enc 10 w at0 l) :
    Calls Tryz.prog 20 #[.agg #[.int .i64 C.cl, .int .i64 C.cb, .int .i64 C.ht, .int .i64 C.ri, .int .i64 C.ru, .int .i64 C.wd, .int .i64 C.dp], .slice at0 l.length cap, .int .i64 x, .int .i64 z, .int .i64 wi, .int .i64 d] w fun e w' =>
      ∃ v, e = .returned (.tuple #[v, .int .i64 (bE C l x z wi d)]) ∧ RowsV w' v (bR C l x z wi d) ∧ New w w' := by
  have KE := Lib.hid (fun W => rcheck_any C.cl C.cb C.ht C.ri C.ru C.wd C.dp W)
  have eE : checkE C.cl C.cb C.ht C.ri C.ru C.wd C.dp = C.err := rfl
  rw [eE] at KE
  clear eE
  by_cases hE : C.err = 0
  rotate_left
  · have e20 : C.err = 20 := (err_two C).resolve_left hE
    have ec : rchk C l = 20 := by unfold rchk; rw [if_pos hE, e20]
    obtain ⟨e1, e2⟩ := b_no (x := x) (z := z) (w := wi) (d := d) (by rw [ec]; decide : rchk C l ≠ 0)
    rw [e1, e2, ec]
    rw [e20] at KE
    clear e1 e2 ec e20 hE
    go_enter Tryz.func20, Tryz.ntmps20
    go_wp2_with fail
    generalize hW : World.alloc _ _ = W1
    have n1 : New w W1 := by subst hW; (repeat (first | (with_reducible exact New.refl _) | (with_reducible assumption) | ((with_reducible refine New.setB ?_ ?_ _); focus (first | omega | (simp; omega) | (simp; done))) | (with_reducible refine New.alloc ?_ _) | (with_reducible refine New.drew ?_) | (with_reducible refine New.drewN ?_ _) | (with_reducible refine New.hat ?_ _) | ((with_reducible apply New.snart); (with_reducible assumption))))
    have hB : W1.heap[w.heap.size]? = some (.cells (cfgA C) 23 (0, 0)) := by subst hW; exact World.alloc_heap_new w _
    clear hW
    refine (KE.out _).mono ?_
    rintro e w2 ⟨rfl, n2⟩
    obtain ⟨c0, c1, c2, c3, c4, c5, c6⟩ := cfg_cs (New.blk n2.1 hB)
    go_wp2_with fail
    have hn := n1.trans n2.1
    refine bodyPost_ret (v := .tuple #[.slice none 0 0, .int .i64 20]) (by simp [results, Tryz.results20, go_sem, *]) rfl ?_
    exact ⟨_, rfl, RowsV.nil, hn⟩
  · rw [hE] at KE
    have hC := CfgR.fine_of hE
    have KM := Lib.hid (fun W (n : New w W) => m_may C hC at0 l cap hl W (H.keep n))
    have KB := Lib.hid (fun W => r_box x z wi d W)
    cases hm : mayL C l
    · have ec : rchk C l = 2 := by unfold rchk; rw [if_neg (by simpa using hE), hm]; rfl
      obtain ⟨e1, e2⟩ := b_no (x := x) (z := z) (w := wi) (d := d) (by rw [ec]; decide : rchk C l ≠ 0)
      rw [e1, e2, ec]
      rw [hm] at KM
      clear e1 e2 ec hm hE
      go_enter Tryz.func20, Tryz.ntmps20
      go_wp2_with fail
      generalize hW : World.alloc _ _ = W1
      have n1 : New w W1 := by subst hW; (repeat (first | (with_reducible exact New.refl _) | (with_reducible assumption) | ((with_reducible refine New.setB ?_ ?_ _); focus (first | omega | (simp; omega) | (simp; done))) | (with_reducible refine New.alloc ?_ _) | (with_reducible refine New.drew ?_) | (with_reducible refine New.drewN ?_ _) | (with_reducible refine New.hat ?_ _) | ((with_reducible apply New.snart); (with_reducible assumption))))
      have hB : W1.heap[w.heap.size]? = some (.cells (cfgA C) 23 (0, 0)) := by subst hW; exact World.alloc_heap_new w _
      clear hW
      refine (KE.out _).mono ?_
      rintro e w2 ⟨rfl, n2⟩
      obtain ⟨c0, c1, c2, c3, c4, c5, c6⟩ := cfg_cs (New.blk n2.1 hB)
      go_wp2_with fail
      refine (KM.out _ (n1.trans n2.1)).mono ?_
      rintro e w3 ⟨rfl, n3⟩
      clear c0 c1 c2 c3 c4 c5 c6
      have N3 := Lib.hid (n1.trans (New.trans n2.1 n3))
      have HB := Lib.hid (New.blk n3 (New.blk n2.1 hB))
      clear n1 n2 n3 hB
      go_wp2_with fail
      refine bodyPost_ret (v := .tuple #[.slice none 0 0, .int .i64 2]) (by simp [results, Tryz.results20, go_sem, *]) rfl ?_
      exact ⟨_, rfl, RowsV.nil, N3.out⟩
    · have ec : rchk C l = 0 := by unfold rchk; rw [if_neg (by simpa using hE), hm]; rfl
      rw [hm] at KM
      cases hb : boxB x z wi d
      · obtain ⟨e1, e2⟩ := b_not ec hb
        rw [e1, e2]
        rw [hb] at KB
        clear e1 e2 ec hm hE hb
        go_enter Tryz.func20, Tryz.ntmps20
        go_wp2_with fail
        generalize hW : World.alloc _ _ = W1
        have n1 : New w W1 := by subst hW; (repeat (first | (with_reducible exact New.refl _) | (with_reducible assumption) | ((with_reducible refine New.setB ?_ ?_ _); focus (first | omega | (simp; omega) | (simp; done))) | (with_reducible refine New.alloc ?_ _) | (with_reducible refine New.drew ?_) | (with_reducible refine New.drewN ?_ _) | (with_reducible refine New.hat ?_ _) | ((with_reducible apply New.snart); (with_reducible assumption))))
        have hB : W1.heap[w.heap.size]? = some (.cells (cfgA C) 23 (0, 0)) := by subst hW; exact World.alloc_heap_new w _
        clear hW
        refine (KE.out _).mono ?_
        rintro e w2 ⟨rfl, n2⟩
        obtain ⟨c0, c1, c2, c3, c4, c5, c6⟩ := cfg_cs (New.blk n2.1 hB)
        go_wp2_with fail
        refine (KM.out _ (n1.trans n2.1)).mono ?_
        rintro e w3 ⟨rfl, n3⟩
        clear c0 c1 c2 c3 c4 c5 c6
        have N3 := Lib.hid (n1.trans (New.trans n2.1 n3))
        have HB := Lib.hid (New.blk n3 (New.blk n2.1 hB))
        clear n1 n2 n3 hB
        go_wp2_with fail
        refine (KB.out _).mono ?_
        rintro e w4 ⟨rfl, n4⟩
        have N4 := Lib.hid (N3.out.trans n4)
        have HB4 := Lib.hid (n4.blk HB.out)
        clear n4
        go_wp2_with fail
        refine bodyPost_ret (v := .tuple #[.slice none 0 0, .int .i64 2]) (by simp [results, Tryz.results20, go_sem, *]) rfl ?_
        exact ⟨_, rfl, RowsV.nil, N4.out⟩
      · rw [hb] at KB
        have hbb := boxB_iff.1 hb
        obtain ⟨i0, hi0, hz0, hz1, hz2⟩ := info_parts rows_info
        have KC := Lib.hid (fun x z W (n : New w W) => q_column C at0 l cap hl x z W (H.keep n))
        obtain ⟨EE, hEE⟩ : ∃ E, E = bE C l x z wi d := ⟨_, rfl⟩
        obtain ⟨RR, hRR⟩ : ∃ E, E = bR C l x z wi d := ⟨_, rfl⟩
        rw [← hEE, ← hRR]
        obtain ⟨wn, hw⟩ : ∃ wn : Nat, wi = wn := ⟨wi.toNat, by omega⟩
        obtain ⟨dn, hd⟩ : ∃ dn : Nat, d = dn := ⟨d.toNat, by omega⟩
        subst hw hd
        have hbn : ((wn : Int) * (dn : Int)).toNat = dn * wn := by rw [← Int.natCast_mul, Int.toNat_natCast, Nat.mul_comm]
        have HF : Hid (anyF C l x z wn (dn * wn) = true → EE = 51 ∧ RR = []) := Lib.hid (fun hf => by rw [hEE, hRR]; exact b_full ec hb (by rw [hbn]; exact hf))
        have HG : Hid (anyF C l x z wn (dn * wn) = false → EE = 0 ∧ RR = rowsL C l x z wn (dn * wn)) := Lib.hid (fun hf => by rw [hEE, hRR, ← hbn]; exact b_fine ec hb (by rw [hbn]; exact hf))
        have HEC := Lib.hid ec
        have hpn : dn * wn ≤ 64 * 64 := Nat.mul_le_mul (by omega) (by omega)
        clear hm hE hb ec hEE hRR hbn
        go_enter Tryz.func20, Tryz.ntmps20
        go_wp2_with fail
        generalize hW : World.alloc _ _ = W1
        have n1 : New w W1 := by subst hW; (repeat (first | (with_reducible exact New.refl _) | (with_reducible assumption) | ((with_reducible refine New.setB ?_ ?_ _); focus (first | omega | (simp; omega) | (simp; done))) | (with_reducible refine New.alloc ?_ _) | (with_reducible refine New.drew ?_) | (with_reducible refine New.drewN ?_ _) | (with_reducible refine New.hat ?_ _) | ((with_reducible apply New.snart); (with_reducible assumption))))
        have hB : W1.heap[w.heap.size]? = some (.cells (cfgA C) 23 (0, 0)) := by subst hW; exact World.alloc_heap_new w _
        clear hW
        refine (KE.out _).mono ?_
        rintro e w2 ⟨rfl, n2⟩
        obtain ⟨c0, c1, c2, c3, c4, c5, c6⟩ := cfg_cs (New.blk n2.1 hB)
        go_wp2_with fail
        refine (KM.out _ (n1.trans n2.1)).mono ?_
        rintro e w3 ⟨rfl, n3⟩
        clear c0 c1 c2 c3 c4 c5 c6
        have N3 := Lib.hid (n1.trans (New.trans n2.1 n3))
        have HB := Lib.hid (New.blk n3 (New.blk n2.1 hB))
        clear n1 n2 n3 hB
        go_wp2_with fail
        refine (KB.out _).mono ?_
        rintro e w4 ⟨rfl, n4⟩
        have N4 := Lib.hid (N3.out.trans n4)
        have HB4 := Lib.hid (n4.blk HB.out)
        clear n4
        go_wp2_with fail
        go_loopg [14, 15] dn (fun k o s wr => ∃ (j : Nat) (us : List Value), s = .int .i64 j ∧ j + k = dn ∧ Hid (RowsO 24 w4.heap.size wr o us (rowsL C l x z wn (j * wn))) ∧ Hid (New w4 wr) ∧ Hid (anyF C l x z wn (j * wn) = false))
        case atStart => exact ⟨0, [], by simp, by omega, Lib.hid (by rw [Nat.zero_mul]; exact RowsO.nil), Lib.hid (New.refl _), Lib.hid (by rw [Nat.zero_mul]; rfl)⟩
        case round =>
          obtain ⟨j, us, rfl, hjk, HR, HN, HE⟩ := hrel
          by_cases hj : j < dn
          · go_wp2_with fail
            go_loopg [14, 16] wn (fun k o s wr2 => ∃ (i : Nat) (us : List Value), s = .int .i64 i ∧ i + k = wn ∧ Hid (RowsO 24 w4.heap.size wr2 o us (rowsL C l x z wn (j * wn + i))) ∧ Hid (New w4 wr2) ∧ Hid (anyF C l x z wn (j * wn + i) = false))
            case atStart => exact ⟨0, us, by simp, by omega, HR, HN, HE⟩
            case round =>
              clear HR HN HE us
              obtain ⟨i, us, rfl, hik, HR, HN, HE⟩ := hrel
              obtain ⟨c0, c1, c2, c3, c4, c5, c6⟩ := cfg_cs (HN.out.blk HB4.out)
              by_cases hiw : i < wn
              · have hm : j * wn + i < dn * wn := by
                  have h5 : (j + 1) * wn ≤ dn * wn := Nat.mul_le_mul_right _ (by omega)
                  rw [Nat.add_mul, Nat.one_mul] at h5
                  omega
                obtain ⟨p1, p2⟩ := at_ji C l x z wn j i hiw
                have w1 : IntKind.i64.wrap (x + (i : Int)) = x + (i : Int) := IntWalk.i64_in _ (by omega)
                have w2' : IntKind.i64.wrap (z + (j : Int)) = z + (j : Int) := IntWalk.i64_in _ (by omega)
                have KC1 := fun W (n : New w W) => KC.out (x + i) (z + j) W n
                rw [cE_zero HEC.out] at KC1
                have hF : atF C l x z wn (j * wn + i) = fullB C l (x + i) (z + j) := by unfold atF; rw [p1, p2]
                have hQ : atQ C l x z wn (j * wn + i) = colQ C l (x + i) (z + j) := by unfold atQ; rw [p1, p2]
                have hsz1 := HN.out.size
                have HM := Lib.hid hm
                clear hm p1 p2
                cases hf : fullB C l (x + i) (z + j)
                · have hR : cR C l (x + i) (z + j) = colQ C l (x + i) (z + j) := (c_fine HEC.out hf).2
                  rw [hf, hR] at KC1
                  simp only [Bool.false_eq_true, if_false] at KC1
                  replace KC1 := Lib.hid KC1
                  have HE' : Hid (anyF C l x z wn (j * wn + (i + 1)) = false) := Lib.hid (by rw [← Nat.add_assoc, anyF_succ, HE.out, hF, hf]; rfl)
                  have HQ := Lib.hid hQ
                  clear hf hF hQ hR
                  go_wp2_with fail
                  refine (KC1.out _ (N4.out.trans HN.out)).mono ?_
                  rintro e w5 ⟨v, rfl, hs, hfr, n5⟩
                  have HS := Lib.hid hs
                  obtain ⟨va, vc, rfl, -⟩ := hs
                  have HFR := Lib.hid (And.intro hfr n5)
                  have hsz3 := n5.size
                  clear hfr n5 c0 c1 c2 c3 c4 c5 c6
                  generalize colQ C l (x + i) (z + j) = qq at *
                  have HRn := Lib.hid (HR.out.new (HFR.out.2.trans ((New.refl w5).alloc (.cells #[.slice va qq.length vc] 24))))
                  have hul : us.length = j * wn + i := by rw [HR.out.len, rowsL_len]
                  have hM := HM.out
                  go_wp2_with (at_builtin; refine wpList_append_own_at _ rfl _ _ 55 rfl w4.heap.size 24 i0 (.slice none 0 0) 1 24 Tryz.underlying55 hi0 hz0 hz1 hz2 rfl (by decide) _ _ _ rfl HRn.out.own ⟨w5.heap.size, 0, none⟩ 1 1 [.slice va qq.length vc] rfl rfl (cell_one_new _ _ _) (by intro u hu; rw [List.mem_singleton] at hu; subst hu; rfl) (by unfold maxLen; omega) (by omega) (by simp; omega) ?_; intro v' w6 hown' hgrow _ hat)
                  go_roundg (gk - 1)
                  case measure => omega
                  case rel =>
                    refine ⟨i + 1, us ++ [.slice va qq.length vc], by go_num, by omega, Lib.hid ?_, Lib.hid ?_, HE'⟩
                    · rw [← Nat.add_assoc, rowsL_succ, HQ.out]
                      refine HRn.out.push (HS.out.keep ((New.refl w5).alloc _)) (fun _ g hg hv => ?_) hown' hgrow hat
                      have q1 := HFR.out.1 g hg
                      have q2 := (HR.out.own.lt g hv).2
                      omega
                    · exact newGrown (HN.out.trans (HFR.out.2.trans ((New.refl w5).alloc _))) hgrow (fun k hk => (HR.out.own.lt k hk).1)
                · rw [hf] at KC1
                  simp only [if_true] at KC1
                  replace KC1 := Lib.hid KC1
                  have HA := Lib.hid (HF.out (anyF_of HM.out (by rw [hF, hf])))
                  clear hf hF hQ
                  go_wp2_with fail
                  refine (KC1.out _ (N4.out.trans HN.out)).mono ?_
                  rintro e w5 ⟨v, rfl, hs, hfr, n5⟩
                  obtain ⟨va, vc, rfl, -⟩ := hs
                  have N5 := Lib.hid (N4.out.trans (HN.out.trans n5))
                  clear hfr n5 c0 c1 c2 c3 c4 c5 c6
                  obtain ⟨e1, e2⟩ := HA.out
                  clear HA HF HG
                  subst e1 e2
                  go_wp2_with fail
                  refine bodyPost_ret (v := .tuple #[.slice none 0 0, .int .i64 51]) (by simp [results, Tryz.results20, go_sem, *]) rfl ?_
                  exact ⟨_, rfl, RowsV.nil, N5.out⟩
              · obtain rfl : i = wn := by omega
                clear c0 c1 c2 c3 c4 c5 c6
                go_wp2_with fail
                go_roundg (dn - j - 1)
                case measure => omega
                case rel =>
                  have e : (j + 1) * i = j * i + i := by rw [Nat.add_mul, Nat.one_mul]
                  refine ⟨j + 1, us, by go_num, by omega, ?_, HN, ?_⟩
                  · rw [e]; exact HR
                  · rw [e]; exact HE
          · obtain rfl : j = dn := by omega
            obtain ⟨e1, e2⟩ := HG.out HE.out
            have HRR := Lib.hid HR.out.rows
            have hsh := HRR.out
            obtain ⟨us', -, ⟨va, vc, rfl, -⟩, -⟩ := hsh
            clear HF HG
            subst e1 e2
            go_wp2_with fail
            refine bodyPost_ret (v := .tuple #[.slice va us'.length vc, .int .i64 0]) (by simp [results, Tryz.results20, go_sem, *]) rfl ?_
            exact ⟨_, rfl, HRR.out, N4.out.trans HN.out⟩

end Go.Proofs.YtklopjbpfddgfaaGreat
