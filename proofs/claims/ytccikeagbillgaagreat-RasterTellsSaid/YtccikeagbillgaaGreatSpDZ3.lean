import Derived.Test.YtccikeagbillgaaGreatSpAZ3
import Derived.Test.YtccikeagbillgaaGreatSoCBZ3
import Derived.Test.YtccikeagbillgaaGreatTriFZ3
import Derived.Test.YtccikeagbillgaaGreatTriGZ3
import Derived.Test.YtccikeagbillgaaGreatClBZ3
import Derived.Test.YtccikeagbillgaaGreatWholeBZ3

/- Triangles that may be, boxes of columns, what is merged: plain numbers. No function of the program in sight. -/
namespace Go.Proofs.YtccikeagbillgaaGreat
open Go.RowKit
set_option linter.unusedVariables false

def badP (p : Sn) : Bool := decide (p.lo < -2048) || decide (p.hi < p.lo) || decide (2048 < p.hi)

/-! What is merged. -/
def mrg (l : List Sn) : List Sn := l.foldl (fun R s => putS s R false) []
theorem mrg_snoc (l : List Sn) (s : Sn) : mrg (l ++ [s]) = putS s (mrg l) false := by unfold mrg; rw [List.foldl_append]; rfl
theorem mrg_is_aux : ∀ (m l R : List Sn), Proper l → Proper m → IsM l R → IsM (l ++ m) (m.foldl (fun R s => putS s R false) R)
  | [], l, R, _, _, h => by simpa using h
  | s :: m, l, R, hl, hm, h => by
    have hs := hm s List.mem_cons_self
    have h1 := IsM.put hl h hs
    have := mrg_is_aux m (l ++ [s]) _ (fun p hp => by
      rcases List.mem_append.1 hp with k | k
      · exact hl p k
      · rw [List.mem_singleton] at k; subst k; exact hs) (fun p hp => hm p (List.mem_cons_of_mem _ hp)) h1
    rw [List.append_assoc] at this
    exact this
theorem mrg_is {l : List Sn} (h : Proper l) : IsM l (mrg l) := by
  have := mrg_is_aux l [] [] (fun p hp => by simp at hp) h IsM.nil
  unfold mrg
  simpa using this
theorem mrg_eq {l R : List Sn} (h : Proper l) (hR : IsM l R) : R = mrg l := IsM.uniq h hR (mrg_is h) (fun _ => Iff.rfl)
theorem mrg_congr {l m : List Sn} (h : Proper l) (e : ∀ p, p ∈ l ↔ p ∈ m) : mrg l = mrg m :=
  IsM.uniq h (mrg_is h) (mrg_is (fun p hp => h p ((e p).2 hp))) e

/-! Triangles. -/
def walkT (C : CfgR) (T : TriR) : Bool := walkB C.cl C.cb C.ht C.ri C.ru C.wd C.dp T.x0 T.y0 T.z0 T.x1 T.y1 T.z1 T.x2 T.y2 T.z2
def mayL (C : CfgR) (l : List TriR) : Bool := decide (l.length ≤ 200) && l.all (mayTB C.wd C.dp)
/-- What the checks ahead answer. -/
def rchk (C : CfgR) (l : List TriR) : Int := if C.err ≠ 0 then C.err else if mayL C l then 0 else 2
theorem err_two (C : CfgR) : C.err = 0 ∨ C.err = 20 := checkE_two _ _ _ _ _ _ _
theorem rchk_zero {C : CfgR} {l : List TriR} (h : rchk C l = 0) : C.err = 0 ∧ l.length ≤ 200 ∧ ∀ T ∈ l, mayTB C.wd C.dp T = true := by
  unfold rchk at h
  split at h
  · rename_i h1; exact absurd h h1
  · rename_i h1
    split at h
    · rename_i h2
      unfold mayL at h2
      rw [Bool.and_eq_true, decide_eq_true_eq, List.all_eq_true] at h2
      exact ⟨by simpa using h1, h2.1, h2.2⟩
    · omega
theorem rchk_of {C : CfgR} {l : List TriR} (h0 : C.err = 0) (h1 : l.length ≤ 200) (h2 : ∀ T ∈ l, mayTB C.wd C.dp T = true) : rchk C l = 0 := by
  unfold rchk mayL
  have e : (decide (l.length ≤ 200) && l.all (mayTB C.wd C.dp)) = true := by rw [Bool.and_eq_true, decide_eq_true_eq, List.all_eq_true]; exact ⟨h1, h2⟩
  rw [if_neg (by simpa using h0), if_pos e]
theorem mayT_iff {wd dp : Int} {T : TriR} : mayTB wd dp T = true ↔ StP wd dp T.x0 T.y0 T.z0 T.x1 T.y1 T.z1 T.x2 T.y2 T.z2 ∧ tny T ≠ 0 := by
  unfold mayTB outV heiB StP StV tny nyI
  simp only [Bool.and_eq_true, Bool.not_eq_true', Bool.or_eq_false_iff, decide_eq_false_iff_not, bne_iff_ne, Bool.not_eq_false', decide_eq_true_eq]
  constructor
  · rintro ⟨⟨⟨h0, h1⟩, h2⟩, h3⟩
    refine ⟨⟨⟨?_, ?_, ?_⟩, ⟨?_, ?_, ?_⟩, ⟨?_, ?_, ?_⟩⟩, fun e => h3 (by grind)⟩ <;> omega
  · rintro ⟨⟨h0, h1, h2⟩, h3⟩
    refine ⟨⟨⟨?_, ?_⟩, ?_⟩, fun e => h3 (by grind)⟩ <;> omega
theorem okT_iff' {T : TriR} : okT T = true ↔ StP 32 32 T.x0 T.y0 T.z0 T.x1 T.y1 T.z1 T.x2 T.y2 T.z2 ∧ tny T ≠ 0 := by
  unfold okT okB tny
  rw [Bool.and_eq_true, stB_iff, bne_iff_ne]
theorem mayT_ok {C : CfgR} (hC : C.fine) {T : TriR} (h : mayTB C.wd C.dp T = true) : okT T = true := by
  obtain ⟨h1, h2⟩ := mayT_iff.1 h
  have := hC.w2
  have := hC.d2
  refine okT_iff'.2 ⟨?_, h2⟩
  unfold StP StV at h1 ⊢
  omega
/-- What tri's own check answers, its id 1. -/
theorem mayT_check {C : CfgR} (hC : C.fine) (T : TriR) : tCheckE C.cl C.cb C.ht C.ri C.ru C.wd C.dp 1 T.x0 T.y0 T.z0 T.x1 T.y1 T.z1 T.x2 T.y2 T.z2 = if mayTB C.wd C.dp T then 0 else 40 := by
  have h0 : checkE C.cl C.cb C.ht C.ri C.ru C.wd C.dp = 0 := hC.err
  unfold tCheckE
  rw [if_neg (by simpa using h0)]
  by_cases h : mayTB C.wd C.dp T = true
  · rw [if_pos h, if_pos ⟨by decide, stB_iff.2 (mayT_iff.1 h).1, mayT_ok hC h⟩]
  · rw [if_neg h, if_neg]
    rintro ⟨-, h1, h2⟩
    exact h (mayT_iff.2 ⟨stB_iff.1 h1, (okT_iff'.1 h2).2⟩)

/-- What stands at a place of a box. -/
def plX (x w : Int) (n : Nat) : Int := x + (n : Int) % w
def plZ (z w : Int) (n : Nat) : Int := z + (n : Int) / w
def boxB (x z w d : Int) : Bool := decide (-64 ≤ x) && decide (x ≤ 64) && decide (-64 ≤ z) && decide (z ≤ 64) && decide (0 ≤ w) && decide (w ≤ 64) && decide (0 ≤ d) && decide (d ≤ 64)
theorem boxB_iff {x z w d : Int} : boxB x z w d = true ↔ (-64 ≤ x ∧ x ≤ 64) ∧ (-64 ≤ z ∧ z ≤ 64) ∧ (0 ≤ w ∧ w ≤ 64) ∧ (0 ≤ d ∧ d ≤ 64) := by
  unfold boxB; simp only [Bool.and_eq_true, decide_eq_true_eq, and_assoc]

/-- A box of columns. -/
structure Bx where
  (x z w d : Int)
def i64B (n : Int) : Prop := -9223372036854775808 ≤ n ∧ n ≤ 9223372036854775807
structure Bx.ok (b : Bx) : Prop where
  w0 : 0 ≤ b.w
  w1 : b.w ≤ 64
  d0 : 0 ≤ b.d
  d1 : b.d ≤ 64
  x0 : i64B b.x
  z0 : i64B b.z
  x1 : i64B (b.x + (b.w - 1))
  z1 : i64B (b.z + (b.d - 1))
def Bx.n (b : Bx) : Nat := (b.w * b.d).toNat
theorem Bx.n_le {b : Bx} (h : b.ok) : b.n ≤ 4096 := by
  have h1 : b.w * b.d ≤ 64 * 64 := Int.mul_le_mul h.w1 h.d1 h.d0 (by omega)
  unfold Bx.n; omega
def Bx.inside (b : Bx) (x z : Int) : Prop := (b.x ≤ x ∧ x ≤ b.x + (b.w - 1)) ∧ (b.z ≤ z ∧ z ≤ b.z + (b.d - 1))
instance (b : Bx) (x z : Int) : Decidable (b.inside x z) := by unfold Bx.inside; infer_instance
def Bx.pl (b : Bx) (x z : Int) : Int := (z - b.z) * b.w + x - b.x
theorem Bx.pl_lt {b : Bx} {x z : Int} (h : b.inside x z) : 0 ≤ b.pl x z ∧ b.pl x z < b.w * b.d ∧ (b.pl x z).toNat < b.n := by
  obtain ⟨⟨h1, h2⟩, h3, h4⟩ := h
  have k0 : 0 ≤ (z - b.z) * b.w := Int.mul_nonneg (by omega) (by omega)
  have k1 : (z - b.z) * b.w ≤ (b.d - 1) * b.w := Int.mul_le_mul_of_nonneg_right (by omega) (by omega)
  have k2 : (b.d - 1) * b.w = b.w * b.d - b.w := by grind
  unfold Bx.n Bx.pl
  omega
theorem Bx.pl_at {b : Bx} {x z : Int} (h : b.inside x z) : plX b.x b.w (b.pl x z).toNat = x ∧ plZ b.z b.w (b.pl x z).toNat = z := by
  obtain ⟨k1, k2, k3⟩ := Bx.pl_lt h
  obtain ⟨⟨h1, h2⟩, h3, h4⟩ := h
  unfold plX plZ
  have e : ((b.pl x z).toNat : Int) = (x - b.x) + (z - b.z) * b.w := by unfold Bx.pl at *; omega
  have hw : 0 < b.w := by omega
  rw [e]
  constructor
  · rw [Int.add_mul_emod_self_right, Int.emod_eq_of_lt (by omega) (by omega)]; omega
  · rw [Int.add_mul_ediv_right _ _ (by omega), Int.ediv_eq_zero_of_lt (by omega) (by omega)]; omega
theorem Bx.pl_inside {b : Bx} (hb : b.ok) {n : Nat} (h : n < b.n) : b.inside (plX b.x b.w n) (plZ b.z b.w n) ∧ (b.pl (plX b.x b.w n) (plZ b.z b.w n)).toNat = n := by
  have hn : (n : Int) < b.w * b.d := by unfold Bx.n at h; omega
  have hw : 0 < b.w := by
    rcases Int.lt_or_eq_of_le hb.w0 with k | k
    · exact k
    · rw [← k] at hn; simp at hn; omega
  have h1 := Int.emod_nonneg (n : Int) (Int.ne_of_gt hw)
  have h2 := Int.emod_lt_of_pos (n : Int) hw
  have h3 : 0 ≤ (n : Int) / b.w := Int.ediv_nonneg (by omega) (by omega)
  have h4 : (n : Int) / b.w < b.d := Int.ediv_lt_of_lt_mul hw (by rw [Int.mul_comm]; exact hn)
  have h5 := Int.mul_ediv_add_emod (n : Int) b.w
  unfold Bx.inside plX plZ Bx.pl
  refine ⟨⟨⟨by omega, by omega⟩, by omega, by omega⟩, ?_⟩
  have e : (b.z + (n : Int) / b.w - b.z) * b.w + (b.x + (n : Int) % b.w) - b.x = n := by grind
  rw [e]; simp

end Go.Proofs.YtccikeagbillgaaGreat

/- Rows of spans that may be written, and what stands in one while its pieces are made one. No function of the program in sight. -/
namespace Go.Proofs.YtccikeagbillgaaGreat
open Go.RowKit
set_option linter.unusedVariables false

/-- A row of spans at a block's head that may be written. -/
structure WRowS (w : World) (b : Nat) (l : List Sn) : Prop where
  row : RowAt Sn.enc 3 w b 0 l
  free : ∀ j, j < l.length * 3 → w.frozen? ⟨b, j, none⟩ = false

theorem WRowS.of_own {w : World} {base g cap : Nat} {e : TypeId} {l : List Sn} (h : w.ownsRow base e 3 (.slice (some ⟨g, 0, none⟩) l.length cap) l.length (l.flatMap Sn.enc)) : WRowS w g l :=
  ⟨fun j hj => by
    obtain ⟨-, -, -, -, hr⟩ := (own_sl Sn.enc_len h).row
    obtain ⟨b, off, e, hA⟩ := hr (by omega)
    injection e with e; injection e with e1 e2
    subst e1 e2
    exact hA j hj, fun j _ => World.ownsRow.frozenAt h j⟩

/-! Worlds in which block g alone may have changed. -/
def UponS (w : World) (g : Nat) (w' : World) : Prop := ∀ a, New a w → a.heap.size ≤ g → New a w'
theorem UponS.refl (w : World) (g : Nat) : UponS w g w := fun _ h _ => h
theorem UponS.trans {a b c : World} {g : Nat} (h : UponS a g b) (k : UponS b g c) : UponS a g c := fun x hx hg => k x (h x hx hg) hg
theorem UponS.new {a b c : World} {g : Nat} (h : UponS a g b) (k : New b c) : UponS a g c := fun x hx hg => (h x hx hg).trans k
theorem UponS.setCells {w w' : World} {g : Nat} (h : UponS w g w') (o : Nat) (vs : List Value) : UponS w g (w'.setCells g o vs) := fun a ha hg => new_setCells (h a ha hg) hg vs o

theorem WRowS.keep {w w' : World} {b : Nat} {l : List Sn} (h : WRowS w b l) (hn : New w w') : WRowS w' b l :=
  ⟨h.row.keep hn, fun j hj => by
    have hq : j / 3 < l.length := by omega
    have hc := h.row (j / 3) hq (j % 3) (by rw [Sn.enc_len]; exact Nat.mod_lt _ (by omega))
    rw [show 0 + j / 3 * 3 + j % 3 = j by omega] at hc
    exact hn.keepF hc (h.free j hj)⟩

theorem sn_cells {w : World} {b : Nat} {l : List Sn} (H : WRowS w b l) (j : Nat) (h : j < l.length) :
    w.cell? ⟨b, j * 3, none⟩ = some (.int .i64 l[j].lo) ∧ w.cell? ⟨b, j * 3 + 1, none⟩ = some (.int .i64 l[j].hi) ∧ w.cell? ⟨b, j * 3 + 2, none⟩ = some (.bool l[j].wk) := by
  have h0 := H.row j h 0 (by rw [Sn.enc_len]; omega)
  have h1 := H.row j h 1 (by rw [Sn.enc_len]; omega)
  have h2 := H.row j h 2 (by rw [Sn.enc_len]; omega)
  simp only [Nat.zero_add, Nat.add_zero] at h0 h1 h2
  exact ⟨h0, h1, h2⟩

theorem WRowS.there {w : World} {b : Nat} {l : List Sn} (H : WRowS w b l) (o n : Nat) (h : o + n ≤ l.length * 3) : w.there b o n := fun j hj => by
  have hq : (o + j) / 3 < l.length := by omega
  have hc := H.row ((o + j) / 3) hq ((o + j) % 3) (by rw [Sn.enc_len]; exact Nat.mod_lt _ (by omega))
  rw [show 0 + (o + j) / 3 * 3 + (o + j) % 3 = o + j by omega] at hc
  exact ⟨by rw [hc]; rfl, H.free _ (by omega)⟩

theorem frozenS_setCells (b : Nat) : ∀ (vs : List Value) (o : Nat) (w : World) (x : Addr), (w.setCells b o vs).frozen? x = w.frozen? x
  | [], _, _, _ => rfl
  | v :: vs, o, w, x => by
    rw [World.setCells, frozenS_setCells b vs (o + 1)]
    simp

/-- One span stored. -/
theorem WRowS.put {w : World} {b : Nat} {l : List Sn} (H : WRowS w b l) (k : Nat) (hk : k < l.length) (c : Sn) : WRowS (w.setCells b (k * 3) c.enc) b (l.set k c) := by
  refine ⟨fun j hj i hi => ?_, fun j hj => ?_⟩
  · have hj' : j < l.length := by simpa using hj
    have hi' : i < 3 := by rw [Sn.enc_len] at hi; exact hi
    by_cases e : j = k
    · subst e
      have e1 : (l.set j c)[j] = c := by simp
      have := World.rangeAt_setCells_same w b (j * 3) c.enc (H.there _ _ (by rw [Sn.enc_len]; omega)) i (c.enc[i]'(by rw [Sn.enc_len]; exact hi')) (List.getElem?_eq_getElem _)
      rw [Nat.zero_add, this]
      simp only [e1]
    · rw [World.cell?_setCells_out b _ _ w ⟨b, 0 + j * 3 + i, none⟩ (fun _ _ => by
        show 0 + j * 3 + i < k * 3 ∨ k * 3 + c.enc.length ≤ 0 + j * 3 + i
        rw [Sn.enc_len]
        rcases Nat.lt_or_gt_of_ne e with q | q
        · left; omega
        · right; omega)]
      have e1 : (l.set k c)[j] = l[j] := by rw [List.getElem_set_ne (fun q => e q.symm)]
      have := H.row j hj' i (by rw [Sn.enc_len]; exact hi')
      rw [this]
      simp only [e1]
  · rw [frozenS_setCells]
    exact H.free j (by simpa using hj)

/-- What stands between two rounds: of the first i pieces (they come by rising lo) the spans, kk of them, at the row's head; behind i the pieces. -/
structure Jn (w0 wr : World) (g : Nat) (S : List Sn) (i kk : Nat) : Prop where
  mid : ∃ R : List Sn, WRowS wr g R ∧ R.length = S.length ∧ IsM (S.take i) (R.take kk) ∧ ∀ j, i ≤ j → R[j]? = S[j]?
  up : UponS w0 g wr
  le : kk ≤ i
  lt : i ≤ S.length
theorem Jn.start {w : World} {g : Nat} {S : List Sn} (h : WRowS w g S) : Jn w w g S 0 0 := ⟨⟨S, h, rfl, IsM.nil, fun _ _ => rfl⟩, UponS.refl _ _, Nat.le_refl _, Nat.zero_le _⟩
theorem Jn.keep {w0 wr wr' : World} {g : Nat} {S : List Sn} {i kk : Nat} (h : Jn w0 wr g S i kk) (n : New wr wr') : Jn w0 wr' g S i kk := by
  obtain ⟨⟨R, h1, h2⟩, hu, hl, ht⟩ := h
  exact ⟨⟨R, h1.keep n, h2⟩, hu.new n, hl, ht⟩
theorem Jn.cells {w0 wr : World} {g : Nat} {S : List Sn} {i kk : Nat} (h : Jn w0 wr g S i kk) (hi : i < S.length) :
    wr.cell? ⟨g, i * 3, none⟩ = some (.int .i64 S[i].lo) ∧ wr.cell? ⟨g, i * 3 + 1, none⟩ = some (.int .i64 S[i].hi) ∧ wr.cell? ⟨g, i * 3 + 2, none⟩ = some (.bool S[i].wk) := by
  obtain ⟨⟨R, h1, h2, h3, h4⟩, hu, hl, ht⟩ := h
  have hR : i < R.length := by omega
  have e : R[i] = S[i] := by
    have := h4 i (Nat.le_refl _)
    rw [List.getElem?_eq_getElem hR, List.getElem?_eq_getElem hi] at this
    exact Option.some.inj this
  have := sn_cells h1 i hR
  rw [e] at this
  exact this
/-- The last of the spans so far. -/
theorem Jn.last {w0 wr : World} {g : Nat} {S : List Sn} {i k : Nat} (h : Jn w0 wr g S i (k + 1)) : ∃ q : Sn, ∃ K : List Sn, IsM (S.take i) (K ++ [q]) ∧
    wr.cell? ⟨g, k * 3, none⟩ = some (.int .i64 q.lo) ∧ wr.cell? ⟨g, k * 3 + 1, none⟩ = some (.int .i64 q.hi) ∧ wr.cell? ⟨g, k * 3 + 2, none⟩ = some (.bool q.wk) ∧ wr.there g (k * 3) 3 ∧
    (∀ (hi : i < S.length) (w : World), q.hi < S[i].lo → (∀ p ∈ S.take i, p.lo ≤ p.hi ∧ p.lo ≤ S[i].lo) → S[i].lo ≤ S[i].hi → New wr w → Jn w0 (w.setCells g ((k + 1) * 3) S[i].enc) g S (i + 1) (k + 2)) ∧
    (∀ (hi : i < S.length) (w : World), S[i].lo ≤ q.hi → (∀ p ∈ S.take i, p.lo ≤ p.hi ∧ p.lo ≤ S[i].lo) → S[i].lo ≤ S[i].hi → New wr w → Jn w0 (w.setCells g (k * 3) (un q S[i]).enc) g S (i + 1) (k + 1)) := by
  obtain ⟨⟨R, h1, h2, h3, h4⟩, hu, hl, ht⟩ := h
  have hR : k < R.length := by omega
  have e : R.take (k + 1) = R.take k ++ [R[k]] := List.take_succ_eq_append_getElem hR
  rw [e] at h3
  obtain ⟨c0, c1, c2⟩ := sn_cells h1 k hR
  refine ⟨R[k], R.take k, h3, c0, c1, c2, h1.there _ _ (by omega), fun hi w hlt hp hs n => ?_, fun hi w hle hp hs n => ?_⟩
  · refine ⟨⟨R.set (k + 1) S[i], (h1.keep n).put (k + 1) (by omega) _, by rw [List.length_set]; exact h2, ?_, fun j hj => ?_⟩, (hu.new n).setCells _ _, by omega, by omega⟩
    · have hk2 : k + 1 < (R.set (k + 1) S[i]).length := by rw [List.length_set]; omega
      rw [List.take_succ_eq_append_getElem hi, List.take_succ_eq_append_getElem hk2, List.getElem_set_self, List.take_set_of_le (Nat.le_refl _), e]
      refine h3.new hs fun q hq => ?_
      rcases List.mem_append.1 hq with m | m
      · have := (List.pairwise_append.1 h3.sep).2.2 q m R[k] (List.mem_singleton.2 rfl)
        have := h3.fit R[k] (List.mem_append_right _ (List.mem_singleton.2 rfl))
        omega
      · rw [List.mem_singleton] at m; subst m; exact hlt
    · rw [List.getElem?_set_ne (by omega)]
      exact h4 j (by omega)
  · refine ⟨⟨R.set k (un R[k] S[i]), (h1.keep n).put k hR _, by rw [List.length_set]; exact h2, ?_, fun j hj => ?_⟩, (hu.new n).setCells _ _, by omega, by omega⟩
    · have hk2 : k < (R.set k (un R[k] S[i])).length := by rw [List.length_set]; omega
      rw [List.take_succ_eq_append_getElem hi, List.take_succ_eq_append_getElem hk2, List.getElem_set_self, List.take_set_of_le (Nat.le_refl _)]
      have hq := h3.low R[k] (List.mem_append_right _ (List.mem_singleton.2 rfl))
      obtain ⟨p, hpm, hpl⟩ := hq
      exact IsM.fold (fun p hp' => (hp p hp').1) h3 hs (by rw [← hpl]; exact (hp p hpm).2) hle
    · rw [List.getElem?_set_ne (by omega)]
      exact h4 j (by omega)
/-- The first piece. -/
theorem Jn.first {w0 wr w : World} {g : Nat} {S : List Sn} {i : Nat} (h : Jn w0 wr g S i 0) (hi : i < S.length) (hs : S[i].lo ≤ S[i].hi) (n : New wr w) : Jn w0 (w.setCells g 0 S[i].enc) g S (i + 1) 1 := by
  obtain ⟨⟨R, h1, h2, h3, h4⟩, hu, hl, ht⟩ := h
  have e0 : (0 : Nat) = 0 * 3 := rfl
  refine ⟨⟨R.set 0 S[i], by rw [e0]; exact (h1.keep n).put 0 (by omega) _, by rw [List.length_set]; exact h2, ?_, fun j hj => ?_⟩, (hu.new n).setCells _ _, by omega, by omega⟩
  · have hk2 : 0 < (R.set 0 S[i]).length := by rw [List.length_set]; omega
    rw [List.take_succ_eq_append_getElem hi, List.take_succ_eq_append_getElem hk2, List.getElem_set_self, List.take_zero, List.nil_append]
    rw [List.take_zero] at h3
    have : S.take i = [] := by
      cases hh : S.take i with
      | nil => rfl
      | cons p l =>
        obtain ⟨r, hr, _⟩ := h3.isin p (by rw [hh]; exact List.mem_cons_self)
        simp at hr
    rw [this]
    exact IsM.nil.new hs (fun q hq => by simp at hq)
  · rw [List.getElem?_set_ne (by omega)]
    exact h4 j (by omega)
theorem Jn.there {w0 wr : World} {g : Nat} {S : List Sn} {i kk : Nat} (h : Jn w0 wr g S i kk) (k : Nat) (hk : k < S.length) : wr.there g (k * 3) 3 := by
  obtain ⟨⟨R, h1, h2, h3, h4⟩, hu, hl, ht⟩ := h
  exact h1.there _ _ (by omega)
theorem Jn.done {w0 wr : World} {g : Nat} {S : List Sn} {kk : Nat} (h : Jn w0 wr g S S.length kk) : ∃ K : List Sn, K.length = kk ∧ IsM S K ∧ RowAt Sn.enc 3 wr g 0 K ∧ UponS w0 g wr ∧ kk ≤ S.length := by
  obtain ⟨⟨R, h1, h2, h3, h4⟩, hu, hl, ht⟩ := h
  rw [List.take_length] at h3
  exact ⟨R.take kk, by simp; omega, h3, h1.row.take kk, hu, hl⟩

end Go.Proofs.YtccikeagbillgaaGreat
