import Derived.Test.YtklopjbpfddgfaaGreatSoBZ12
import Derived.Test.YtklopjbpfddgfaaGreatTriEZ12
import Derived.Test.YtklopjbpfddgfaaGreatSpAZ12
import Derived.Test.YtklopjbpfddgfaaGreatWholeBZ12

/- Package soup: configs; what a box, a hop, a triangle is asked. -/
namespace Go.Proofs.YtklopjbpfddgfaaGreat
open Go.RowKit
set_option linter.unusedVariables false

structure CfgR where
  (cl cb ht ri ru wd dp : Int)
def CfgR.enc (C : CfgR) : List Value := [.int .i64 C.cl, .int .i64 C.cb, .int .i64 C.ht, .int .i64 C.ri, .int .i64 C.ru, .int .i64 C.wd, .int .i64 C.dp]
def CfgR.err (C : CfgR) : Int := checkE C.cl C.cb C.ht C.ri C.ru C.wd C.dp
structure CfgR.fine (C : CfgR) : Prop where
  err : C.err = 0
  w1 : 1 ≤ C.wd
  w2 : C.wd ≤ 32
  d1 : 1 ≤ C.dp
  d2 : C.dp ≤ 32
theorem CfgR.fine_of {C : CfgR} (h : C.err = 0) : C.fine := by
  have h1 := h
  unfold CfgR.err checkE checkB at h1
  split at h1
  · rename_i h2
    simp only [Bool.and_eq_true, decide_eq_true_eq] at h2
    exact ⟨h, h2.1.2.1, h2.1.2.2, h2.2.1, h2.2.2⟩
  · cases h1
theorem CfgR.at {C : CfgR} {w : World} {b : Nat} (H : CellsAt w b 0 C.enc) :
    w.cell? ⟨b, 0, none⟩ = some (.int .i64 C.cl) ∧ w.cell? ⟨b, 1, none⟩ = some (.int .i64 C.cb) ∧ w.cell? ⟨b, 2, none⟩ = some (.int .i64 C.ht) ∧ w.cell? ⟨b, 3, none⟩ = some (.int .i64 C.ri) ∧ w.cell? ⟨b, 4, none⟩ = some (.int .i64 C.ru) ∧ w.cell? ⟨b, 5, none⟩ = some (.int .i64 C.wd) ∧ w.cell? ⟨b, 6, none⟩ = some (.int .i64 C.dp) :=
  ⟨H 0 (by simp [CfgR.enc]), H 1 (by simp [CfgR.enc]), H 2 (by simp [CfgR.enc]), H 3 (by simp [CfgR.enc]), H 4 (by simp [CfgR.enc]), H 5 (by simp [CfgR.enc]), H 6 (by simp [CfgR.enc])⟩
theorem cells_new (w : World) (cs : Array Value) (T : TypeId) : CellsAt (w.alloc (.cells cs T)) w.heap.size 0 cs.toList := fun i hi => by
  have h1 : (w.alloc (.cells cs T)).heap[w.heap.size]? = some (.cells cs T) := heap_new _ _
  rw [Nat.zero_add]
  exact cell_of_heap h1 (by rw [Array.getElem?_eq_getElem (by simpa using hi)]; simp)
theorem ints_new (w : World) (l : List Int) (T : TypeId) : IntsAt (w.alloc (.cells (l.map (Value.int .i64)).toArray T)) w.heap.size l := fun j hj => by
  have := cells_new w (l.map (Value.int .i64)).toArray T j (by simpa using hj)
  rw [Nat.zero_add] at this
  rw [this]
  simp

theorem TriR.at {x : TriR} {w : World} {b : Nat} (H : CellsAt w b 0 x.enc) : w.cell? ⟨b, 0, none⟩ = some (.int .i64 x.i) ∧ w.cell? ⟨b, 1, none⟩ = some (.int .i64 x.x0) ∧ w.cell? ⟨b, 2, none⟩ = some (.int .i64 x.y0) ∧ w.cell? ⟨b, 3, none⟩ = some (.int .i64 x.z0) ∧ w.cell? ⟨b, 4, none⟩ = some (.int .i64 x.x1) ∧ w.cell? ⟨b, 5, none⟩ = some (.int .i64 x.y1) ∧ w.cell? ⟨b, 6, none⟩ = some (.int .i64 x.z1) ∧ w.cell? ⟨b, 7, none⟩ = some (.int .i64 x.x2) ∧ w.cell? ⟨b, 8, none⟩ = some (.int .i64 x.y2) ∧ w.cell? ⟨b, 9, none⟩ = some (.int .i64 x.z2) :=
  ⟨H 0 (by rw [TriR.enc_len]; omega), H 1 (by rw [TriR.enc_len]; omega), H 2 (by rw [TriR.enc_len]; omega), H 3 (by rw [TriR.enc_len]; omega), H 4 (by rw [TriR.enc_len]; omega), H 5 (by rw [TriR.enc_len]; omega), H 6 (by rw [TriR.enc_len]; omega), H 7 (by rw [TriR.enc_len]; omega), H 8 (by rw [TriR.enc_len]; omega), H 9 (by rw [TriR.enc_len]; omega)⟩

theorem BoxR.at {x : BoxR} {w : World} {b : Nat} (H : CellsAt w b 0 x.enc) : w.cell? ⟨b, 0, none⟩ = some (.int .i64 x.i) ∧ w.cell? ⟨b, 1, none⟩ = some (.int .i64 x.x0) ∧ w.cell? ⟨b, 2, none⟩ = some (.int .i64 x.z0) ∧ w.cell? ⟨b, 3, none⟩ = some (.int .i64 x.x1) ∧ w.cell? ⟨b, 4, none⟩ = some (.int .i64 x.z1) ∧ w.cell? ⟨b, 5, none⟩ = some (.int .i64 x.y0) ∧ w.cell? ⟨b, 6, none⟩ = some (.int .i64 x.y1) ∧ w.cell? ⟨b, 7, none⟩ = some (.int .i64 x.ar) :=
  ⟨H 0 (by rw [BoxR.enc_len]; omega), H 1 (by rw [BoxR.enc_len]; omega), H 2 (by rw [BoxR.enc_len]; omega), H 3 (by rw [BoxR.enc_len]; omega), H 4 (by rw [BoxR.enc_len]; omega), H 5 (by rw [BoxR.enc_len]; omega), H 6 (by rw [BoxR.enc_len]; omega), H 7 (by rw [BoxR.enc_len]; omega)⟩

end Go.Proofs.YtklopjbpfddgfaaGreat

/- Rows of spans that may be written, and what stands in one while its pieces are made one. No function of the program in sight. -/
namespace Go.Proofs.YtklopjbpfddgfaaGreat
open Go.RowKit
set_option linter.unusedVariables false

/-- A row of spans at a block's head that may be written. -/
structure WRowS (w : World) (b : Nat) (l : List Sn) : Prop where
  row : RowAt Sn.enc 3 w b 0 l
  free : ∀ j, j < l.length * 3 → w.frozen? ⟨b, j, none⟩ = false

theorem WRowS.of_own {w : World} {base g cap : Nat} {e : TypeId} {l : List Sn} (h : w.ownsRow base e 3 (.slice (some ⟨g, 0, none⟩) l.length cap) l.length (l.flatMap Sn.enc)) : WRowS w g l :=
  ⟨fun j hj => by
    obtain ⟨-, -, -, -, hr⟩ := (own_sl Sn.enc_len h).row
    obtain ⟨b, off, e, hA⟩ := hr (by omega)
    injection e with e; injection e with e1 e2
    subst e1 e2
    exact hA j hj, fun j _ => World.ownsRow.frozenAt h j⟩

/-! Worlds in which block g alone may have changed. -/
def UponS (w : World) (g : Nat) (w' : World) : Prop := ∀ a, New a w → a.heap.size ≤ g → New a w'
theorem UponS.refl (w : World) (g : Nat) : UponS w g w := fun _ h _ => h
theorem UponS.trans {a b c : World} {g : Nat} (h : UponS a g b) (k : UponS b g c) : UponS a g c := fun x hx hg => k x (h x hx hg) hg
theorem UponS.new {a b c : World} {g : Nat} (h : UponS a g b) (k : New b c) : UponS a g c := fun x hx hg => (h x hx hg).trans k
theorem UponS.setCells {w w' : World} {g : Nat} (h : UponS w g w') (o : Nat) (vs : List Value) : UponS w g (w'.setCells g o vs) := fun a ha hg => new_setCells (h a ha hg) hg vs o

theorem WRowS.keep {w w' : World} {b : Nat} {l : List Sn} (h : WRowS w b l) (hn : New w w') : WRowS w' b l :=
  ⟨h.row.keep hn, fun j hj => by
    have hq : j / 3 < l.length := by omega
    have hc := h.row (j / 3) hq (j % 3) (by rw [Sn.enc_len]; exact Nat.mod_lt _ (by omega))
    rw [show 0 + j / 3 * 3 + j % 3 = j by omega] at hc
    exact hn.keepF hc (h.free j hj)⟩

theorem sn_cells {w : World} {b : Nat} {l : List Sn} (H : WRowS w b l) (j : Nat) (h : j < l.length) :
    w.cell? ⟨b, j * 3, none⟩ = some (.int .i64 l[j].lo) ∧ w.cell? ⟨b, j * 3 + 1, none⟩ = some (.int .i64 l[j].hi) ∧ w.cell? ⟨b, j * 3 + 2, none⟩ = some (.bool l[j].wk) := by
  have h0 := H.row j h 0 (by rw [Sn.enc_len]; omega)
  have h1 := H.row j h 1 (by rw [Sn.enc_len]; omega)
  have h2 := H.row j h 2 (by rw [Sn.enc_len]; omega)
  simp only [Nat.zero_add, Nat.add_zero] at h0 h1 h2
  exact ⟨h0, h1, h2⟩

theorem WRowS.there {w : World} {b : Nat} {l : List Sn} (H : WRowS w b l) (o n : Nat) (h : o + n ≤ l.length * 3) : w.there b o n := fun j hj => by
  have hq : (o + j) / 3 < l.length := by omega
  have hc := H.row ((o + j) / 3) hq ((o + j) % 3) (by rw [Sn.enc_len]; exact Nat.mod_lt _ (by omega))
  rw [show 0 + (o + j) / 3 * 3 + (o + j) % 3 = o + j by omega] at hc
  exact ⟨by rw [hc]; rfl, H.free _ (by omega)⟩

theorem frozenS_setCells (b : Nat) : ∀ (vs : List Value) (o : Nat) (w : World) (x : Addr), (w.setCells b o vs).frozen? x = w.frozen? x
  | [], _, _, _ => rfl
  | v :: vs, o, w, x => by
    rw [World.setCells, frozenS_setCells b vs (o + 1)]
    simp

/-- One span stored. -/
theorem WRowS.put {w : World} {b : Nat} {l : List Sn} (H : WRowS w b l) (k : Nat) (hk : k < l.length) (c : Sn) : WRowS (w.setCells b (k * 3) c.enc) b (l.set k c) := by
  refine ⟨fun j hj i hi => ?_, fun j hj => ?_⟩
  · have hj' : j < l.length := by simpa using hj
    have hi' : i < 3 := by rw [Sn.enc_len] at hi; exact hi
    by_cases e : j = k
    · subst e
      have e1 : (l.set j c)[j] = c := by simp
      have := World.rangeAt_setCells_same w b (j * 3) c.enc (H.there _ _ (by rw [Sn.enc_len]; omega)) i (c.enc[i]'(by rw [Sn.enc_len]; exact hi')) (List.getElem?_eq_getElem _)
      rw [Nat.zero_add, this]
      simp only [e1]
    · rw [World.cell?_setCells_out b _ _ w ⟨b, 0 + j * 3 + i, none⟩ (fun _ _ => by
        show 0 + j * 3 + i < k * 3 ∨ k * 3 + c.enc.length ≤ 0 + j * 3 + i
        rw [Sn.enc_len]
        rcases Nat.lt_or_gt_of_ne e with q | q
        · left; omega
        · right; omega)]
      have e1 : (l.set k c)[j] = l[j] := by rw [List.getElem_set_ne (fun q => e q.symm)]
      have := H.row j hj' i (by rw [Sn.enc_len]; exact hi')
      rw [this]
      simp only [e1]
  · rw [frozenS_setCells]
    exact H.free j (by simpa using hj)

/-- What stands between two rounds: of the first i pieces (they come by rising lo) the spans, kk of them, at the row's head; behind i the pieces. -/
structure Jn (w0 wr : World) (g : Nat) (S : List Sn) (i kk : Nat) : Prop where
  mid : ∃ R : List Sn, WRowS wr g R ∧ R.length = S.length ∧ IsM (S.take i) (R.take kk) ∧ ∀ j, i ≤ j → R[j]? = S[j]?
  up : UponS w0 g wr
  le : kk ≤ i
  lt : i ≤ S.length
theorem Jn.start {w : World} {g : Nat} {S : List Sn} (h : WRowS w g S) : Jn w w g S 0 0 := ⟨⟨S, h, rfl, IsM.nil, fun _ _ => rfl⟩, UponS.refl _ _, Nat.le_refl _, Nat.zero_le _⟩
theorem Jn.keep {w0 wr wr' : World} {g : Nat} {S : List Sn} {i kk : Nat} (h : Jn w0 wr g S i kk) (n : New wr wr') : Jn w0 wr' g S i kk := by
  obtain ⟨⟨R, h1, h2⟩, hu, hl, ht⟩ := h
  exact ⟨⟨R, h1.keep n, h2⟩, hu.new n, hl, ht⟩
theorem Jn.cells {w0 wr : World} {g : Nat} {S : List Sn} {i kk : Nat} (h : Jn w0 wr g S i kk) (hi : i < S.length) :
    wr.cell? ⟨g, i * 3, none⟩ = some (.int .i64 S[i].lo) ∧ wr.cell? ⟨g, i * 3 + 1, none⟩ = some (.int .i64 S[i].hi) ∧ wr.cell? ⟨g, i * 3 + 2, none⟩ = some (.bool S[i].wk) := by
  obtain ⟨⟨R, h1, h2, h3, h4⟩, hu, hl, ht⟩ := h
  have hR : i < R.length := by omega
  have e : R[i] = S[i] := by
    have := h4 i (Nat.le_refl _)
    rw [List.getElem?_eq_getElem hR, List.getElem?_eq_getElem hi] at this
    exact Option.some.inj this
  have := sn_cells h1 i hR
  rw [e] at this
  exact this
/-- The last of the spans so far. -/
theorem Jn.last {w0 wr : World} {g : Nat} {S : List Sn} {i k : Nat} (h : Jn w0 wr g S i (k + 1)) : ∃ q : Sn, ∃ K : List Sn, IsM (S.take i) (K ++ [q]) ∧
    wr.cell? ⟨g, k * 3, none⟩ = some (.int .i64 q.lo) ∧ wr.cell? ⟨g, k * 3 + 1, none⟩ = some (.int .i64 q.hi) ∧ wr.cell? ⟨g, k * 3 + 2, none⟩ = some (.bool q.wk) ∧ wr.there g (k * 3) 3 ∧
    (∀ (hi : i < S.length) (w : World), q.hi < S[i].lo → (∀ p ∈ S.take i, p.lo ≤ p.hi ∧ p.lo ≤ S[i].lo) → S[i].lo ≤ S[i].hi → New wr w → Jn w0 (w.setCells g ((k + 1) * 3) S[i].enc) g S (i + 1) (k + 2)) ∧
    (∀ (hi : i < S.length) (w : World), S[i].lo ≤ q.hi → (∀ p ∈ S.take i, p.lo ≤ p.hi ∧ p.lo ≤ S[i].lo) → S[i].lo ≤ S[i].hi → New wr w → Jn w0 (w.setCells g (k * 3) (un q S[i]).enc) g S (i + 1) (k + 1)) := by
  obtain ⟨⟨R, h1, h2, h3, h4⟩, hu, hl, ht⟩ := h
  have hR : k < R.length := by omega
  have e : R.take (k + 1) = R.take k ++ [R[k]] := List.take_succ_eq_append_getElem hR
  rw [e] at h3
  obtain ⟨c0, c1, c2⟩ := sn_cells h1 k hR
  refine ⟨R[k], R.take k, h3, c0, c1, c2, h1.there _ _ (by omega), fun hi w hlt hp hs n => ?_, fun hi w hle hp hs n => ?_⟩
  · refine ⟨⟨R.set (k + 1) S[i], (h1.keep n).put (k + 1) (by omega) _, by rw [List.length_set]; exact h2, ?_, fun j hj => ?_⟩, (hu.new n).setCells _ _, by omega, by omega⟩
    · have hk2 : k + 1 < (R.set (k + 1) S[i]).length := by rw [List.length_set]; omega
      rw [List.take_succ_eq_append_getElem hi, List.take_succ_eq_append_getElem hk2, List.getElem_set_self, List.take_set_of_le (Nat.le_refl _), e]
      refine h3.new hs fun q hq => ?_
      rcases List.mem_append.1 hq with m | m
      · have := (List.pairwise_append.1 h3.sep).2.2 q m R[k] (List.mem_singleton.2 rfl)
        have := h3.fit R[k] (List.mem_append_right _ (List.mem_singleton.2 rfl))
        omega
      · rw [List.mem_singleton] at m; subst m; exact hlt
    · rw [List.getElem?_set_ne (by omega)]
      exact h4 j (by omega)
  · refine ⟨⟨R.set k (un R[k] S[i]), (h1.keep n).put k hR _, by rw [List.length_set]; exact h2, ?_, fun j hj => ?_⟩, (hu.new n).setCells _ _, by omega, by omega⟩
    · have hk2 : k < (R.set k (un R[k] S[i])).length := by rw [List.length_set]; omega
      rw [List.take_succ_eq_append_getElem hi, List.take_succ_eq_append_getElem hk2, List.getElem_set_self, List.take_set_of_le (Nat.le_refl _)]
      have hq := h3.low R[k] (List.mem_append_right _ (List.mem_singleton.2 rfl))
      obtain ⟨p, hpm, hpl⟩ := hq
      exact IsM.fold (fun p hp' => (hp p hp').1) h3 hs (by rw [← hpl]; exact (hp p hpm).2) hle
    · rw [List.getElem?_set_ne (by omega)]
      exact h4 j (by omega)
/-- The first piece. -/
theorem Jn.first {w0 wr w : World} {g : Nat} {S : List Sn} {i : Nat} (h : Jn w0 wr g S i 0) (hi : i < S.length) (hs : S[i].lo ≤ S[i].hi) (n : New wr w) : Jn w0 (w.setCells g 0 S[i].enc) g S (i + 1) 1 := by
  obtain ⟨⟨R, h1, h2, h3, h4⟩, hu, hl, ht⟩ := h
  have e0 : (0 : Nat) = 0 * 3 := rfl
  refine ⟨⟨R.set 0 S[i], by rw [e0]; exact (h1.keep n).put 0 (by omega) _, by rw [List.length_set]; exact h2, ?_, fun j hj => ?_⟩, (hu.new n).setCells _ _, by omega, by omega⟩
  · have hk2 : 0 < (R.set 0 S[i]).length := by rw [List.length_set]; omega
    rw [List.take_succ_eq_append_getElem hi, List.take_succ_eq_append_getElem hk2, List.getElem_set_self, List.take_zero, List.nil_append]
    rw [List.take_zero] at h3
    have : S.take i = [] := by
      cases hh : S.take i with
      | nil => rfl
      | cons p l =>
        obtain ⟨r, hr, _⟩ := h3.isin p (by rw [hh]; exact List.mem_cons_self)
        simp at hr
    rw [this]
    exact IsM.nil.new hs (fun q hq => by simp at hq)
  · rw [List.getElem?_set_ne (by omega)]
    exact h4 j (by omega)
theorem Jn.there {w0 wr : World} {g : Nat} {S : List Sn} {i kk : Nat} (h : Jn w0 wr g S i kk) (k : Nat) (hk : k < S.length) : wr.there g (k * 3) 3 := by
  obtain ⟨⟨R, h1, h2, h3, h4⟩, hu, hl, ht⟩ := h
  exact h1.there _ _ (by omega)
theorem Jn.done {w0 wr : World} {g : Nat} {S : List Sn} {kk : Nat} (h : Jn w0 wr g S S.length kk) : ∃ K : List Sn, K.length = kk ∧ IsM S K ∧ RowAt Sn.enc 3 wr g 0 K ∧ UponS w0 g wr ∧ kk ≤ S.length := by
  obtain ⟨⟨R, h1, h2, h3, h4⟩, hu, hl, ht⟩ := h
  rw [List.take_length] at h3
  exact ⟨R.take kk, by simp; omega, h3, h1.row.take kk, hu, hl⟩

end Go.Proofs.YtklopjbpfddgfaaGreat
