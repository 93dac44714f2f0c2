import Derived.Test.YtklopjbpfddgfaaGreatLooseZ12
import Derived.Sort.Grow
import Derived.Test.YtklopjbpfddgfaaGreatHatZ12
import Derived.Deep.Slices

/- Worlds with new blocks alone, that have drawn no less. No function of the program in sight. -/
namespace Go.Proofs.YtklopjbpfddgfaaGreat
open Go.RowKit
set_option linter.unusedVariables false

def Gro (w w' : World) : Prop := New w w' ∧ w.drawn ≤ w'.drawn
theorem Gro.new {w w' : World} (h : Gro w w') : New w w' := h.1
theorem Gro.refl (w : World) : Gro w w := ⟨New.refl _, Nat.le_refl _⟩
theorem Gro.trans {a b c : World} (h : Gro a b) (k : Gro b c) : Gro a c := ⟨h.1.trans k.1, Nat.le_trans h.2 k.2⟩
theorem Gro.snart {a b c : World} (k : Gro b c) (h : Gro a b) : Gro a c := h.trans k
theorem Gro.alloc {a w : World} (h : Gro a w) (o : Obj) : Gro a (w.alloc o) := ⟨h.1.alloc o, h.2⟩
theorem Gro.drew {a w : World} (h : Gro a w) : Gro a w.drew := ⟨h.1.drew, Nat.le_succ_of_le h.2⟩
theorem Gro.drewN {a w : World} (h : Gro a w) (n : Nat) : Gro a (w.drewN n) := ⟨h.1.drewN n, Nat.le_trans h.2 (Nat.le_add_right _ _)⟩
theorem Gro.setB {a w : World} {p : Addr} (hp : a.heap.size ≤ p.block) (h : Gro a w) (u : Value) : Gro a (w.setCell p u) := ⟨h.1.setCell hp u, h.2⟩
/-- Told as the sort wants it told. -/
theorem Gro.grow {w w' : World} (h : Gro w w') : ∃ q os, w' = Go.Sort.grow (w.drewN q) os := by
  obtain ⟨⟨h1, h2, h3, h4, h5⟩, hd⟩ := h
  refine ⟨w'.drawn - w.drawn, w'.heap.extract w.heap.size w'.heap.size, ?_⟩
  obtain ⟨hp, tp, dr, os, ou⟩ := w'
  obtain ⟨hp', tp', dr', os', ou'⟩ := w
  simp only at h1 h2 h3 h4 h5 hd
  subst h1 h2 h3
  simp only [Go.Sort.grow, World.drewN, World.mk.injEq]
  refine ⟨?_, trivial, by omega, trivial, trivial⟩
  apply Array.ext_getElem?
  intro i
  rw [Array.getElem?_append]
  split
  · exact h5 i ‹_›
  · rename_i hi
    rw [Array.getElem?_extract]
    split
    · congr 1; omega
    · rw [Array.getElem?_eq_none]; omega

/-! The rule for a statement whose order is open, in this class. -/
section
variable {P : Program} {ops : Array Oper} {W : World} {n : Nat}
theorem Gro.of_grow {w w' : World} (h : ∃ q os, w' = Go.Sort.grow (w.drewN q) os) : Gro w w' := by
  obtain ⟨q, os, rfl⟩ := h
  refine ⟨⟨rfl, rfl, rfl, by simp, fun k hk => Go.Sort.heap_grow_old _ _ hk⟩, Nat.le_add_right _ _⟩
structure GInv (ops : Array Oper) (W : World) (n : Nat) (V : Nat → World → Value → Prop) (a : Act) (listed : Array Bool) (a' : Act) (w' : World) : Prop where
  new : Gro W w'
  defs : a'.defers = a.defers
  size : a'.tmps.size = a.tmps.size
  same : ∀ s, (∀ j oj, j < n → ops[j]? = some oj → oj.dst ≠ some s) → a'.tmps[s]? = a.tmps[s]?
  held : ∀ j oj d, j < n → ops[j]? = some oj → listed.getD j false = true → oj.dst = some d → V j w' (a'.eval (.tmp d))

theorem wpAny_gloose {V : Nat → World → Value → Prop} {a : Act} {Q : Exit → Act → World → Prop} {g : Nat} (hs : Region.sinkB .any ops n = true) (hc : chain2B ops n = true) (hlt : n < ops.size) (ho : ∀ j, j < n → opB ops n a.tmps.size j = true)
    (hV : ∀ i w w' v, V i w v → Gro w w' → V i w' v)
    (hstep : ∀ i o, i < n → ops[i]? = some o → ∀ a' w', Gro W w' → (∀ t, restsB ops n t = true → a'.eval (.tmp t) = a.eval (.tmp t)) → (∀ j d, j < n → waitsB o j = true → (ops[j]?).bind (·.dst) = some d → V j w' (a'.eval (.tmp d))) → Yields P o a' w' fun v w'' => Gro w' w'' ∧ V i w'' v)
    (hL : ∀ listed a' w', (∀ j, j < n → listed.getD j false = true) → HeadInv .any ops n listed → GInv ops W n V a listed a' w' → wpAny P .any ops Q g listed a' w') :
    ∀ (f : Nat) (listed : Array Bool) (a' : Act) (w' : World), HeadInv .any ops n listed → toCome listed n = f → GInv ops W n V a listed a' w' → wpAny P .any ops Q (f + g) listed a' w'
  | 0, listed, a', w', inv, hf, K => by rw [Nat.zero_add]; exact hL _ _ _ (toCome_zero n hf) inv K
  | f + 1, listed, a', w', inv, hf, K => by
    rw [show f + 1 + g = (f + g) + 1 by omega]
    obtain ⟨i0, hi0, hm0⟩ := exists_least (toCome_some n (by omega : 0 < toCome listed n))
    obtain ⟨o0, d0, ho0, _, _, _, _, haf⟩ := opB_spec (ho i0 hi0.1)
    have hsz : i0 < listed.size := by rw [inv.size]; omega
    have hr0 : i0 ∈ Region.ready .any ops listed := mem_ready.2 ⟨getD_in hsz hi0.2, o0, ho0, fun e he hb => by
      have h1 := haf e he hb
      cases hl : listed.getD e.on false with
      | true => rfl
      | false => have := hm0 e.on ⟨by omega, hl⟩; omega⟩
    refine ⟨fun h0 => absurd hr0 (by rw [h0]; simp), fun i hi => ?_⟩
    have hin : i < n := Nat.lt_of_not_le fun h => tail_waits2 hs hc hlt inv i0 hi0.1 (getD_in hsz hi0.2) i h hi
    obtain ⟨hun, o', ho', hall⟩ := mem_ready.1 hi
    obtain ⟨o, d, hoi, hg, hd, hds, hdis, _⟩ := opB_spec (ho i hin)
    obtain rfl : o' = o := Option.some.inj (ho'.symm.trans hoi)
    unfold wpOp
    simp only [hoi]
    have hw : Region.wanted o' (yielded ops a'.tmps) = true := by unfold Region.wanted; rw [hg]
    rw [if_pos hw]
    refine .inl (yields_wp (hstep i o' hin hoi a' w' K.new (fun t ht => ?_) (fun j dj hj hwj hdj => ?_)) fun v w'' ⟨hn, hv⟩ => ?_)
    · rw [eval_get, eval_get, K.same t fun j oj hj hoj hd' => by
        have h1 := List.all_eq_true.1 ht j (List.mem_range.2 hj)
        simp only [hoj, bne_iff_ne] at h1
        exact h1 hd']
    · obtain ⟨e, he, hb⟩ := Array.any_eq_true'.1 hwj
      simp only [Bool.and_eq_true, beq_iff_eq] at hb
      have h1 := hall e he hb.1
      rw [hb.2] at h1
      cases hoj : ops[j]? with
      | none => rw [hoj] at hdj; cases hdj
      | some oj =>
        rw [hoj] at hdj
        exact K.held j oj dj hj hoj h1 hdj
    · rw [hd]
      refine wpAny_gloose hs hc hlt ho hV hstep hL f _ _ _ (inv.set hi hin) (by have := toCome_set (by rw [inv.size]; omega) (getD_both hun) n hin; omega) ⟨K.new.trans hn, by rw [put_def]; exact K.defs, by rw [put_size]; exact K.size, fun s h => ?_, fun j oj dj hj hoj hl hdj => ?_⟩
      · rw [put_get_ne (by rintro _ ⟨rfl⟩ e; subst e; exact h i o' hin hoi hd)]
        exact K.same s h
      · by_cases hji : j = i
        · subst hji
          obtain rfl : oj = o' := Option.some.inj (hoj.symm.trans hoi)
          obtain rfl : dj = d := Option.some.inj (hdj.symm.trans hd)
          rw [eval_get, put_get_eq (by rw [K.size]; exact hds)]
          exact hv
        · rw [getD_set_ne false (fun e => hji e.symm)] at hl
          have h1 := hdis j oj hj hji hoj
          rw [eval_get, put_get_ne (by rintro _ ⟨rfl⟩ e; subst e; exact h1 hdj), ← eval_get]
          exact hV _ _ _ _ (K.held j oj dj hj hoj hl hdj) hn

theorem wp_region_gloose {id : Nat} {Q : Exit → Act → World → Prop} {a : Act} {w : World} {l : List Oper} (n : Nat) (V : Nat → World → Value → Prop) (hm : P.follows .mixedOrders = true) (hB : looseB l.toArray n a.tmps.size = true)
    (hV : ∀ i w w' v, V i w v → Gro w w' → V i w' v)
    (hstep : ∀ i o, i < n → l.toArray[i]? = some o → ∀ a' w', Gro w w' → (∀ t, restsB l.toArray n t = true → a'.eval (.tmp t) = a.eval (.tmp t)) → (∀ j d, j < n → waitsB o j = true → (l.toArray[j]?).bind (·.dst) = some d → V j w' (a'.eval (.tmp d))) → Yields P o a' w' fun v w'' => Gro w' w'' ∧ V i w'' v)
    (htail : ∀ vs w', Gro w w' → (∀ j, j < n → V j w' (vs j)) → wpList P l.toArray Q (l.drop n) (putL (l.take n) vs 0 a) w') : (Code.region id l.toArray true).wp P Q a w := by
  simp only [looseB, Bool.and_eq_true, decide_eq_true_eq] at hB
  obtain ⟨⟨⟨⟨hs, hc⟩, hlt⟩, hops⟩, hseq⟩ := hB
  have ho : ∀ j, j < n → opB l.toArray n a.tmps.size j = true := fun j hj => List.all_eq_true.1 hops j (List.mem_range.2 hj)
  have hll : l.toArray.size = l.length := by simp
  have inv0 : HeadInv .any l.toArray n (Array.replicate l.toArray.size false) :=
    ⟨by simp, fun j oj _ hl => (by rw [getD_replicate_false] at hl; cases hl), fun t _ ht => getD_in (by simpa using ht) (getD_replicate_false _ _)⟩
  have h0 : ∀ k, toCome (Array.replicate l.toArray.size false) k = k := by
    intro k
    induction k with
    | zero => rfl
    | succ k ih =>
      unfold toCome
      rw [ih, getD_replicate_false]
      simp
      omega
  refine wp_region_any hm ?_
  have := wpAny_gloose (P := P) (W := w) (V := V) (Q := Q) (g := l.toArray.size - n) (a := a) hs hc hlt ho hV hstep (fun listed a' w' hall inv K => by
    have hlist : listed = heads l.toArray.size n := by
      refine Array.ext (by rw [inv.size]; simp [heads]) fun j h1 h2 => ?_
      have hj : j < l.toArray.size := by rw [← inv.size]; exact h1
      have e2 : (heads l.toArray.size n)[j] = decide (j < n) := by simp [heads]
      rw [e2]
      by_cases hjn : j < n
      · have := hall j hjn
        rw [Array.getD_eq_getD_getElem?, Array.getElem?_eq_getElem h1] at this
        simpa [hjn] using this
      · have := inv.tail j (by omega) hj
        rw [Array.getD_eq_getD_getElem?, Array.getElem?_eq_getElem h1] at this
        simpa [hjn] using this
    have hdl : (l.drop n).length = l.toArray.size - n := by simp
    have hw := wpAny_of_seq (P := P) (md := .any) (ops := l.toArray) (Q' := Q) (l.drop n) n listed a' w' (fun j => by simp [List.getElem?_drop]) (by rw [hdl, hlist]; exact hseq) (by
      have ht := htail (fun j => a'.eval (.tmp (((l.toArray[j]?).bind (·.dst)).getD 0))) w' K.new (fun j hj => by
        obtain ⟨o, d, hoj, _, hd, _⟩ := opB_spec (ho j hj)
        have := K.held j o d hj hoj (hall j hj) hd
        simpa [hoj, hd] using this)
      have hta : ∀ i o, (l.take n)[i]? = some o → i < n ∧ l.toArray[i]? = some o := fun i o h => by
        have h1 : i < (l.take n).length := (List.getElem?_eq_some_iff.1 h).1
        have h2 : i < n := by simp at h1; omega
        rw [List.getElem?_take, if_pos h2] at h
        exact ⟨h2, by simpa using h⟩
      have e : putL (l.take n) (fun j => a'.eval (.tmp (((l.toArray[j]?).bind (·.dst)).getD 0))) 0 a = a' := act_eq (by rw [putL_def, K.defs]) fun s => by
        by_cases hw : ∃ j oj, j < n ∧ l.toArray[j]? = some oj ∧ oj.dst = some s
        · obtain ⟨j, oj, hj, hoj, hd⟩ := hw
          obtain ⟨o, d, hoj', _, hd', hds, hdis, _⟩ := opB_spec (ho j hj)
          obtain rfl : oj = o := Option.some.inj (hoj.symm.trans hoj')
          obtain rfl : s = d := Option.some.inj (hd.symm.trans hd')
          rw [putL_some (l.take n) _ 0 a j oj (by rw [List.getElem?_take, if_pos hj]; simpa using hoj) hd hds fun i o' hi hij hd2 => hdis i o' (hta i o' hi).1 hij (hta i o' hi).2 hd2]
          rw [Nat.zero_add, hoj]
          show some (a'.eval (.tmp ((oj.dst).getD 0))) = _
          rw [hd]
          show some (a'.eval (.tmp s)) = _
          rw [eval_get, Array.getElem?_eq_getElem (by rw [K.size]; exact hds)]
          rfl
        · rw [putL_none _ _ _ _ fun o ho' hd => by
            obtain ⟨i, hi, he⟩ := List.getElem_of_mem ho'
            have := hta i o (by rw [List.getElem?_eq_getElem hi, he])
            exact hw ⟨i, o, this.1, this.2, hd⟩]
          exact (K.same s fun j oj hj hoj hd => hw ⟨j, oj, hj, hoj, hd⟩).symm
      rw [e] at ht
      exact ht)
    rwa [hdl] at hw) n _ a { w with drawn := w.drawn + 1 } inv0 (h0 n) ⟨Gro.drew (Gro.refl w), rfl, rfl, fun _ _ => rfl, fun j oj d _ _ hl => by rw [getD_replicate_false] at hl; cases hl⟩
  rwa [show n + (l.toArray.size - n) = l.toArray.size by omega] at this

end

end Go.Proofs.YtklopjbpfddgfaaGreat

/- Rows of points in memory. No function of the program in sight. -/
namespace Go.Proofs.YtklopjbpfddgfaaGreat
open Go.RowKit
set_option linter.unusedVariables false

/-- A row of points lies behind this address. -/
def PtsAt (w : World) (b off : Nat) (l : List (Int × Int)) : Prop :=
  ∀ j (h : j < l.length), w.cell? ⟨b, off + j * 2, none⟩ = some (.int .i64 l[j].1) ∧ w.cell? ⟨b, off + j * 2 + 1, none⟩ = some (.int .i64 l[j].2)
/-- A slice of points: nothing is asked where it has no point. -/
def PtsIn (w : World) (at0 : Option Addr) (l : List (Int × Int)) : Prop := 0 < l.length → ∃ b off, at0 = some ⟨b, off, none⟩ ∧ PtsAt w b off l

theorem PtsAt.keep {w w' : World} {b off : Nat} {l : List (Int × Int)} (h : PtsAt w b off l) (hn : New w w') : PtsAt w' b off l :=
  fun j hj => ⟨hn.keep (h j hj).1, hn.keep (h j hj).2⟩
theorem PtsIn.keep {w w' : World} {at0 : Option Addr} {l : List (Int × Int)} (h : PtsIn w at0 l) (hn : New w w') : PtsIn w' at0 l :=
  fun h0 => by obtain ⟨b, off, e, h1⟩ := h h0; exact ⟨b, off, e, h1.keep hn⟩

theorem drop_cons {α : Type} {l : List α} {j : Nat} (h : j < l.length) : l.drop j = l[j] :: l.drop (j + 1) := List.drop_eq_getElem_cons h

end Go.Proofs.YtklopjbpfddgfaaGreat

/- A slice of structs of two integers that came in: what it holds. No function of the program in sight. -/
namespace Go.Proofs.YtklopjbpfddgfaaGreat
open Go.ChangeShapes Go.WideShapes Go.RowKit Go.Deep
set_option linter.unusedVariables false

theorem spot_none {w : World} {b o : Nat} {s : Option Nat} {v : Value} (h : w.cell? ⟨b, o, s⟩ = some v) : s = none := by
  cases s with
  | none => rfl
  | some x =>
    unfold World.cell? at h
    split at h <;> simp at h

theorem add_none (b o n : Nat) : (⟨b, o, none⟩ : Addr).add n = ⟨b, o + n, none⟩ := by
  unfold Addr.add
  split
  · simp_all
  · rfl

theorem open_pts {H : Type} {enc : TypeId × Value → H} {P : Program} {w : World} {base : Nat} {spare : Nat → Bool} {held : Bool} {r : Reach} {b0 : Nat} {t e : TypeId} {v : Value} {d : DataW H} {p : List MemPlace} (ht : P.underlying t = some (.slice e)) (hce : P.cellsOf e = 2) (hk : flat P 64 e = some [.num .i64, .num .i64])
    (hv : Value.okWide P w r b0 t v) (h : DataW.Trod enc P w base spare held t v d p) : ∃ (at0 : Option Addr) (l : List (Int × Int)) (c : Nat), v = .slice at0 l.length c ∧ l.length ≤ maxLen ∧ PtsIn w at0 l := by
  obtain ⟨a, len, cap, rfl⟩ := okWide_slice ht hv
  obtain ⟨fuel, hf⟩ := h
  rcases open_slice ht hf with ⟨hc, _⟩ | ⟨a', len', cap', m, n', D, Pl, hc, hb, hl, hm, hmm, _, hx⟩
  · injection hc with hc
    injection hc with h1 h2 h3
    subst h1 h2 h3
    exact ⟨none, [], 0, rfl, Nat.zero_le _, fun h => absurd h (by simp)⟩
  · injection hc with hc
    injection hc with h1 h2 h3
    subst h1 h2 h3
    have hlm : len ≤ m := by rw [hmm]; split <;> omega
    have each : ∀ i, i < len → ∃ q : Int × Int, w.cell? (a'.add (i * 2)) = some (.int .i64 q.1) ∧ w.cell? ((a'.add (i * 2)).add 1) = some (.int .i64 q.2) := fun i hi => by
      obtain ⟨cs', g1, g2⟩ := hx i (by omega)
      rw [hce] at g1
      obtain ⟨_, hlen, hcell⟩ := World.cells?_some g1
      have hfit := fits_flat 64 hk g2
      obtain ⟨_, _, e1, ⟨x, rfl, _⟩, hfit⟩ := hfit.cons
      obtain ⟨_, _, e2, ⟨z, rfl, _⟩, hfit⟩ := hfit.cons
      have e3 := hfit.nil
      subst e3 e2 e1
      have c0 := hcell 0 (by omega)
      have c1 := hcell 1 (by omega)
      exact ⟨(x, z), by simpa [Addr.add] using c0, by simpa using c1⟩
    obtain ⟨f, hf⟩ := choose_lt each
    obtain ⟨ab, ao, as'⟩ := a'
    refine ⟨some ⟨ab, ao, as'⟩, (List.range len).map f, cap, by simp, by simp; omega, fun h0 => ?_⟩
    simp only [List.length_map, List.length_range] at h0
    have hs : as' = none := spot_none (hf 0 h0).1
    subst hs
    refine ⟨ab, ao, rfl, fun j hj => ?_⟩
    simp only [List.length_map, List.length_range] at hj
    simp only [List.getElem_map, List.getElem_range]
    have := hf j hj
    simp only [add_none] at this
    exact this

end Go.Proofs.YtklopjbpfddgfaaGreat

/- Rows of structs that are read: what holds of them in memory. No function of the program in sight. -/
namespace Go.Proofs.YtklopjbpfddgfaaGreat
open Go.ChangeShapes Go.WideShapes Go.RowKit Go.Deep
set_option linter.unusedVariables false

/-- The cells from this address on. -/
def CellsAt (w : World) (b o : Nat) (vs : List Value) : Prop := ∀ i (h : i < vs.length), w.cell? ⟨b, o + i, none⟩ = some vs[i]
theorem CellsAt.keep {w w' : World} {b o : Nat} {vs : List Value} (h : CellsAt w b o vs) (hn : New w w') : CellsAt w' b o vs := fun i hi => hn.keep (h i hi)

section
variable {α : Type}
/-- A row of elements of k cells each. -/
def RowAt (enc : α → List Value) (k : Nat) (w : World) (b off : Nat) (l : List α) : Prop := ∀ j (h : j < l.length), CellsAt w b (off + j * k) (enc l[j])
theorem RowAt.keep {enc : α → List Value} {k : Nat} {w w' : World} {b off : Nat} {l : List α} (h : RowAt enc k w b off l) (hn : New w w') : RowAt enc k w' b off l := fun j hj => (h j hj).keep hn
/-- A slice: nothing is asked where it has no element. -/
def RowIn (enc : α → List Value) (k : Nat) (w : World) (at0 : Option Addr) (l : List α) : Prop := 0 < l.length → ∃ b off, at0 = some ⟨b, off, none⟩ ∧ RowAt enc k w b off l
theorem RowIn.keep {enc : α → List Value} {k : Nat} {w w' : World} {at0 : Option Addr} {l : List α} (h : RowIn enc k w at0 l) (hn : New w w') : RowIn enc k w' at0 l :=
  fun h0 => by obtain ⟨b, off, e, h1⟩ := h h0; exact ⟨b, off, e, h1.keep hn⟩
theorem RowIn.nil {enc : α → List Value} {k : Nat} {w : World} {at0 : Option Addr} : RowIn enc k w at0 ([] : List α) := fun h => absurd h (by simp)
theorem RowAt.take {enc : α → List Value} {k : Nat} {w : World} {b off : Nat} {l : List α} (h : RowAt enc k w b off l) (n : Nat) : RowAt enc k w b off (l.take n) := fun j hj => by
  have hj' : j < l.length := by simp at hj; omega
  rw [List.getElem_take]
  exact h j hj'
theorem RowIn.take {enc : α → List Value} {k : Nat} {w : World} {at0 : Option Addr} {l : List α} (h : RowIn enc k w at0 l) (n : Nat) : RowIn enc k w at0 (l.take n) := fun h0 => by
  obtain ⟨b, off, e, h1⟩ := h (by simp at h0; omega)
  exact ⟨b, off, e, h1.take n⟩
theorem RowAt.drop {enc : α → List Value} {k : Nat} {w : World} {b off : Nat} {l : List α} (h : RowAt enc k w b off l) (n : Nat) : RowAt enc k w b (off + n * k) (l.drop n) := fun j hj => by
  have hj' : n + j < l.length := by simp at hj; omega
  rw [List.getElem_drop]
  have := h (n + j) hj'
  rwa [Nat.add_mul, ← Nat.add_assoc] at this

/-- A value that is such a slice. -/
def Sl (enc : α → List Value) (k : Nat) (w : World) (v : Value) (l : List α) : Prop := ∃ at0 c, v = .slice at0 l.length c ∧ l.length ≤ c ∧ c ≤ maxLen ∧ (at0 = none → c = 0) ∧ RowIn enc k w at0 l
theorem Sl.keep {enc : α → List Value} {k : Nat} {w w' : World} {v : Value} {l : List α} (h : Sl enc k w v l) (hn : New w w') : Sl enc k w' v l := by
  obtain ⟨a, c, e, h1, h2, h3, h4⟩ := h
  exact ⟨a, c, e, h1, h2, h3, h4.keep hn⟩
theorem Sl.nil {enc : α → List Value} {k : Nat} {w : World} : Sl enc k w (.slice none 0 0) ([] : List α) := ⟨none, 0, rfl, Nat.le_refl _, Nat.zero_le _, fun _ => rfl, RowIn.nil⟩

theorem list_map_of {β : Type} (f : α → β) (P : β → Prop) (l : List β) (h : ∀ x ∈ l, P x) (hp : ∀ y, P y → ∃ x, f x = y) : ∃ l' : List α, l'.map f = l := by
  induction l with
  | nil => exact ⟨[], rfl⟩
  | cons y l ih =>
    obtain ⟨x, hx⟩ := hp y (h y List.mem_cons_self)
    obtain ⟨l', hl'⟩ := ih fun z hz => h z (List.mem_cons_of_mem _ hz)
    exact ⟨x :: l', by rw [List.map_cons, hx, hl']⟩

/-- A slice of structs that came in. -/
theorem open_row [Inhabited α] {H : Type} {enc : TypeId × Value → H} {P : Program} {w : World} {base : Nat} {spare : Nat → Bool} {held : Bool} {t e : TypeId} {cs : List Value} {x : DataW H × List MemPlace} {fuel : Nat} {ks : List Kd} (en : α → List Value) (k : Nat) (hkl : ∀ a, (en a).length = k) (hk0 : 0 < k)
    (ht : P.underlying t = some (.slice e)) (hce : P.cellsOf e = k) (hk : flat P 64 e = some ks) (hen : ∀ vs, Fits ks vs → ∃ a, en a = vs) (h : DataW.trod enc P w base spare held fuel t cs = some x) : ∃ (v : Value) (l : List α), cs = [v] ∧ Sl en k w v l := by
  rcases open_slice ht h with ⟨hc, _⟩ | ⟨a', len', cap', m, n', D, Pl, hc, hb, hl, hm, hmm, _, hx⟩
  · exact ⟨_, [], hc, Sl.nil⟩
  · have hlm : len' ≤ m := by rw [hmm]; split <;> omega
    have each : ∀ i, i < len' → ∃ q : α, ∀ j (hj : j < (en q).length), w.cell? ((a'.add (i * k)).add j) = some (en q)[j] := fun i hi => by
      obtain ⟨cs', g1, g2⟩ := hx i (by omega)
      rw [hce] at g1
      obtain ⟨_, hlen, hcell⟩ := World.cells?_some g1
      have hfit := fits_flat 64 hk g2
      obtain ⟨q, hq⟩ := hen _ hfit
      refine ⟨q, fun j hj => ?_⟩
      subst hq
      rw [hcell j (by rw [← hlen]; exact hj), List.getElem?_eq_getElem hj]
    obtain ⟨f, hf⟩ := choose_lt each
    obtain ⟨ab, ao, as'⟩ := a'
    refine ⟨_, (List.range len').map f, hc, some ⟨ab, ao, as'⟩, cap', by simp, by simpa using hl, hm, fun h => (by cases h), fun h0 => ?_⟩
    simp only [List.length_map, List.length_range] at h0
    have hs : as' = none := by
      have h1 := hf 0 h0 0 (by rw [hkl]; exact hk0)
      cases as' with
      | none => rfl
      | some x =>
        rw [Nat.zero_mul, Addr.add_zero', Addr.add_zero'] at h1
        exact absurd (spot_none h1) (by simp)
    subst hs
    refine ⟨ab, ao, rfl, fun j hj i hi => ?_⟩
    simp only [List.length_map, List.length_range] at hj
    simp only [List.getElem_map, List.getElem_range] at hi ⊢
    have := hf j hj i hi
    simp only [add_none] at this
    exact this

end
end Go.Proofs.YtklopjbpfddgfaaGreat
