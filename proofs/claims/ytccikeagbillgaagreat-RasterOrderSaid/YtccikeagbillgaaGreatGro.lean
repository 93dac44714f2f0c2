/- Worlds with new blocks alone, that have drawn no less. No function of the program in sight. -/
import Derived.Test.YtccikeagbillgaaGreatLoose
import Derived.Sort.Grow
namespace Go.Proofs.YtccikeagbillgaaGreat
open Go.RowKit
set_option linter.unusedVariables false

def Gro (w w' : World) : Prop := New w w' ∧ w.drawn ≤ w'.drawn
theorem Gro.new {w w' : World} (h : Gro w w') : New w w' := h.1
theorem Gro.refl (w : World) : Gro w w := ⟨New.refl _, Nat.le_refl _⟩
theorem Gro.trans {a b c : World} (h : Gro a b) (k : Gro b c) : Gro a c := ⟨h.1.trans k.1, Nat.le_trans h.2 k.2⟩
theorem Gro.snart {a b c : World} (k : Gro b c) (h : Gro a b) : Gro a c := h.trans k
theorem Gro.alloc {a w : World} (h : Gro a w) (o : Obj) : Gro a (w.alloc o) := ⟨h.1.alloc o, h.2⟩
theorem Gro.drew {a w : World} (h : Gro a w) : Gro a w.drew := ⟨h.1.drew, Nat.le_succ_of_le h.2⟩
theorem Gro.drewN {a w : World} (h : Gro a w) (n : Nat) : Gro a (w.drewN n) := ⟨h.1.drewN n, Nat.le_trans h.2 (Nat.le_add_right _ _)⟩
theorem Gro.setB {a w : World} {p : Addr} (hp : a.heap.size ≤ p.block) (h : Gro a w) (u : Value) : Gro a (w.setCell p u) := ⟨h.1.setCell hp u, h.2⟩
/-- Told as the sort wants it told. -/
theorem Gro.grow {w w' : World} (h : Gro w w') : ∃ q os, w' = Go.Sort.grow (w.drewN q) os := by
  obtain ⟨⟨h1, h2, h3, h4, h5⟩, hd⟩ := h
  refine ⟨w'.drawn - w.drawn, w'.heap.extract w.heap.size w'.heap.size, ?_⟩
  obtain ⟨hp, tp, dr, os, ou⟩ := w'
  obtain ⟨hp', tp', dr', os', ou'⟩ := w
  simp only at h1 h2 h3 h4 h5 hd
  subst h1 h2 h3
  simp only [Go.Sort.grow, World.drewN, World.mk.injEq]
  refine ⟨?_, trivial, by omega, trivial, trivial⟩
  apply Array.ext_getElem?
  intro i
  rw [Array.getElem?_append]
  split
  · exact h5 i ‹_›
  · rename_i hi
    rw [Array.getElem?_extract]
    split
    · congr 1; omega
    · rw [Array.getElem?_eq_none]; omega

/-! The rule for a statement whose order is open, in this class. -/
section
variable {P : Program} {ops : Array Oper} {W : World} {n : Nat}
theorem Gro.of_grow {w w' : World} (h : ∃ q os, w' = Go.Sort.grow (w.drewN q) os) : Gro w w' := by
  obtain ⟨q, os, rfl⟩ := h
  refine ⟨⟨rfl, rfl, rfl, by simp, fun k hk => Go.Sort.heap_grow_old _ _ hk⟩, Nat.le_add_right _ _⟩
structure GInv (ops : Array Oper) (W : World) (n : Nat) (V : Nat → World → Value → Prop) (a : Act) (listed : Array Bool) (a' : Act) (w' : World) : Prop where
  new : Gro W w'
  defs : a'.defers = a.defers
  size : a'.tmps.size = a.tmps.size
  same : ∀ s, (∀ j oj, j < n → ops[j]? = some oj → oj.dst ≠ some s) → a'.tmps[s]? = a.tmps[s]?
  held : ∀ j oj d, j < n → ops[j]? = some oj → listed.getD j false = true → oj.dst = some d → V j w' (a'.eval (.tmp d))

theorem wpAny_gloose {V : Nat → World → Value → Prop} {a : Act} {Q : Exit → Act → World → Prop} {g : Nat} (hs : Region.sinkB .any ops n = true) (hc : chain2B ops n = true) (hlt : n < ops.size) (ho : ∀ j, j < n → opB ops n a.tmps.size j = true)
    (hV : ∀ i w w' v, V i w v → Gro w w' → V i w' v)
    (hstep : ∀ i o, i < n → ops[i]? = some o → ∀ a' w', Gro W w' → (∀ t, restsB ops n t = true → a'.eval (.tmp t) = a.eval (.tmp t)) → (∀ j d, j < n → waitsB o j = true → (ops[j]?).bind (·.dst) = some d → V j w' (a'.eval (.tmp d))) → Yields P o a' w' fun v w'' => Gro w' w'' ∧ V i w'' v)
    (hL : ∀ listed a' w', (∀ j, j < n → listed.getD j false = true) → HeadInv .any ops n listed → GInv ops W n V a listed a' w' → wpAny P .any ops Q g listed a' w') :
    ∀ (f : Nat) (listed : Array Bool) (a' : Act) (w' : World), HeadInv .any ops n listed → toCome listed n = f → GInv ops W n V a listed a' w' → wpAny P .any ops Q (f + g) listed a' w'
  | 0, listed, a', w', inv, hf, K => by rw [Nat.zero_add]; exact hL _ _ _ (toCome_zero n hf) inv K
  | f + 1, listed, a', w', inv, hf, K => by
    rw [show f + 1 + g = (f + g) + 1 by omega]
    obtain ⟨i0, hi0, hm0⟩ := exists_least (toCome_some n (by omega : 0 < toCome listed n))
    obtain ⟨o0, d0, ho0, _, _, _, _, haf⟩ := opB_spec (ho i0 hi0.1)
    have hsz : i0 < listed.size := by rw [inv.size]; omega
    have hr0 : i0 ∈ Region.ready .any ops listed := mem_ready.2 ⟨getD_in hsz hi0.2, o0, ho0, fun e he hb => by
      have h1 := haf e he hb
      cases hl : listed.getD e.on false with
      | true => rfl
      | false => have := hm0 e.on ⟨by omega, hl⟩; omega⟩
    refine ⟨fun h0 => absurd hr0 (by rw [h0]; simp), fun i hi => ?_⟩
    have hin : i < n := Nat.lt_of_not_le fun h => tail_waits2 hs hc hlt inv i0 hi0.1 (getD_in hsz hi0.2) i h hi
    obtain ⟨hun, o', ho', hall⟩ := mem_ready.1 hi
    obtain ⟨o, d, hoi, hg, hd, hds, hdis, _⟩ := opB_spec (ho i hin)
    obtain rfl : o' = o := Option.some.inj (ho'.symm.trans hoi)
    unfold wpOp
    simp only [hoi]
    have hw : Region.wanted o' (yielded ops a'.tmps) = true := by unfold Region.wanted; rw [hg]
    rw [if_pos hw]
    refine .inl (yields_wp (hstep i o' hin hoi a' w' K.new (fun t ht => ?_) (fun j dj hj hwj hdj => ?_)) fun v w'' ⟨hn, hv⟩ => ?_)
    · rw [eval_get, eval_get, K.same t fun j oj hj hoj hd' => by
        have h1 := List.all_eq_true.1 ht j (List.mem_range.2 hj)
        simp only [hoj, bne_iff_ne] at h1
        exact h1 hd']
    · obtain ⟨e, he, hb⟩ := Array.any_eq_true'.1 hwj
      simp only [Bool.and_eq_true, beq_iff_eq] at hb
      have h1 := hall e he hb.1
      rw [hb.2] at h1
      cases hoj : ops[j]? with
      | none => rw [hoj] at hdj; cases hdj
      | some oj =>
        rw [hoj] at hdj
        exact K.held j oj dj hj hoj h1 hdj
    · rw [hd]
      refine wpAny_gloose hs hc hlt ho hV hstep hL f _ _ _ (inv.set hi hin) (by have := toCome_set (by rw [inv.size]; omega) (getD_both hun) n hin; omega) ⟨K.new.trans hn, by rw [put_def]; exact K.defs, by rw [put_size]; exact K.size, fun s h => ?_, fun j oj dj hj hoj hl hdj => ?_⟩
      · rw [put_get_ne (by rintro _ ⟨rfl⟩ e; subst e; exact h i o' hin hoi hd)]
        exact K.same s h
      · by_cases hji : j = i
        · subst hji
          obtain rfl : oj = o' := Option.some.inj (hoj.symm.trans hoi)
          obtain rfl : dj = d := Option.some.inj (hdj.symm.trans hd)
          rw [eval_get, put_get_eq (by rw [K.size]; exact hds)]
          exact hv
        · rw [getD_set_ne false (fun e => hji e.symm)] at hl
          have h1 := hdis j oj hj hji hoj
          rw [eval_get, put_get_ne (by rintro _ ⟨rfl⟩ e; subst e; exact h1 hdj), ← eval_get]
          exact hV _ _ _ _ (K.held j oj dj hj hoj hl hdj) hn

theorem wp_region_gloose {id : Nat} {Q : Exit → Act → World → Prop} {a : Act} {w : World} {l : List Oper} (n : Nat) (V : Nat → World → Value → Prop) (hm : P.follows .mixedOrders = true) (hB : looseB l.toArray n a.tmps.size = true)
    (hV : ∀ i w w' v, V i w v → Gro w w' → V i w' v)
    (hstep : ∀ i o, i < n → l.toArray[i]? = some o → ∀ a' w', Gro w w' → (∀ t, restsB l.toArray n t = true → a'.eval (.tmp t) = a.eval (.tmp t)) → (∀ j d, j < n → waitsB o j = true → (l.toArray[j]?).bind (·.dst) = some d → V j w' (a'.eval (.tmp d))) → Yields P o a' w' fun v w'' => Gro w' w'' ∧ V i w'' v)
    (htail : ∀ vs w', Gro w w' → (∀ j, j < n → V j w' (vs j)) → wpList P l.toArray Q (l.drop n) (putL (l.take n) vs 0 a) w') : (Code.region id l.toArray true).wp P Q a w := by
  simp only [looseB, Bool.and_eq_true, decide_eq_true_eq] at hB
  obtain ⟨⟨⟨⟨hs, hc⟩, hlt⟩, hops⟩, hseq⟩ := hB
  have ho : ∀ j, j < n → opB l.toArray n a.tmps.size j = true := fun j hj => List.all_eq_true.1 hops j (List.mem_range.2 hj)
  have hll : l.toArray.size = l.length := by simp
  have inv0 : HeadInv .any l.toArray n (Array.replicate l.toArray.size false) :=
    ⟨by simp, fun j oj _ hl => (by rw [getD_replicate_false] at hl; cases hl), fun t _ ht => getD_in (by simpa using ht) (getD_replicate_false _ _)⟩
  have h0 : ∀ k, toCome (Array.replicate l.toArray.size false) k = k := by
    intro k
    induction k with
    | zero => rfl
    | succ k ih =>
      unfold toCome
      rw [ih, getD_replicate_false]
      simp
      omega
  refine wp_region_any hm ?_
  have := wpAny_gloose (P := P) (W := w) (V := V) (Q := Q) (g := l.toArray.size - n) (a := a) hs hc hlt ho hV hstep (fun listed a' w' hall inv K => by
    have hlist : listed = heads l.toArray.size n := by
      refine Array.ext (by rw [inv.size]; simp [heads]) fun j h1 h2 => ?_
      have hj : j < l.toArray.size := by rw [← inv.size]; exact h1
      have e2 : (heads l.toArray.size n)[j] = decide (j < n) := by simp [heads]
      rw [e2]
      by_cases hjn : j < n
      · have := hall j hjn
        rw [Array.getD_eq_getD_getElem?, Array.getElem?_eq_getElem h1] at this
        simpa [hjn] using this
      · have := inv.tail j (by omega) hj
        rw [Array.getD_eq_getD_getElem?, Array.getElem?_eq_getElem h1] at this
        simpa [hjn] using this
    have hdl : (l.drop n).length = l.toArray.size - n := by simp
    have hw := wpAny_of_seq (P := P) (md := .any) (ops := l.toArray) (Q' := Q) (l.drop n) n listed a' w' (fun j => by simp [List.getElem?_drop]) (by rw [hdl, hlist]; exact hseq) (by
      have ht := htail (fun j => a'.eval (.tmp (((l.toArray[j]?).bind (·.dst)).getD 0))) w' K.new (fun j hj => by
        obtain ⟨o, d, hoj, _, hd, _⟩ := opB_spec (ho j hj)
        have := K.held j o d hj hoj (hall j hj) hd
        simpa [hoj, hd] using this)
      have hta : ∀ i o, (l.take n)[i]? = some o → i < n ∧ l.toArray[i]? = some o := fun i o h => by
        have h1 : i < (l.take n).length := (List.getElem?_eq_some_iff.1 h).1
        have h2 : i < n := by simp at h1; omega
        rw [List.getElem?_take, if_pos h2] at h
        exact ⟨h2, by simpa using h⟩
      have e : putL (l.take n) (fun j => a'.eval (.tmp (((l.toArray[j]?).bind (·.dst)).getD 0))) 0 a = a' := act_eq (by rw [putL_def, K.defs]) fun s => by
        by_cases hw : ∃ j oj, j < n ∧ l.toArray[j]? = some oj ∧ oj.dst = some s
        · obtain ⟨j, oj, hj, hoj, hd⟩ := hw
          obtain ⟨o, d, hoj', _, hd', hds, hdis, _⟩ := opB_spec (ho j hj)
          obtain rfl : oj = o := Option.some.inj (hoj.symm.trans hoj')
          obtain rfl : s = d := Option.some.inj (hd.symm.trans hd')
          rw [putL_some (l.take n) _ 0 a j oj (by rw [List.getElem?_take, if_pos hj]; simpa using hoj) hd hds fun i o' hi hij hd2 => hdis i o' (hta i o' hi).1 hij (hta i o' hi).2 hd2]
          rw [Nat.zero_add, hoj]
          show some (a'.eval (.tmp ((oj.dst).getD 0))) = _
          rw [hd]
          show some (a'.eval (.tmp s)) = _
          rw [eval_get, Array.getElem?_eq_getElem (by rw [K.size]; exact hds)]
          rfl
        · rw [putL_none _ _ _ _ fun o ho' hd => by
            obtain ⟨i, hi, he⟩ := List.getElem_of_mem ho'
            have := hta i o (by rw [List.getElem?_eq_getElem hi, he])
            exact hw ⟨i, o, this.1, this.2, hd⟩]
          exact (K.same s fun j oj hj hoj hd => hw ⟨j, oj, hj, hoj, hd⟩).symm
      rw [e] at ht
      exact ht)
    rwa [hdl] at hw) n _ a { w with drawn := w.drawn + 1 } inv0 (h0 n) ⟨Gro.drew (Gro.refl w), rfl, rfl, fun _ _ => rfl, fun j oj d _ _ hl => by rw [getD_replicate_false] at hl; cases hl⟩
  rwa [show n + (l.toArray.size - n) = l.toArray.size by omega] at this

end

end Go.Proofs.YtccikeagbillgaaGreat
