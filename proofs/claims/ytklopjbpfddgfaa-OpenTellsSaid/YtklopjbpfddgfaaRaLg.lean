/- A statement whose order is open: XLoose's rule, where operations may have guards, of which one shows that they are met. No function of the program in sight. -/
import Derived.Test.YtklopjbpfddgfaaLoose
namespace Go.Proofs.Ytklopjbpfddgfaa
open Go.RowKit
set_option linter.unusedVariables false

section
variable {P : Program} {ops : Array Oper} {W : World} {n : Nat}

theorem wanted_none {o : Oper} {y : Nat → Option Bool} (h : o.guard = none) : Region.wanted o y = true := by unfold Region.wanted; rw [h]
theorem wanted_met {o : Oper} {g d : Nat} {b : Bool} {tmps : Array Value} (hg : o.guard = some (g, b)) (hd : (ops[g]?).bind (·.dst) = some d) (he : (tmps[d]?).getD undef = .bool b) : Region.wanted o (yielded ops tmps) = true := by
  unfold Region.wanted yielded
  rw [hg]
  simp only [hd, Option.bind_some]
  cases ht : tmps[d]? with
  | none => rw [ht] at he; cases he
  | some v =>
    rw [ht] at he
    simp only [Option.getD_some] at he
    subst he
    simp

def opG (ops : Array Oper) (n sz j : Nat) : Bool := match ops[j]? with
  | some o => (match o.dst with
    | some d => decide (d < sz) && (List.range n).all fun k => k == j || match ops[k]? with | some o' => o'.dst != some d | none => true
    | none => false) && o.after.all fun e => !Region.binds .any e || decide (e.on < j)
  | none => false
def looseG (ops : Array Oper) (n sz : Nat) : Bool :=
  Region.sinkB .any ops n && chain2B ops n && decide (n < ops.size) && (List.range n).all (opG ops n sz) && Region.seqB .any ops (ops.size - n) n (heads ops.size n)

theorem opG_spec {sz j : Nat} (h : opG ops n sz j = true) : ∃ o d, ops[j]? = some o ∧ o.dst = some d ∧ d < sz ∧ (∀ k o', k < n → k ≠ j → ops[k]? = some o' → o'.dst ≠ some d) ∧ ∀ e ∈ o.after, Region.binds .any e = true → e.on < j := by
  unfold opG at h
  split at h
  · rename_i o ho
    simp only [Bool.and_eq_true] at h
    obtain ⟨h2, h3⟩ := h
    split at h2
    · rename_i d hd
      simp only [Bool.and_eq_true, decide_eq_true_eq] at h2
      refine ⟨o, d, ho, hd, h2.1, fun k o' hk hkj hok hd' => ?_, fun e he hb => ?_⟩
      · have h4 := List.all_eq_true.1 h2.2 k (List.mem_range.2 hk)
        simp only [hok, Bool.or_eq_true, beq_iff_eq, hkj, false_or, bne_iff_ne] at h4
        exact h4 hd'
      · have h5 := Array.all_eq_true_iff_forall_mem.1 h3 e he
        simpa [hb] using h5
    · cases h2
  · cases h

theorem wpAny_gloose2 {V : Nat → World → Value → Prop} {a : Act} {Q : Exit → Act → World → Prop} {g : Nat} (hs : Region.sinkB .any ops n = true) (hc : chain2B ops n = true) (hlt : n < ops.size) (ho : ∀ j, j < n → opG ops n a.tmps.size j = true)
    (hV : ∀ i w w' v, V i w v → New w w' → V i w' v)
    (hwant : ∀ i o, i < n → ops[i]? = some o → ∀ (a' : Act) (w' : World), New W w' → (∀ j d, j < n → waitsB o j = true → (ops[j]?).bind (·.dst) = some d → V j w' (a'.eval (.tmp d))) → Region.wanted o (yielded ops a'.tmps) = true)
    (hstep : ∀ i o, i < n → ops[i]? = some o → ∀ a' w', New W w' → (∀ t, restsB ops n t = true → a'.eval (.tmp t) = a.eval (.tmp t)) → (∀ j d, j < n → waitsB o j = true → (ops[j]?).bind (·.dst) = some d → V j w' (a'.eval (.tmp d))) → Yields P o a' w' fun v w'' => New w' w'' ∧ V i w'' v)
    (hL : ∀ listed a' w', (∀ j, j < n → listed.getD j false = true) → HeadInv .any ops n listed → LInv ops W n V a listed a' w' → wpAny P .any ops Q g listed a' w') :
    ∀ (f : Nat) (listed : Array Bool) (a' : Act) (w' : World), HeadInv .any ops n listed → toCome listed n = f → LInv ops W n V a listed a' w' → wpAny P .any ops Q (f + g) listed a' w'
  | 0, listed, a', w', inv, hf, K => by rw [Nat.zero_add]; exact hL _ _ _ (toCome_zero n hf) inv K
  | f + 1, listed, a', w', inv, hf, K => by
    rw [show f + 1 + g = (f + g) + 1 by omega]
    obtain ⟨i0, hi0, hm0⟩ := exists_least (toCome_some n (by omega : 0 < toCome listed n))
    obtain ⟨o0, d0, ho0, _, _, _, haf⟩ := opG_spec (ho i0 hi0.1)
    have hsz : i0 < listed.size := by rw [inv.size]; omega
    have hr0 : i0 ∈ Region.ready .any ops listed := mem_ready.2 ⟨getD_in hsz hi0.2, o0, ho0, fun e he hb => by
      have h1 := haf e he hb
      cases hl : listed.getD e.on false with
      | true => rfl
      | false => have := hm0 e.on ⟨by omega, hl⟩; omega⟩
    refine ⟨fun h0 => absurd hr0 (by rw [h0]; simp), fun i hi => ?_⟩
    have hin : i < n := Nat.lt_of_not_le fun h => tail_waits2 hs hc hlt inv i0 hi0.1 (getD_in hsz hi0.2) i h hi
    obtain ⟨hun, o', ho', hall⟩ := mem_ready.1 hi
    obtain ⟨o, d, hoi, hd, hds, hdis, _⟩ := opG_spec (ho i hin)
    obtain rfl : o' = o := Option.some.inj (ho'.symm.trans hoi)
    unfold wpOp
    simp only [hoi]
    have hheld : ∀ j dj, j < n → waitsB o' j = true → (ops[j]?).bind (·.dst) = some dj → V j w' (a'.eval (.tmp dj)) := fun j dj hj hwj hdj => by
      obtain ⟨e, he, hb⟩ := Array.any_eq_true'.1 hwj
      simp only [Bool.and_eq_true, beq_iff_eq] at hb
      have h1 := hall e he hb.1
      rw [hb.2] at h1
      cases hoj : ops[j]? with
      | none => rw [hoj] at hdj; cases hdj
      | some oj =>
        rw [hoj] at hdj
        exact K.held j oj dj hj hoj h1 hdj
    have hw : Region.wanted o' (yielded ops a'.tmps) = true := hwant i o' hin hoi a' w' K.new hheld
    rw [if_pos hw]
    refine .inl (yields_wp (hstep i o' hin hoi a' w' K.new (fun t ht => ?_) hheld) fun v w'' ⟨hn, hv⟩ => ?_)
    · rw [eval_get, eval_get, K.same t fun j oj hj hoj hd' => by
        have h1 := List.all_eq_true.1 ht j (List.mem_range.2 hj)
        simp only [hoj, bne_iff_ne] at h1
        exact h1 hd']
    · rw [hd]
      refine wpAny_gloose2 hs hc hlt ho hV hwant hstep hL f _ _ _ (inv.set hi hin) (by have := toCome_set (by rw [inv.size]; omega) (getD_both hun) n hin; omega) ⟨K.new.trans hn, by rw [put_def]; exact K.defs, by rw [put_size]; exact K.size, fun s h => ?_, fun j oj dj hj hoj hl hdj => ?_⟩
      · rw [put_get_ne (by rintro _ ⟨rfl⟩ e; subst e; exact h i o' hin hoi hd)]
        exact K.same s h
      · by_cases hji : j = i
        · subst hji
          obtain rfl : oj = o' := Option.some.inj (hoj.symm.trans hoi)
          obtain rfl : dj = d := Option.some.inj (hdj.symm.trans hd)
          rw [eval_get, put_get_eq (by rw [K.size]; exact hds)]
          exact hv
        · rw [getD_set_ne false (fun e => hji e.symm)] at hl
          have h1 := hdis j oj hj hji hoj
          rw [eval_get, put_get_ne (by rintro _ ⟨rfl⟩ e; subst e; exact h1 hdj), ← eval_get]
          exact hV _ _ _ _ (K.held j oj dj hj hoj hl hdj) hn

theorem wp_region_gloose2 {id : Nat} {Q : Exit → Act → World → Prop} {a : Act} {w : World} {l : List Oper} (n : Nat) (V : Nat → World → Value → Prop) (hm : P.follows .mixedOrders = true) (hB : looseG l.toArray n a.tmps.size = true)
    (hV : ∀ i w w' v, V i w v → New w w' → V i w' v)
    (hwant : ∀ i o, i < n → l.toArray[i]? = some o → ∀ (a' : Act) (w' : World), New w w' → (∀ j d, j < n → waitsB o j = true → (l.toArray[j]?).bind (·.dst) = some d → V j w' (a'.eval (.tmp d))) → Region.wanted o (yielded l.toArray a'.tmps) = true)
    (hstep : ∀ i o, i < n → l.toArray[i]? = some o → ∀ a' w', New w w' → (∀ t, restsB l.toArray n t = true → a'.eval (.tmp t) = a.eval (.tmp t)) → (∀ j d, j < n → waitsB o j = true → (l.toArray[j]?).bind (·.dst) = some d → V j w' (a'.eval (.tmp d))) → Yields P o a' w' fun v w'' => New w' w'' ∧ V i w'' v)
    (htail : ∀ vs w', New w w' → (∀ j, j < n → V j w' (vs j)) → wpList P l.toArray Q (l.drop n) (putL (l.take n) vs 0 a) w') : (Code.region id l.toArray true).wp P Q a w := by
  simp only [looseG, Bool.and_eq_true, decide_eq_true_eq] at hB
  obtain ⟨⟨⟨⟨hs, hc⟩, hlt⟩, hops⟩, hseq⟩ := hB
  have ho : ∀ j, j < n → opG l.toArray n a.tmps.size j = true := fun j hj => List.all_eq_true.1 hops j (List.mem_range.2 hj)
  have hll : l.toArray.size = l.length := by simp
  have inv0 : HeadInv .any l.toArray n (Array.replicate l.toArray.size false) :=
    ⟨by simp, fun j oj _ hl => (by rw [getD_replicate_false] at hl; cases hl), fun t _ ht => getD_in (by simpa using ht) (getD_replicate_false _ _)⟩
  have h0 : ∀ k, toCome (Array.replicate l.toArray.size false) k = k := by
    intro k
    induction k with
    | zero => rfl
    | succ k ih =>
      unfold toCome
      rw [ih, getD_replicate_false]
      simp
      omega
  refine wp_region_any hm ?_
  have := wpAny_gloose2 (P := P) (W := w) (V := V) (Q := Q) (g := l.toArray.size - n) (a := a) hs hc hlt ho hV hwant hstep (fun listed a' w' hall inv K => by
    have hlist : listed = heads l.toArray.size n := by
      refine Array.ext (by rw [inv.size]; simp [heads]) fun j h1 h2 => ?_
      have hj : j < l.toArray.size := by rw [← inv.size]; exact h1
      have e2 : (heads l.toArray.size n)[j] = decide (j < n) := by simp [heads]
      rw [e2]
      by_cases hjn : j < n
      · have := hall j hjn
        rw [Array.getD_eq_getD_getElem?, Array.getElem?_eq_getElem h1] at this
        simpa [hjn] using this
      · have := inv.tail j (by omega) hj
        rw [Array.getD_eq_getD_getElem?, Array.getElem?_eq_getElem h1] at this
        simpa [hjn] using this
    have hdl : (l.drop n).length = l.toArray.size - n := by simp
    have hw := wpAny_of_seq (P := P) (md := .any) (ops := l.toArray) (Q' := Q) (l.drop n) n listed a' w' (fun j => by simp [List.getElem?_drop]) (by rw [hdl, hlist]; exact hseq) (by
      have ht := htail (fun j => a'.eval (.tmp (((l.toArray[j]?).bind (·.dst)).getD 0))) w' K.new (fun j hj => by
        obtain ⟨o, d, hoj, hd, _⟩ := opG_spec (ho j hj)
        have := K.held j o d hj hoj (hall j hj) hd
        simpa [hoj, hd] using this)
      have hta : ∀ i o, (l.take n)[i]? = some o → i < n ∧ l.toArray[i]? = some o := fun i o h => by
        have h1 : i < (l.take n).length := (List.getElem?_eq_some_iff.1 h).1
        have h2 : i < n := by simp at h1; omega
        rw [List.getElem?_take, if_pos h2] at h
        exact ⟨h2, by simpa using h⟩
      have e : putL (l.take n) (fun j => a'.eval (.tmp (((l.toArray[j]?).bind (·.dst)).getD 0))) 0 a = a' := act_eq (by rw [putL_def, K.defs]) fun s => by
        by_cases hw : ∃ j oj, j < n ∧ l.toArray[j]? = some oj ∧ oj.dst = some s
        · obtain ⟨j, oj, hj, hoj, hd⟩ := hw
          obtain ⟨o, d, hoj', hd', hds, hdis, _⟩ := opG_spec (ho j hj)
          obtain rfl : oj = o := Option.some.inj (hoj.symm.trans hoj')
          obtain rfl : s = d := Option.some.inj (hd.symm.trans hd')
          rw [putL_some (l.take n) _ 0 a j oj (by rw [List.getElem?_take, if_pos hj]; simpa using hoj) hd hds fun i o' hi hij hd2 => hdis i o' (hta i o' hi).1 hij (hta i o' hi).2 hd2]
          rw [Nat.zero_add, hoj]
          show some (a'.eval (.tmp ((oj.dst).getD 0))) = _
          rw [hd]
          show some (a'.eval (.tmp s)) = _
          rw [eval_get, Array.getElem?_eq_getElem (by rw [K.size]; exact hds)]
          rfl
        · rw [putL_none _ _ _ _ fun o ho' hd => by
            obtain ⟨i, hi, he⟩ := List.getElem_of_mem ho'
            have := hta i o (by rw [List.getElem?_eq_getElem hi, he])
            exact hw ⟨i, o, this.1, this.2, hd⟩]
          exact (K.same s fun j oj hj hoj hd => hw ⟨j, oj, hj, hoj, hd⟩).symm
      rw [e] at ht
      exact ht)
    rwa [hdl] at hw) n _ a { w with drawn := w.drawn + 1 } inv0 (h0 n) ⟨Below.drew (Below.refl _ w), rfl, rfl, fun _ _ => rfl, fun j oj d _ _ hl => by rw [getD_replicate_false] at hl; cases hl⟩
  rwa [show n + (l.toArray.size - n) = l.toArray.size by omega] at this

end
end Go.Proofs.Ytklopjbpfddgfaa
