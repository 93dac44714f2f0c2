import Derived.Test.YtklopjbpfddgfaaGreatLooseZ12
import Derived.Test.YtklopjbpfddgfaaGreatWholeBZ12
import Derived.Test.YtklopjbpfddgfaaGreatClHZ12
import Derived.Deep.LoopGhost
import Derived.Deep.DeepCutAuto

/- The same, where one operation (an extraction: number e) may also come behind the store (number n) that waits for all the others. No function of the program in sight. -/
namespace Go.Proofs.YtklopjbpfddgfaaGreat
open Go.RowKit
set_option linter.unusedVariables false

section
variable {P : Program} {ops : Array Oper} {W : World} {n e : Nat}

def sinkE (ops : Array Oper) (n e : Nat) : Bool :=
  (List.range n).all fun i => i == e || (List.range (n + 1)).any fun j => decide (i < j) && j != e && Region.waitsFor .any ops j i

theorem tail_waitsE {listed : Array Bool} (hs : sinkE ops n e = true) (hc : chain2B ops n = true) (hn : n < ops.size) (inv : HeadInv .any ops n listed) (i : Nat) (hi : i < n) (hie : i ≠ e) (hun : listed.getD i true = false) :
    ∀ t, n ≤ t → t ∉ Region.ready .any ops listed := by
  intro t ht hr
  obtain ⟨_, ot, hot, hall⟩ := mem_ready.1 hr
  have htlt : t < ops.size := (Array.getElem?_eq_some_iff.1 hot).1
  by_cases htn : t = n
  · subst htn
    have key : ∀ (d i : Nat), t - i = d → i < t → i ≠ e → listed.getD i true = false → False := by
      intro d
      induction d using Nat.strongRecOn with
      | _ d ih =>
        intro i hd hi hie hun
        have h1 := List.all_eq_true.1 hs i (List.mem_range.2 hi)
        simp only [Bool.or_eq_true, beq_iff_eq, hie, false_or] at h1
        obtain ⟨j, hj, hj2⟩ := List.any_eq_true.1 h1
        simp only [Bool.and_eq_true, decide_eq_true_eq, bne_iff_ne] at hj2
        obtain ⟨oj, hoj, x, he, hb, hon⟩ := Region.waitsFor_spec hj2.2
        have hjle : j ≤ t := by have := List.mem_range.1 hj; omega
        by_cases hjt : j = t
        · subst hjt
          have : oj = ot := Option.some.inj (hoj.symm.trans hot)
          subst this
          have h2 := hall x he hb
          rw [hon, getD_both hun] at h2
          cases h2
        · cases hl : listed.getD j false with
          | true =>
            have h2 := inv.closed j oj hoj hl x he hb
            rw [hon, getD_both hun] at h2
            cases h2
          | false =>
            have hjs : j < listed.size := by rw [inv.size]; omega
            exact ih (t - j) (by omega) j rfl (by omega) hj2.1.2 (getD_in hjs hl)
    exact key _ i rfl hi hie hun
  · have h1 := List.all_eq_true.1 hc t (List.mem_range.2 htlt)
    simp only [Bool.or_eq_true, decide_eq_true_eq] at h1
    rcases h1 with h1 | h1
    · omega
    · obtain ⟨j, hj, hj2⟩ := List.any_eq_true.1 h1
      simp only [Bool.and_eq_true, decide_eq_true_eq] at hj2
      have hjt := List.mem_range.1 hj
      obtain ⟨o', ho', x, he, hb, hon⟩ := Region.waitsFor_spec hj2.2
      have : o' = ot := Option.some.inj (ho'.symm.trans hot)
      subst this
      have h2 := hall x he hb
      rw [hon, getD_both (inv.tail j hj2.1 (by omega))] at h2
      cases h2

/-- What the text's order gives of an operation's step, on the invariant. -/
theorem linv_step {V : Nat → World → Value → Prop} {a a' : Act} {listed : Array Bool} {w' w'' : World} {i d : Nat} {o : Oper} {v : Value} (hV : ∀ i w w' v, V i w v → New w w' → V i w' v) (K : LInv ops W n V a listed a' w') (hin : i < n) (hoi : ops[i]? = some o) (hd : o.dst = some d) (hds : d < a.tmps.size)
    (hdis : ∀ k o', k < n → k ≠ i → ops[k]? = some o' → o'.dst ≠ some d) (hn : New w' w'') (hv : V i w'' v) : LInv ops W n V a (listed.setIfInBounds i true) (a'.put (some d) v) w'' := by
  refine ⟨K.new.trans hn, by rw [put_def]; exact K.defs, by rw [put_size]; exact K.size, fun s h => ?_, fun j oj dj hj hoj hl hdj => ?_⟩
  · rw [put_get_ne (by rintro _ ⟨rfl⟩ x; subst x; exact h i o hin hoi hd)]
    exact K.same s h
  · by_cases hji : j = i
    · subst hji
      obtain rfl : oj = o := Option.some.inj (hoj.symm.trans hoi)
      obtain rfl : dj = d := Option.some.inj (hdj.symm.trans hd)
      rw [eval_get, put_get_eq (by rw [K.size]; exact hds)]
      exact hv
    · rw [getD_set_ne false (fun x => hji x.symm)] at hl
      have h1 := hdis j oj hj hji hoj
      rw [eval_get, put_get_ne (by rintro _ ⟨rfl⟩ x; subst x; exact h1 hdj), ← eval_get]
      exact hV _ _ _ _ (K.held j oj dj hj hoj hl hdj) hn

/-- All listed: the frame is the text's, with values of which all is true that was told. -/
theorem linv_putL {l : List Oper} {V : Nat → World → Value → Prop} {a a' : Act} {listed : Array Bool} {w' : World} (ho : ∀ j, j < n → opB l.toArray n a.tmps.size j = true) (hall : ∀ j, j < n → listed.getD j false = true) (K : LInv l.toArray W n V a listed a' w') :
    ∃ vs : Nat → Value, (∀ j, j < n → V j w' (vs j)) ∧ putL (l.take n) vs 0 a = a' := by
  refine ⟨fun j => a'.eval (.tmp (((l.toArray[j]?).bind (·.dst)).getD 0)), fun j hj => ?_, ?_⟩
  · obtain ⟨o, d, hoj, _, hd, _⟩ := opB_spec (ho j hj)
    have := K.held j o d hj hoj (hall j hj) hd
    show V j w' (a'.eval (.tmp (((l.toArray[j]?).bind (·.dst)).getD 0)))
    rw [hoj]
    show V j w' (a'.eval (.tmp (o.dst.getD 0)))
    rw [hd]
    exact this
  · have hta : ∀ i o, (l.take n)[i]? = some o → i < n ∧ l.toArray[i]? = some o := fun i o h => by
      have h1 : i < (l.take n).length := (List.getElem?_eq_some_iff.1 h).1
      have h2 : i < n := by simp at h1; omega
      rw [List.getElem?_take, if_pos h2] at h
      exact ⟨h2, by simpa using h⟩
    refine act_eq (by rw [putL_def, K.defs]) fun s => ?_
    by_cases hw : ∃ j oj, j < n ∧ l.toArray[j]? = some oj ∧ oj.dst = some s
    · obtain ⟨j, oj, hj, hoj, hd⟩ := hw
      obtain ⟨o, d, hoj', _, hd', hds, hdis, _⟩ := opB_spec (ho j hj)
      obtain rfl : oj = o := Option.some.inj (hoj.symm.trans hoj')
      obtain rfl : s = d := Option.some.inj (hd.symm.trans hd')
      rw [putL_some (l.take n) _ 0 a j oj (by rw [List.getElem?_take, if_pos hj]; simpa using hoj) hd hds fun i o' hi hij hd2 => hdis i o' (hta i o' hi).1 hij (hta i o' hi).2 hd2]
      rw [Nat.zero_add, hoj]
      show some (a'.eval (.tmp ((oj.dst).getD 0))) = _
      rw [hd]
      show some (a'.eval (.tmp s)) = _
      rw [eval_get, Array.getElem?_eq_getElem (by rw [K.size]; exact hds)]
      rfl
    · rw [putL_none _ _ _ _ fun o ho' hd => by
        obtain ⟨i, hi, he⟩ := List.getElem_of_mem ho'
        have := hta i o (by rw [List.getElem?_eq_getElem hi, he])
        exact hw ⟨i, o, this.1, this.2, hd⟩]
      exact (K.same s fun j oj hj hoj hd => hw ⟨j, oj, hj, hoj, hd⟩).symm

/-- The operations' loop, but for the end. -/
theorem wpAny_looseE {V : Nat → World → Value → Prop} {a : Act} {Q : Exit → Act → World → Prop} {g : Nat} (he : e < n) (hs : sinkE ops n e = true) (hc : chain2B ops n = true) (hlt : n < ops.size) (ho : ∀ j, j < n → opB ops n a.tmps.size j = true)
    (hV : ∀ i w w' v, V i w v → New w w' → V i w' v)
    (hstep : ∀ i o, i < n → ops[i]? = some o → ∀ a' w', New W w' → (∀ t, restsB ops n t = true → a'.eval (.tmp t) = a.eval (.tmp t)) → (∀ j d, j < n → waitsB o j = true → (ops[j]?).bind (·.dst) = some d → V j w' (a'.eval (.tmp d))) → Yields P o a' w' fun v w'' => New w' w'' ∧ V i w'' v)
    (hL : ∀ listed a' w', (∀ j, j < n → listed.getD j false = true) → HeadInv .any ops n listed → LInv ops W n V a listed a' w' → wpAny P .any ops Q g listed a' w')
    (hE : ∀ listed a' w', (∀ j, j < n → j ≠ e → listed.getD j false = true) → listed.getD e false = false → HeadInv .any ops n listed → LInv ops W n V a listed a' w' → wpAny P .any ops Q (g + 1) listed a' w') :
    ∀ (f : Nat) (listed : Array Bool) (a' : Act) (w' : World), HeadInv .any ops n listed → toCome listed n = f → LInv ops W n V a listed a' w' → wpAny P .any ops Q (f + g) listed a' w'
  | 0, listed, a', w', inv, hf, K => by rw [Nat.zero_add]; exact hL _ _ _ (toCome_zero n hf) inv K
  | f + 1, listed, a', w', inv, hf, K => by
    by_cases hH : ∃ i, i < n ∧ i ≠ e ∧ listed.getD i false = false
    rotate_left
    · have hall : ∀ j, j < n → j ≠ e → listed.getD j false = true := fun j hj hje => by
        cases h : listed.getD j false with
        | true => rfl
        | false => exact absurd ⟨j, hj, hje, h⟩ hH
      obtain ⟨i0, hi0, hf0⟩ := toCome_some (listed := listed) n (by omega)
      have h0e : i0 = e := by
        by_cases h : i0 = e
        · exact h
        · rw [hall i0 hi0 h] at hf0; cases hf0
      subst h0e
      have hse := toCome_set (i := i0) (listed := listed) (by rw [inv.size]; omega) hf0 n hi0
      have hz : toCome (listed.setIfInBounds i0 true) n = 0 := by
        rcases Nat.eq_zero_or_pos (toCome (listed.setIfInBounds i0 true) n) with q | q
        · exact q
        · obtain ⟨j, hj, hjf⟩ := toCome_some n q
          by_cases hji : j = i0
          · subst hji
            have : (listed.setIfInBounds j true).getD j false = true := by simp [Array.getD_eq_getD_getElem?, show j < listed.size by rw [inv.size]; omega]
            rw [this] at hjf; cases hjf
          · rw [getD_set_ne false (fun x => hji x.symm), hall j hj hji] at hjf; cases hjf
      have hf1 : f = 0 := by omega
      subst hf1
      rw [show 0 + 1 + g = g + 1 by omega]
      exact hE _ _ _ hall hf0 inv K
    obtain ⟨ih, hih1, hih2, hih3⟩ := hH
    rw [show f + 1 + g = (f + g) + 1 by omega]
    obtain ⟨i0, hi0, hm0⟩ := exists_least (toCome_some n (by omega : 0 < toCome listed n))
    obtain ⟨o0, d0, ho0, _, _, _, _, haf⟩ := opB_spec (ho i0 hi0.1)
    have hsz : i0 < listed.size := by rw [inv.size]; omega
    have hr0 : i0 ∈ Region.ready .any ops listed := mem_ready.2 ⟨getD_in hsz hi0.2, o0, ho0, fun x he hb => by
      have h1 := haf x he hb
      cases hl : listed.getD x.on false with
      | true => rfl
      | false => have := hm0 x.on ⟨by omega, hl⟩; omega⟩
    refine ⟨fun h0 => absurd hr0 (by rw [h0]; simp), fun i hi => ?_⟩
    have hin : i < n := Nat.lt_of_not_le fun h => tail_waitsE hs hc hlt inv ih hih1 hih2 (getD_in (by rw [inv.size]; omega) hih3) i h hi
    obtain ⟨hun, o', ho', hall⟩ := mem_ready.1 hi
    obtain ⟨o, d, hoi, hg, hd, hds, hdis, _⟩ := opB_spec (ho i hin)
    obtain rfl : o' = o := Option.some.inj (ho'.symm.trans hoi)
    unfold wpOp
    simp only [hoi]
    have hw : Region.wanted o' (yielded ops a'.tmps) = true := by unfold Region.wanted; rw [hg]
    rw [if_pos hw]
    refine .inl (yields_wp (hstep i o' hin hoi a' w' K.new (fun t ht => ?_) (fun j dj hj hwj hdj => ?_)) fun v w'' ⟨hn, hv⟩ => ?_)
    · rw [eval_get, eval_get, K.same t fun j oj hj hoj hd' => by
        have h1 := List.all_eq_true.1 ht j (List.mem_range.2 hj)
        simp only [hoj, bne_iff_ne] at h1
        exact h1 hd']
    · obtain ⟨x, he, hb⟩ := Array.any_eq_true'.1 hwj
      simp only [Bool.and_eq_true, beq_iff_eq] at hb
      have h1 := hall x he hb.1
      rw [hb.2] at h1
      cases hoj : ops[j]? with
      | none => rw [hoj] at hdj; cases hdj
      | some oj =>
        rw [hoj] at hdj
        exact K.held j oj dj hj hoj h1 hdj
    · rw [hd]
      exact wpAny_looseE he hs hc hlt ho hV hstep hL hE f _ _ _ (inv.set hi hin) (by have := toCome_set (by rw [inv.size]; omega) (getD_both hun) n hin; omega) (linv_step hV K hin hoi hd hds hdis hn hv)

def looseE (ops : Array Oper) (n e sz : Nat) : Bool :=
  sinkE ops n e && chain2B ops n && decide (n < ops.size) && decide (e < n) && (List.range n).all (opB ops n sz) && Region.seqB .any ops (ops.size - n) n (heads ops.size n) &&
  (Region.ready .any ops ((heads ops.size n).setIfInBounds e false)).all (fun j => j == e || j == n) && (Region.ready .any ops ((heads ops.size n).setIfInBounds e false)).contains e &&
  decide (Region.ready .any ops (((heads ops.size n).setIfInBounds e false).setIfInBounds n true) = [e]) && Region.seqB .any ops (ops.size - (n + 1)) (n + 1) ((((heads ops.size n).setIfInBounds e false).setIfInBounds n true).setIfInBounds e true)

theorem wp_region_loose_e {id : Nat} {Q : Exit → Act → World → Prop} {a : Act} {w : World} {l : List Oper} (n e : Nat) (V : Nat → World → Value → Prop) {oe os : Oper} {de : Nat} (hm : P.follows .mixedOrders = true) (hB : looseE l.toArray n e a.tmps.size = true)
    (hoe : l.toArray[e]? = some oe) (hde : oe.dst = some de) (hos : l.toArray[n]? = some os) (hod : os.dst = none) (hog : os.guard = none) (hlook : de ∉ os.looksAt l.toArray) (hsel : ∀ cs b, os.op ≠ .select cs b)
    (hV : ∀ i w w' v, V i w v → New w w' → V i w' v)
    (hstep : ∀ i o, i < n → l.toArray[i]? = some o → ∀ a' w', New w w' → (∀ t, restsB l.toArray n t = true → a'.eval (.tmp t) = a.eval (.tmp t)) → (∀ j d, j < n → waitsB o j = true → (l.toArray[j]?).bind (·.dst) = some d → V j w' (a'.eval (.tmp d))) → Yields P o a' w' fun v w'' => New w' w'' ∧ V i w'' v)
    (hpure : ∀ (a' : Act) (w' : World), New w w' → (∀ j d, j < n → waitsB oe j = true → (l.toArray[j]?).bind (·.dst) = some d → V j w' (a'.eval (.tmp d))) → ∃ v, ∀ W, (execOp a'.eval oe).run P W = .ok (.value v) W)
    (htail : ∀ vs w', New w w' → (∀ j, j < n → V j w' (vs j)) → ∃ w2, (execOp (putL (l.take n) vs 0 a).eval os).run P w' = .ok .skip w2 ∧ wpList P l.toArray Q (l.drop (n + 1)) (putL (l.take n) vs 0 a) w2) : (Code.region id l.toArray true).wp P Q a w := by
  simp only [looseE, Bool.and_eq_true, decide_eq_true_eq] at hB
  obtain ⟨⟨⟨⟨⟨⟨⟨⟨⟨hs, hc⟩, hlt⟩, hen⟩, hops⟩, hseq⟩, hr1⟩, hr2⟩, hr3⟩, hseq2⟩ := hB
  have ho : ∀ j, j < n → opB l.toArray n a.tmps.size j = true := fun j hj => List.all_eq_true.1 hops j (List.mem_range.2 hj)
  have hll : l.toArray.size = l.length := by simp
  have inv0 : HeadInv .any l.toArray n (Array.replicate l.toArray.size false) :=
    ⟨by simp, fun j oj _ hl => (by rw [getD_replicate_false] at hl; cases hl), fun t _ ht => getD_in (by simpa using ht) (getD_replicate_false _ _)⟩
  have h0 : ∀ k, toCome (Array.replicate l.toArray.size false) k = k := by
    intro k
    induction k with
    | zero => rfl
    | succ k ih =>
      unfold toCome
      rw [ih, getD_replicate_false]
      simp
      omega
  have hdrop : l.drop n = os :: l.drop (n + 1) := by
    have hn' : n < l.length := by omega
    rw [List.drop_eq_getElem_cons hn']
    have : l.toArray[n]? = some l[n] := by simp [hn']
    rw [this] at hos
    rw [Option.some.inj hos]
  have hwant : ∀ ts, Region.wanted os (yielded l.toArray ts) = true := fun ts => by unfold Region.wanted; rw [hog]
  have hLall : ∀ listed a' w', (∀ j, j < n → listed.getD j false = true) → HeadInv .any l.toArray n listed → LInv l.toArray w n V a listed a' w' → wpAny P .any l.toArray Q (l.toArray.size - n) listed a' w' := fun listed a' w' hall inv K => by
    have hlist : listed = heads l.toArray.size n := by
      refine Array.ext (by rw [inv.size]; simp [heads]) fun j h1 h2 => ?_
      have hj : j < l.toArray.size := by rw [← inv.size]; exact h1
      have e2 : (heads l.toArray.size n)[j] = decide (j < n) := by simp [heads]
      rw [e2]
      by_cases hjn : j < n
      · have := hall j hjn
        rw [Array.getD_eq_getD_getElem?, Array.getElem?_eq_getElem h1] at this
        simpa [hjn] using this
      · have := inv.tail j (by omega) hj
        rw [Array.getD_eq_getD_getElem?, Array.getElem?_eq_getElem h1] at this
        simpa [hjn] using this
    have hdl : (l.drop n).length = l.toArray.size - n := by simp
    obtain ⟨vs, hvs, hput⟩ := linv_putL ho hall K
    obtain ⟨w2, hrun, hrest⟩ := htail vs w' K.new hvs
    rw [hput] at hrun hrest
    have hw := wpAny_of_seq (P := P) (md := .any) (ops := l.toArray) (Q' := Q) (l.drop n) n listed a' w' (fun j => by simp [List.getElem?_drop]) (by rw [hdl, hlist]; exact hseq) (by
      rw [hdrop]
      unfold wpList
      rw [if_pos (hwant _)]
      refine .inl ?_
      unfold Oper.wp
      rw [hrun, Oper.upon_skip, hod]
      exact hrest)
    rwa [hdl] at hw
  refine wp_region_any hm ?_
  have := wpAny_looseE (P := P) (W := w) (V := V) (Q := Q) (g := l.toArray.size - n) (a := a) hen hs hc hlt ho hV hstep hLall (fun listed a' w' hall hef inv K => by
    have hlist : listed = (heads l.toArray.size n).setIfInBounds e false := by
      refine Array.ext (by rw [inv.size]; simp [heads]) fun j h1 h2 => ?_
      have hj : j < l.toArray.size := by rw [← inv.size]; exact h1
      have e2 : ((heads l.toArray.size n).setIfInBounds e false)[j] = if e = j then false else decide (j < n) := by
        rw [Array.getElem_setIfInBounds (by simpa [heads] using hj)]
        simp [heads]
      rw [e2]
      by_cases hej : e = j
      · subst hej
        rw [Array.getD_eq_getD_getElem?, Array.getElem?_eq_getElem h1] at hef
        simpa using hef
      · rw [if_neg hej]
        by_cases hjn : j < n
        · have := hall j hjn (fun x => hej x.symm)
          rw [Array.getD_eq_getD_getElem?, Array.getElem?_eq_getElem h1] at this
          simpa [hjn] using this
        · have := inv.tail j (by omega) hj
          rw [Array.getD_eq_getD_getElem?, Array.getElem?_eq_getElem h1] at this
          simpa [hjn] using this
    rw [← hlist] at hr1 hr2 hr3 hseq2
    have hre : e ∈ Region.ready .any l.toArray listed := by simpa using hr2
    obtain ⟨oe', de', hoe', hge, hde', hdes, hdise, _⟩ := opB_spec (ho e hen)
    obtain rfl : oe' = oe := Option.some.inj (hoe'.symm.trans hoe)
    obtain rfl : de' = de := Option.some.inj (hde'.symm.trans hde)
    have hwe : ∀ ts, Region.wanted oe' (yielded l.toArray ts) = true := fun ts => by unfold Region.wanted; rw [hge]
    obtain ⟨_, o1, ho1, haft⟩ := mem_ready.1 hre
    obtain rfl : o1 = oe' := Option.some.inj (ho1.symm.trans hoe)
    have hdep : ∀ j d, j < n → waitsB o1 j = true → (l.toArray[j]?).bind (·.dst) = some d → V j w' (a'.eval (.tmp d)) := fun j dj hj hwj hdj => by
      obtain ⟨x, he, hb⟩ := Array.any_eq_true'.1 hwj
      simp only [Bool.and_eq_true, beq_iff_eq] at hb
      have h1 := haft x he hb.1
      rw [hb.2] at h1
      cases hoj : l.toArray[j]? with
      | none => rw [hoj] at hdj; cases hdj
      | some oj =>
        rw [hoj] at hdj
        exact K.held j oj dj hj hoj h1 hdj
    obtain ⟨v, hv⟩ := hpure a' w' K.new hdep
    have hY := hstep e o1 hen hoe a' w' K.new (fun t ht => by
      rw [eval_get, eval_get, K.same t fun j oj hj hoj hd' => by
        have h1 := List.all_eq_true.1 ht j (List.mem_range.2 hj)
        simp only [hoj, bne_iff_ne] at h1
        exact h1 hd']) hdep
    unfold Yields at hY
    rw [hv w'] at hY
    have hVe : V e w' v := hY.2
    have hall2 : ∀ j, j < n → (listed.setIfInBounds e true).getD j false = true := fun j hj => by
      by_cases hje : j = e
      · subst hje
        simp [Array.getD_eq_getD_getElem?, show j < listed.size by rw [inv.size]; omega]
      · rw [getD_set_ne false (fun x => hje x.symm)]
        exact hall j hj hje
    have K2 := linv_step hV K hen hoe hde hdes hdise (New.refl _) hVe
    refine ⟨fun h => absurd hre (by rw [h]; simp), fun i hi => ?_⟩
    have hie := List.all_eq_true.1 hr1 i hi
    simp only [Bool.or_eq_true, beq_iff_eq] at hie
    rcases hie with rfl | rfl
    · unfold wpOp
      simp only [hoe]
      rw [if_pos (hwe _)]
      refine .inl ?_
      unfold Oper.wp
      rw [hv w', Oper.upon_value, hde]
      exact hLall _ _ _ hall2 (inv.set hre hen) K2
    · obtain ⟨vs, hvs, hput⟩ := linv_putL ho hall2 K2
      obtain ⟨w2, hrun, hrest⟩ := htail vs w' K2.new hvs
      rw [hput] at hrun hrest
      rw [execOp_put os hsel a' (some de') v (by rintro t ⟨rfl⟩; exact hlook)] at hrun
      unfold wpOp
      simp only [hos]
      rw [if_pos (hwant _)]
      refine .inl ?_
      unfold Oper.wp
      rw [hrun, Oper.upon_skip, hod]
      show wpAny P .any l.toArray Q (l.toArray.size - i) (listed.setIfInBounds i true) a' w2
      rw [show l.toArray.size - i = (l.toArray.size - (i + 1)) + 1 by omega]
      refine ⟨fun h => (by rw [hr3] at h; cases h), fun i2 hi2 => ?_⟩
      rw [hr3] at hi2
      obtain rfl : i2 = e := by simpa using hi2
      unfold wpOp
      simp only [hoe]
      rw [if_pos (hwe _)]
      refine .inl ?_
      unfold Oper.wp
      rw [hv w2, Oper.upon_value, hde]
      have hdl : (l.drop (i + 1)).length = l.toArray.size - (i + 1) := by simp
      have hw := wpAny_of_seq (P := P) (md := .any) (ops := l.toArray) (Q' := Q) (l.drop (i + 1)) (i + 1) ((listed.setIfInBounds i true).setIfInBounds i2 true) (a'.put (some de') v) w2 (fun j => by simp [List.getElem?_drop]) (by rw [hdl]; exact hseq2) hrest
      rwa [hdl] at hw) n _ a { w with drawn := w.drawn + 1 } inv0 (h0 n) ⟨Below.drew (Below.refl _ w), rfl, rfl, fun _ _ => rfl, fun j oj d _ _ hl => by rw [getD_replicate_false] at hl; cases hl⟩
  rwa [show n + (l.toArray.size - n) = l.toArray.size by omega] at this

/-- The store, run: what becomes of the world. -/
theorem store_row_run {op : Oper} {a : Act} {w : World} (ty : TypeId) (x y : Operand) (ho : op.op = .store ty x y)
    (b : Nat) (cells : Array Value) (hx : a.eval x = .pointer (some ⟨b, 0, none⟩)) (hy : a.eval y = .agg cells)
    (ht : Thr w b cells.size) (hi : (P.info? ty).map (·.size) = some cells.size) (h1 : ∀ v ∈ cells.toList, v.oneCell' = true) :
    ∃ W, (execOp a.eval op).run P w = .ok .skip W ∧ (∀ a0, New a0 w → a0.heap.size ≤ b → New a0 W) ∧ (∀ b' o v, b' ≠ b → w.cell? ⟨b', o, none⟩ = some v → W.cell? ⟨b', o, none⟩ = some v) ∧ CellsAt W b 0 cells.toList := by
  have ht' : w.there b 0 cells.size := fun j hj => by
    obtain ⟨⟨v, hv⟩, hf⟩ := ht j hj
    rw [Nat.zero_add]
    exact ⟨by rw [hv]; rfl, hf⟩
  refine ⟨w.setCells b 0 cells.toList, ?_, fun a0 h0 hb => new_setCells h0 hb _ _, fun b' o v hne hv => by rw [World.cell?_setCells_out b _ 0 w ⟨b', o, none⟩ (fun e => absurd e hne)]; exact hv, fun j hj => ?_⟩
  · unfold execOp
    simp only [ho, hx, hy, Instr.storeAt, Instr.sureAddr, Sem.run_bind, Sem.run_pure, Result.andThen_ok, run_storeVar_mid w b 0 ty cells ht' hi (all_oneCell_toArray h1)]
  · have := World.rangeAt_setCells_same w b 0 cells.toList (by simpa using ht')
    exact this j _ (List.getElem?_eq_getElem hj)

end
end Go.Proofs.YtklopjbpfddgfaaGreat

/- Package clip: lowest terms. -/
namespace Go.Proofs.YtklopjbpfddgfaaGreat
open Go.RowKit
set_option linter.unusedVariables false

/-- One step of dividing on. -/
structure Euc (G : Nat) (c r : Int) : Prop where
  ne : c ≠ 0
  g : Nat.gcd c.natAbs r.natAbs = G
theorem Euc.step {G : Nat} {c r : Int} (h : Euc G c r) (hr : r ≠ 0) : Euc G r (c.tmod r) :=
  ⟨hr, by have := igcd_step c r hr; unfold Int.gcd at this; rw [this]; exact h.g⟩
theorem Euc.stop {G : Nat} {c : Int} (h : Euc G c 0) : c.natAbs = G := by have := h.g; simpa using this

theorem low_q {x z y d c : Int} (hd : d ≠ 0) (h : c.natAbs = cg x z y d) : c * (clampI c (-1) 1 * clampI d (-1) 1) = d.sign * (cg x z y d : Int) := by
  have hc : c ≠ 0 := by have := cg_pos (x := x) (z := z) (y := y) hd; omega
  rw [clamp_sign, clamp_sign, ← h, abs_sign hc]
  grind

theorem low_val (x z y d : Int) : low x z y d = ⟨x.tdiv (d.sign * (cg x z y d : Int)), z.tdiv (d.sign * (cg x z y d : Int)), y.tdiv (d.sign * (cg x z y d : Int)), d.tdiv (d.sign * (cg x z y d : Int))⟩ := rfl

/-- The two blocks of the walk. -/
structure Lk (h : Nat) (x z y d : Int) (w : World) : Prop where
  c0 : w.cell? ⟨h, 0, none⟩ = some (.int .i64 x)
  c1 : w.cell? ⟨h, 1, none⟩ = some (.int .i64 z)
  c2 : w.cell? ⟨h, 2, none⟩ = some (.int .i64 y)
  c3 : w.cell? ⟨h, 3, none⟩ = some (.int .i64 d)
  e0 : w.cell? ⟨h + 1, 0, none⟩ = some (.int .i64 0)
  e1 : w.cell? ⟨h + 1, 1, none⟩ = some (.int .i64 0)
  e2 : w.cell? ⟨h + 1, 2, none⟩ = some (.int .i64 0)
  e3 : w.cell? ⟨h + 1, 3, none⟩ = some (.int .i64 0)
  f0 : w.frozen? ⟨h + 1, 0, none⟩ = false
  f1 : w.frozen? ⟨h + 1, 1, none⟩ = false
  f2 : w.frozen? ⟨h + 1, 2, none⟩ = false
  f3 : w.frozen? ⟨h + 1, 3, none⟩ = false
theorem Lk.keep {h : Nat} {x z y d : Int} {w w' : World} (H : Lk h x z y d w) (n : New w w') : Lk h x z y d w' :=
  ⟨n.keep H.c0, n.keep H.c1, n.keep H.c2, n.keep H.c3, n.keep H.e0, n.keep H.e1, n.keep H.e2, n.keep H.e3, n.keepF H.e0 H.f0, n.keepF H.e1 H.f1, n.keepF H.e2 H.f2, n.keepF H.e3 H.f3⟩

set_option maxHeartbeats 4000000 in
set_option maxRecDepth 100000 in
theorem k_lowest (x z y d : Int) (w : World) (hd : d ≠ 0) (bx : -1099511627776 ≤ x ∧ x ≤ 1099511627776) (bz : -1099511627776 ≤ z ∧ z ≤ 1099511627776) (by' : -1099511627776 ≤ y ∧ y ≤ 1099511627776) (bd : -1099511627776 ≤ d ∧ d ≤ 1099511627776) :
    Calls Tryz.prog 145 #[.agg #[.int .i64 x, .int .i64 z, .int .i64 y, .int .i64 d]] w fun e w' => e = .returned (.agg #[.int .i64 (low x z y d).x, .int .i64 (low x z y d).z, .int .i64 (low x z y d).y, .int .i64 (low x z y d).d]) ∧ New w w' := by
  have HV := Lib.hid (low_val x z y d)
  have HD := Lib.hid hd
  have hlb := low_bd (x := x) (z := z) (y := y) hd
  obtain ⟨L, hL⟩ : ∃ L, L = low x z y d := ⟨_, rfl⟩
  rw [← hL] at hlb HV ⊢
  clear hL
  have HLB := Lib.hid hlb
  clear hd hlb
  have i0 : ∀ w, (Instr.index 202 (.agg #[.int .i64 x, .int .i64 z, .int .i64 y]) (.int .i64 0)).run Tryz.prog w = .ok (.int .i64 x) w := fun _ => by kernel_rfl
  have i1 : ∀ w, (Instr.index 202 (.agg #[.int .i64 x, .int .i64 z, .int .i64 y]) (.int .i64 1)).run Tryz.prog w = .ok (.int .i64 z) w := fun _ => by kernel_rfl
  have i2 : ∀ w, (Instr.index 202 (.agg #[.int .i64 x, .int .i64 z, .int .i64 y]) (.int .i64 2)).run Tryz.prog w = .ok (.int .i64 y) w := fun _ => by kernel_rfl
  go_enter Tryz.func145, Tryz.ntmps145
  go_wp2_with fail
  refine Code.at (fun W0 hW => ?_)
  have hn : New w W0 := by subst hW; (repeat (first | (with_reducible exact New.refl _) | (with_reducible assumption) | ((with_reducible refine New.setB ?_ ?_ _); focus (first | omega | (simp; omega) | (simp; done))) | (with_reducible refine New.alloc ?_ _) | (with_reducible refine New.drew ?_) | (with_reducible refine New.drewN ?_ _) | (with_reducible refine New.hat ?_ _) | ((with_reducible apply New.snart); (with_reducible assumption))))
  have c0 : W0.cell? ⟨w.heap.size, 0, none⟩ = some (.int .i64 x) := by subst hW; go_simp
  have c1 : W0.cell? ⟨w.heap.size, 1, none⟩ = some (.int .i64 z) := by subst hW; go_simp
  have c2 : W0.cell? ⟨w.heap.size, 2, none⟩ = some (.int .i64 y) := by subst hW; go_simp
  have c3 : W0.cell? ⟨w.heap.size, 3, none⟩ = some (.int .i64 d) := by subst hW; go_simp
  have e0 : W0.cell? ⟨w.heap.size + 1, 0, none⟩ = some (.int .i64 0) := by subst hW; go_simp
  have e1 : W0.cell? ⟨w.heap.size + 1, 1, none⟩ = some (.int .i64 0) := by subst hW; go_simp
  have e2 : W0.cell? ⟨w.heap.size + 1, 2, none⟩ = some (.int .i64 0) := by subst hW; go_simp
  have e3 : W0.cell? ⟨w.heap.size + 1, 3, none⟩ = some (.int .i64 0) := by subst hW; go_simp
  have f0 : W0.frozen? ⟨w.heap.size + 1, 0, none⟩ = false := by subst hW; go_simp
  have f1 : W0.frozen? ⟨w.heap.size + 1, 1, none⟩ = false := by subst hW; go_simp
  have f2 : W0.frozen? ⟨w.heap.size + 1, 2, none⟩ = false := by subst hW; go_simp
  have f3 : W0.frozen? ⟨w.heap.size + 1, 3, none⟩ = false := by subst hW; go_simp
  clear hW
  refine wp_loop_rounds 4 ?_
  have HK : Lk w.heap.size x z y d W0 := ⟨c0, c1, c2, c3, e0, e1, e2, e3, f0, f1, f2, f3⟩
  clear c0 c1 c2 c3 e0 e1 e2 e3 f0 f1 f2 f3
  rw [rounds_succ]
  go_wp2_with fail
  go_loopg [3, 5] x.natAbs (fun kx s3 s5 wr => ∃ c r : Int, s3 = .int .i64 c ∧ s5 = .int .i64 r ∧ r.natAbs ≤ kx ∧ Hid (Euc (Nat.gcd d.natAbs x.natAbs) c r) ∧ (-1099511627776 ≤ c ∧ c ≤ 1099511627776) ∧ (-1099511627776 ≤ r ∧ r ≤ 1099511627776) ∧ New w wr ∧ Lk w.heap.size x z y d wr)
  case atStart => exact ⟨d, x, rfl, rfl, Nat.le_refl _, Lib.hid ⟨HD.out, rfl⟩, bd, bx, hn, HK⟩
  case round =>
    obtain ⟨c1, r, rfl, rfl, hkr, HE, hc1, hr, hn1, HK1⟩ := hrel
    by_cases h0 : r = 0
    rotate_left
    · have hz : (r == 0) = false := by rw [beq_eq_false_iff_ne]; omega
      have hnz : (r != 0) = true := by rw [bne_iff_ne]; omega
      obtain ⟨q, hq⟩ : ∃ q, c1.tmod r = q := ⟨_, rfl⟩
      have hlt : q.natAbs < r.natAbs := by rw [← hq, Int.natAbs_tmod]; exact Nat.mod_lt _ (by omega)
      have HE2 : Hid (Euc (Nat.gcd d.natAbs x.natAbs) r q) := by rw [← hq]; exact Lib.hid (HE.out.step h0)
      clear HE h0
      go_wp2_with fail
      go_quiet (fail)
      go_wp2_with fail
      go_roundg q.natAbs
      case measure => omega
      case rel => exact ⟨r, q, rfl, rfl, Nat.le_refl _, HE2, hr, by omega, by (repeat (first | (with_reducible exact New.refl _) | (with_reducible assumption) | ((with_reducible refine New.setB ?_ ?_ _); focus (first | omega | (simp; omega) | (simp; done))) | (with_reducible refine New.alloc ?_ _) | (with_reducible refine New.drew ?_) | (with_reducible refine New.drewN ?_ _) | (with_reducible refine New.hat ?_ _) | ((with_reducible apply New.snart); (with_reducible assumption)))), HK1.keep (by (repeat (first | (with_reducible exact New.refl _) | (with_reducible assumption) | ((with_reducible refine New.setB ?_ ?_ _); focus (first | omega | (simp; omega) | (simp; done))) | (with_reducible refine New.alloc ?_ _) | (with_reducible refine New.drew ?_) | (with_reducible refine New.drewN ?_ _) | (with_reducible refine New.hat ?_ _) | ((with_reducible apply New.snart); (with_reducible assumption)))))⟩
    subst h0
    have N1 : Hid (c1 ≠ 0 ∧ c1.natAbs = Nat.gcd d.natAbs x.natAbs) := Lib.hid ⟨HE.out.ne, HE.out.stop⟩
    clear HE hkr hr HK
    go_wp2_with fail
    rw [rounds_succ]
    go_wp2_with fail
    go_loopg [3, 5] z.natAbs (fun kx s3 s5 wr => ∃ c r : Int, s3 = .int .i64 c ∧ s5 = .int .i64 r ∧ r.natAbs ≤ kx ∧ Hid (Euc (Nat.gcd (Nat.gcd d.natAbs x.natAbs) z.natAbs) c r) ∧ (-1099511627776 ≤ c ∧ c ≤ 1099511627776) ∧ (-1099511627776 ≤ r ∧ r ≤ 1099511627776) ∧ New w wr ∧ Lk w.heap.size x z y d wr)
    case atStart => exact ⟨c1, z, rfl, rfl, Nat.le_refl _, Lib.hid ⟨N1.out.1, by rw [N1.out.2]⟩, hc1, bz, hn1, HK1⟩
    case round =>
      obtain ⟨c2, r, rfl, rfl, hkr, HE, hc2, hr, hn2, HK2⟩ := hrel
      by_cases h0 : r = 0
      rotate_left
      · have hz : (r == 0) = false := by rw [beq_eq_false_iff_ne]; omega
        have hnz : (r != 0) = true := by rw [bne_iff_ne]; omega
        obtain ⟨q, hq⟩ : ∃ q, c2.tmod r = q := ⟨_, rfl⟩
        have hlt : q.natAbs < r.natAbs := by rw [← hq, Int.natAbs_tmod]; exact Nat.mod_lt _ (by omega)
        have HE2 : Hid (Euc (Nat.gcd (Nat.gcd d.natAbs x.natAbs) z.natAbs) r q) := by rw [← hq]; exact Lib.hid (HE.out.step h0)
        clear HE h0
        go_wp2_with fail
        go_quiet (fail)
        go_wp2_with fail
        go_roundg q.natAbs
        case measure => omega
        case rel => exact ⟨r, q, rfl, rfl, Nat.le_refl _, HE2, hr, by omega, by (repeat (first | (with_reducible exact New.refl _) | (with_reducible assumption) | ((with_reducible refine New.setB ?_ ?_ _); focus (first | omega | (simp; omega) | (simp; done))) | (with_reducible refine New.alloc ?_ _) | (with_reducible refine New.drew ?_) | (with_reducible refine New.drewN ?_ _) | (with_reducible refine New.hat ?_ _) | ((with_reducible apply New.snart); (with_reducible assumption)))), HK2.keep (by (repeat (first | (with_reducible exact New.refl _) | (with_reducible assumption) | ((with_reducible refine New.setB ?_ ?_ _); focus (first | omega | (simp; omega) | (simp; done))) | (with_reducible refine New.alloc ?_ _) | (with_reducible refine New.drew ?_) | (with_reducible refine New.drewN ?_ _) | (with_reducible refine New.hat ?_ _) | ((with_reducible apply New.snart); (with_reducible assumption)))))⟩
      subst h0
      have N2 : Hid (c2 ≠ 0 ∧ c2.natAbs = Nat.gcd (Nat.gcd d.natAbs x.natAbs) z.natAbs) := Lib.hid ⟨HE.out.ne, HE.out.stop⟩
      clear HE hkr hr HK1
      go_wp2_with fail
      rw [rounds_succ]
      go_wp2_with fail
      go_loopg [3, 5] y.natAbs (fun kx s3 s5 wr => ∃ c r : Int, s3 = .int .i64 c ∧ s5 = .int .i64 r ∧ r.natAbs ≤ kx ∧ Hid (Euc (Nat.gcd (Nat.gcd (Nat.gcd d.natAbs x.natAbs) z.natAbs) y.natAbs) c r) ∧ (-1099511627776 ≤ c ∧ c ≤ 1099511627776) ∧ (-1099511627776 ≤ r ∧ r ≤ 1099511627776) ∧ New w wr ∧ Lk w.heap.size x z y d wr)
      case atStart => exact ⟨c2, y, rfl, rfl, Nat.le_refl _, Lib.hid ⟨N2.out.1, by rw [N2.out.2]⟩, hc2, by', hn2, HK2⟩
      case round =>
        obtain ⟨c3, r, rfl, rfl, hkr, HE, hc3, hr, hn3, HK3⟩ := hrel
        by_cases h0 : r = 0
        rotate_left
        · have hz : (r == 0) = false := by rw [beq_eq_false_iff_ne]; omega
          have hnz : (r != 0) = true := by rw [bne_iff_ne]; omega
          obtain ⟨q, hq⟩ : ∃ q, c3.tmod r = q := ⟨_, rfl⟩
          have hlt : q.natAbs < r.natAbs := by rw [← hq, Int.natAbs_tmod]; exact Nat.mod_lt _ (by omega)
          have HE2 : Hid (Euc (Nat.gcd (Nat.gcd (Nat.gcd d.natAbs x.natAbs) z.natAbs) y.natAbs) r q) := by rw [← hq]; exact Lib.hid (HE.out.step h0)
          clear HE h0
          go_wp2_with fail
          go_quiet (fail)
          go_wp2_with fail
          go_roundg q.natAbs
          case measure => omega
          case rel => exact ⟨r, q, rfl, rfl, Nat.le_refl _, HE2, hr, by omega, by (repeat (first | (with_reducible exact New.refl _) | (with_reducible assumption) | ((with_reducible refine New.setB ?_ ?_ _); focus (first | omega | (simp; omega) | (simp; done))) | (with_reducible refine New.alloc ?_ _) | (with_reducible refine New.drew ?_) | (with_reducible refine New.drewN ?_ _) | (with_reducible refine New.hat ?_ _) | ((with_reducible apply New.snart); (with_reducible assumption)))), HK3.keep (by (repeat (first | (with_reducible exact New.refl _) | (with_reducible assumption) | ((with_reducible refine New.setB ?_ ?_ _); focus (first | omega | (simp; omega) | (simp; done))) | (with_reducible refine New.alloc ?_ _) | (with_reducible refine New.drew ?_) | (with_reducible refine New.drewN ?_ _) | (with_reducible refine New.hat ?_ _) | ((with_reducible apply New.snart); (with_reducible assumption)))))⟩
        subst h0
        have N3 : Hid (c3 ≠ 0 ∧ c3.natAbs = Nat.gcd (Nat.gcd (Nat.gcd d.natAbs x.natAbs) z.natAbs) y.natAbs) := Lib.hid ⟨HE.out.ne, HE.out.stop⟩
        clear HE hkr hr HK2
        go_wp2_with fail
        rw [rounds_succ]
        obtain ⟨q, hq⟩ : ∃ q, q = c3 * (clampI c3 (-1) 1 * clampI d (-1) 1) := ⟨_, rfl⟩
        have hq' : q = d.sign * (cg x z y d : Int) := by rw [hq]; exact low_q HD.out N3.out.2
        obtain ⟨q0, QX, QZ, QY, QD⟩ : q ≠ 0 ∧ x.tdiv q = L.x ∧ z.tdiv q = L.z ∧ y.tdiv q = L.y ∧ d.tdiv q = L.d := by
          rw [HV.out, ← hq']
          refine ⟨?_, rfl, rfl, rfl, rfl⟩
          intro e
          rw [hq] at e
          have hcne := N3.out.1
          have h1 := Int.mul_eq_zero.1 e
          rw [clamp_sign, clamp_sign] at h1
          rcases h1 with h1 | h1
          · exact hcne h1
          · rcases Int.mul_eq_zero.1 h1 with h2 | h2
            · exact hcne (Int.sign_eq_zero_iff_zero.1 h2)
            · exact HD.out (Int.sign_eq_zero_iff_zero.1 h2)
        obtain ⟨s1, hs1⟩ : ∃ s, s = clampI c3 (-1) 1 := ⟨_, rfl⟩
        obtain ⟨s2, hs2⟩ : ∃ s, s = clampI d (-1) 1 := ⟨_, rfl⟩
        have T1 : ∀ w, Calls Tryz.prog 143 #[.int .i64 c3] w fun e w' => e = .returned (.int .i64 s1) ∧ w = w' := fun w => by rw [hs1]; exact sign_any c3 w
        have T2 : ∀ w, Calls Tryz.prog 143 #[.int .i64 d] w fun e w' => e = .returned (.int .i64 s2) ∧ w = w' := fun w => by rw [hs2]; exact sign_any d w
        have b4 : -1 ≤ s1 ∧ s1 ≤ 1 := by rw [hs1]; unfold clampI; omega
        have b5 : -1 ≤ s2 ∧ s2 ≤ 1 := by rw [hs2]; unfold clampI; omega
        rw [← hs1, ← hs2] at hq
        have bm := mul_bd (a := s1) (b := s2) (A := 1) (B := 1) b4 b5
        obtain ⟨m, hm⟩ : ∃ m, s1 * s2 = m := ⟨_, rfl⟩
        rw [hm] at hq bm
        have bq := mul_bd (a := c3) (b := m) (A := 1099511627776) (B := 1) hc3 bm
        have hq2 : c3 * m = q := hq.symm
        rw [hq2] at bq
        have hz : (q == 0) = false := by rw [beq_eq_false_iff_ne]; exact q0
        obtain ⟨l1, l2, l3, l4⟩ := HLB.out
        obtain ⟨c0, g1, g2, g3, e0, e1, e2, e3, f0, f1, f2, f3⟩ := HK3
        replace T1 := Lib.hid T1
        replace T2 := Lib.hid T2
        clear hs1 hs2 hq hq' HV HLB N1 N2 N3 hn hn1 hn2 hc1 hc2
        go_wp2_with fail
        (refine wp_region_hat (by kernel_rfl) (by kernel_rfl) ?_; intro hatc hatf; (repeat (go_big_quiet_step ((go_at_call 143; first | (with_reducible exact Calls.hat_same (T1.out _)) | (with_reducible exact Calls.hat_same (T2.out _)))))); refine wpQuiet_nil ?_; rintro _ ⟨X, rfl⟩)
        clear hatc hatf T1 T2
        replace hn3 := hn3.trans X.h
        (replace c0 := New.keep X.h c0; replace g1 := New.keep X.h g1; replace g2 := New.keep X.h g2; replace g3 := New.keep X.h g3)
        (replace f0 := New.keepF X.h e0 f0; replace f1 := New.keepF X.h e1 f1; replace f2 := New.keepF X.h e2 f2; replace f3 := New.keepF X.h e3 f3)
        (replace e0 := New.keep X.h e0; replace e1 := New.keep X.h e1; replace e2 := New.keep X.h e2; replace e3 := New.keep X.h e3)
        generalize X.w = W9 at *
        clear X
        go_wp2_with fail
        have wx : IntKind.i64.wrap L.x = L.x := IntWalk.i64_in _ (by omega)
        have wz : IntKind.i64.wrap L.z = L.z := IntWalk.i64_in _ (by omega)
        have wy : IntKind.i64.wrap L.y = L.y := IntWalk.i64_in _ (by omega)
        have wd : IntKind.i64.wrap L.d = L.d := IntWalk.i64_in _ (by omega)
        go_region
        all_goals
          go_wp2_with fail
          refine bodyPost_ret (v := .agg #[.int .i64 L.x, .int .i64 L.z, .int .i64 L.y, .int .i64 L.d]) (by simp [results, Tryz.results145, go_sem, *]) rfl ?_
          exact ⟨rfl, by (repeat (first | (with_reducible exact New.refl _) | (with_reducible assumption) | ((with_reducible refine New.setB ?_ ?_ _); focus (first | omega | (simp; omega) | (simp; done))) | (with_reducible refine New.alloc ?_ _) | (with_reducible refine New.drew ?_) | (with_reducible refine New.drewN ?_ _) | (with_reducible refine New.hat ?_ _) | ((with_reducible apply New.snart); (with_reducible assumption))))⟩

end Go.Proofs.YtklopjbpfddgfaaGreat

/- Package clip: where a side crosses a line. -/
namespace Go.Proofs.YtklopjbpfddgfaaGreat
open Go.RowKit
set_option linter.unusedVariables false

/-- What is told of a corner that may not be. -/
def coV (r : Option Co) : Value := .agg #[.int .i64 (r.elim 0 Co.x), .int .i64 (r.elim 0 Co.z), .int .i64 (r.elim 0 Co.y), .int .i64 (r.elim 0 Co.d)]

structure SdOk (s : Sd) : Prop where
  ax : 0 ≤ s.ax ∧ s.ax ≤ 32
  az : 0 ≤ s.az ∧ s.az ≤ 32
  ay : -2048 ≤ s.ay ∧ s.ay ≤ 2048
  bx : 0 ≤ s.bx ∧ s.bx ≤ 32
  bz : 0 ≤ s.bz ∧ s.bz ≤ 32
  by' : -2048 ≤ s.by' ∧ s.by' ≤ 2048
structure LnOk (l : Ln) : Prop where
  bx : 0 ≤ l.bx ∧ l.bx ≤ 1
  bz : 0 ≤ l.bz ∧ l.bz ≤ 1
  at' : -64 ≤ l.at' ∧ l.at' ≤ 64
theorem off_bd {l : Ln} (hl : LnOk l) {vx vz : Int} (hx : 0 ≤ vx ∧ vx ≤ 32) (hz : 0 ≤ vz ∧ vz ≤ 32) : -128 ≤ l.off vx vz ∧ l.off vx vz ≤ 128 := by
  have m1 := mul_bd (a := l.bx) (b := vx) (A := 1) (B := 32) (by have := hl.bx; omega) (by omega)
  have m2 := mul_bd (a := l.bz) (b := vz) (A := 1) (B := 32) (by have := hl.bz; omega) (by omega)
  have := hl.at'
  unfold Ln.off
  omega
theorem crC_ok {s : Sd} {l : Ln} (hs : SdOk s) (hl : LnOk l) (h : (s.p l).sign ≠ (s.q l).sign) : Okc (crC s l) := by
  have b1 := off_bd hl hs.ax hs.az
  have b2 := off_bd hl hs.bx hs.bz
  have hp := (crC_at h).1.1
  have hne := (sg_ne h).1
  unfold crC at *
  have hb := low_bd (x := s.p l * s.bx - s.q l * s.ax) (z := s.p l * s.bz - s.q l * s.az) (y := s.p l * s.by' - s.q l * s.ay) hne
  have h1 : -128 ≤ s.p l ∧ s.p l ≤ 128 := b1
  have h2 : -128 ≤ s.q l ∧ s.q l ≤ 128 := b2
  obtain ⟨k1, k2, k3, k4, k5, k6⟩ := hs
  have m1 := mul_bd (a := s.p l) (b := s.bx) (A := 128) (B := 32) h1 (by omega)
  have m2 := mul_bd (a := s.q l) (b := s.ax) (A := 128) (B := 32) h2 (by omega)
  have m3 := mul_bd (a := s.p l) (b := s.bz) (A := 128) (B := 32) h1 (by omega)
  have m4 := mul_bd (a := s.q l) (b := s.az) (A := 128) (B := 32) h2 (by omega)
  have m5 := mul_bd (a := s.p l) (b := s.by') (A := 128) (B := 2048) h1 (by omega)
  have m6 := mul_bd (a := s.q l) (b := s.ay) (A := 128) (B := 2048) h2 (by omega)
  unfold Okc
  omega

set_option maxHeartbeats 4000000 in
set_option maxRecDepth 100000 in
theorem k_cross (s : Sd) (l : Ln) (w : World) (hs : SdOk s) (hl : LnOk l) (r : Option Co) (hr : crossO s l = r) :
    Calls Tryz.prog 131 #[.agg #[.int .i64 s.ax, .int .i64 s.ay, .int .i64 s.az, .int .i64 s.bx, .int .i64 s.by', .int .i64 s.bz], .agg #[.int .i64 l.bx, .int .i64 l.bz, .int .i64 l.at']] w fun e w' => e = .returned (.tuple #[.agg #[.int .i64 (r.elim 0 Co.x), .int .i64 (r.elim 0 Co.z), .int .i64 (r.elim 0 Co.y), .int .i64 (r.elim 0 Co.d)], .bool r.isSome]) ∧ New w w' := by
  have b1 := off_bd hl hs.ax hs.az
  have b2 := off_bd hl hs.bx hs.bz
  have KA := fun W => k_beyond l s.ax s.ay s.az W hl.bx hl.bz hl.at' hs.ax hs.az
  have KB := fun W => k_beyond l s.bx s.by' s.bz W hl.bx hl.bz hl.at' hs.bx hs.bz
  change ∀ W, Calls _ _ _ _ (fun e w' => e = .returned (.int .i64 (s.p l)) ∧ New W w') at KA
  change ∀ W, Calls _ _ _ _ (fun e w' => e = .returned (.int .i64 (s.q l)) ∧ New W w') at KB
  have S1 := fun W => sign_any (s.p l) W
  have S2 := fun W => sign_any (s.q l) W
  rw [clamp_sign] at S1 S2
  unfold crossO at hr
  have KL : (s.p l).sign ≠ (s.q l).sign → Hid (∀ W, Calls Tryz.prog 145 #[.agg #[.int .i64 (s.p l * s.bx - s.q l * s.ax), .int .i64 (s.p l * s.bz - s.q l * s.az), .int .i64 (s.p l * s.by' - s.q l * s.ay), .int .i64 (s.p l - s.q l)]] W fun e w' => e = .returned (.agg #[.int .i64 (crC s l).x, .int .i64 (crC s l).z, .int .i64 (crC s l).y, .int .i64 (crC s l).d]) ∧ New W w') := fun h => by
    have h1 : -128 ≤ s.p l ∧ s.p l ≤ 128 := b1
    have h2 : -128 ≤ s.q l ∧ s.q l ≤ 128 := b2
    obtain ⟨k1, k2, k3, k4, k5, k6⟩ := hs
    have m1 := mul_bd (a := s.p l) (b := s.bx) (A := 128) (B := 32) h1 (by omega)
    have m2 := mul_bd (a := s.q l) (b := s.ax) (A := 128) (B := 32) h2 (by omega)
    have m3 := mul_bd (a := s.p l) (b := s.bz) (A := 128) (B := 32) h1 (by omega)
    have m4 := mul_bd (a := s.q l) (b := s.az) (A := 128) (B := 32) h2 (by omega)
    have m5 := mul_bd (a := s.p l) (b := s.by') (A := 128) (B := 2048) h1 (by omega)
    have m6 := mul_bd (a := s.q l) (b := s.ay) (A := 128) (B := 2048) h2 (by omega)
    exact Lib.hid (fun W => k_lowest _ _ _ _ W (sg_ne h).1 (by omega) (by omega) (by omega) (by omega))
  have h1 : -128 ≤ s.p l ∧ s.p l ≤ 128 := b1
  have h2 : -128 ≤ s.q l ∧ s.q l ≤ 128 := b2
  have KX : ∀ p q : Int, p = s.p l → q = s.q l → Hid (∀ (m n : Int) (b b' : Nat) (W : World), -4096 ≤ m ∧ m ≤ 4096 → -4096 ≤ n ∧ n ≤ 4096 → W.cell? ⟨b, 0, none⟩ = some (.int .i64 p) → W.cell? ⟨b', 0, none⟩ = some (.int .i64 q) → Calls Tryz.prog 144 #[.int .i64 m, .int .i64 n, .pointer (some ⟨b, 0, none⟩), .pointer (some ⟨b', 0, none⟩)] W fun e w' => e = .returned (.int .i64 (p * n - q * m)) ∧ New W w') := fun p q hp hq =>
    Lib.hid (fun m n b b' W hm hn h1 h2 => k_btw p q m n b b' W h1 h2 (by rw [hp]; omega) (by rw [hq]; omega) hm hn)
  clear b1 b2
  generalize s.p l = p at *
  generalize s.q l = q at *
  replace KX := KX p q rfl rfl
  generalize crC s l = c at *
  replace KA := Lib.hid KA
  replace KB := Lib.hid KB
  replace S1 := Lib.hid S1
  replace S2 := Lib.hid S2
  have HS := Lib.hid hs
  have HR := Lib.hid hr
  clear hs hl hr
  go_enter Tryz.func131, Tryz.ntmps131
  go_upto_region 1 with fail
  refine Code.at (fun W0 hW => ?_)
  have hn : New w W0 := by subst hW; (repeat (first | (with_reducible exact New.refl _) | (with_reducible assumption) | ((with_reducible refine New.setB ?_ ?_ _); focus (first | omega | (simp; omega) | (simp; done))) | (with_reducible refine New.alloc ?_ _) | (with_reducible refine New.drew ?_) | (with_reducible refine New.drewN ?_ _) | (with_reducible refine New.hat ?_ _) | ((with_reducible apply New.snart); (with_reducible assumption))))
  have c0 : W0.cell? ⟨w.heap.size, 0, none⟩ = some (.int .i64 s.ax) := by subst hW; go_simp
  have c1 : W0.cell? ⟨w.heap.size, 1, none⟩ = some (.int .i64 s.ay) := by subst hW; go_simp
  have c2 : W0.cell? ⟨w.heap.size, 2, none⟩ = some (.int .i64 s.az) := by subst hW; go_simp
  have c3 : W0.cell? ⟨w.heap.size, 3, none⟩ = some (.int .i64 s.bx) := by subst hW; go_simp
  have c4 : W0.cell? ⟨w.heap.size, 4, none⟩ = some (.int .i64 s.by') := by subst hW; go_simp
  have c5 : W0.cell? ⟨w.heap.size, 5, none⟩ = some (.int .i64 s.bz) := by subst hW; go_simp
  have d0 : W0.cell? ⟨w.heap.size + 1, 0, none⟩ = some (.int .i64 l.bx) := by subst hW; go_simp
  have d1 : W0.cell? ⟨w.heap.size + 1, 1, none⟩ = some (.int .i64 l.bz) := by subst hW; go_simp
  have d2 : W0.cell? ⟨w.heap.size + 1, 2, none⟩ = some (.int .i64 l.at') := by subst hW; go_simp
  have e0 : W0.cell? ⟨w.heap.size + 1 + 1, 0, none⟩ = some (.int .i64 0) := by subst hW; go_simp
  have f0 : W0.frozen? ⟨w.heap.size + 1 + 1, 0, none⟩ = false := by subst hW; go_simp
  have e1 : W0.cell? ⟨w.heap.size + 1 + 1, 1, none⟩ = some (.int .i64 0) := by subst hW; go_simp
  have f1 : W0.frozen? ⟨w.heap.size + 1 + 1, 1, none⟩ = false := by subst hW; go_simp
  have e2 : W0.cell? ⟨w.heap.size + 1 + 1, 2, none⟩ = some (.int .i64 0) := by subst hW; go_simp
  have f2 : W0.frozen? ⟨w.heap.size + 1 + 1, 2, none⟩ = false := by subst hW; go_simp
  have e3 : W0.cell? ⟨w.heap.size + 1 + 1, 3, none⟩ = some (.int .i64 0) := by subst hW; go_simp
  have f3 : W0.frozen? ⟨w.heap.size + 1 + 1, 3, none⟩ = false := by subst hW; go_simp
  clear hW
  have zz : w.heap.size + 1 + 1 < W0.heap.size := World.block_lt_of_cell? _ _ e0
  have z0 : w.heap.size < W0.heap.size := by omega
  have z1 : w.heap.size + 1 < W0.heap.size := by omega
  go_cut [6, 7] (fun s6 s7 Z => ∃ b b' : Nat, s6 = .pointer (some ⟨b, 0, none⟩) ∧ s7 = .pointer (some ⟨b', 0, none⟩) ∧ New W0 Z ∧ Z.cell? ⟨b, 0, none⟩ = some (.int .i64 s.ax) ∧ Z.cell? ⟨b, 1, none⟩ = some (.int .i64 s.ay) ∧ Z.cell? ⟨b, 2, none⟩ = some (.int .i64 s.az) ∧
      Z.cell? ⟨b', 0, none⟩ = some (.int .i64 s.bx) ∧ Z.cell? ⟨b', 1, none⟩ = some (.int .i64 s.by') ∧ Z.cell? ⟨b', 2, none⟩ = some (.int .i64 s.bz))
  case first =>
    go_region
    all_goals
      go_wp2_with fail
      go_meet
      exact ⟨_, _, rfl, rfl, by (repeat (first | (with_reducible exact New.refl _) | (with_reducible assumption) | ((with_reducible refine New.setB ?_ ?_ _); focus (first | omega | (simp; omega) | (simp; done))) | (with_reducible refine New.alloc ?_ _) | (with_reducible refine New.drew ?_) | (with_reducible refine New.drewN ?_ _) | (with_reducible refine New.hat ?_ _) | ((with_reducible apply New.snart); (with_reducible assumption)))), by go_simp, by go_simp, by go_simp, by go_simp, by go_simp, by go_simp⟩
  case rest =>
    obtain ⟨u, v, rfl, rfl, nZ, p0, p1, p2, q0, q1, q2⟩ := hcut
    replace d0 := New.keep nZ d0
    replace d1 := New.keep nZ d1
    replace d2 := New.keep nZ d2
    replace f0 := New.keepF nZ e0 f0
    replace e0 := New.keep nZ e0
    replace f1 := New.keepF nZ e1 f1
    replace e1 := New.keep nZ e1
    replace f2 := New.keepF nZ e2 f2
    replace e2 := New.keep nZ e2
    replace f3 := New.keepF nZ e3 f3
    replace e3 := New.keep nZ e3
    replace hn := hn.trans nZ
    clear nZ c0 c1 c2 c3 c4 c5 zz z0 z1
    rename World => W1
    have zz : w.heap.size + 1 + 1 < W1.heap.size := World.block_lt_of_cell? _ _ e0
    have zu : u < W1.heap.size := World.block_lt_of_cell? _ _ p0
    have zv : v < W1.heap.size := World.block_lt_of_cell? _ _ q0
    go_upto_region 2 with fail
    (refine wp_region_steady2 8 6 8 7 9 (ob := .cells #[.int .i64 0] 3) (ob' := .cells #[.int .i64 0] 3) (by kernel_rfl) (by kernel_rfl) (by decide) (by decide) rfl rfl rfl (fun _ _ => by kernel_rfl) (by kernel_rfl) (by simp) rfl rfl rfl (fun _ _ => by kernel_rfl) (by kernel_rfl) (by simp) ?_; (intro hatc hatf; simp only [List.take_succ_cons, List.take_zero, List.drop_succ_cons, List.drop_zero]; (repeat (first | (refine mildWalk_made (by decide) ?_; simp only [Act.put, List.setIfInBounds_toArray, List.set_cons_zero, List.set_cons_succ]) | (refine mildWalk_step (by decide) (fun K hK => ?_); go_simp; first | (refine hK _ ?_; clear hK K) | (apply Exists.intro; refine ⟨fun _ => ?_, hK _ ?_⟩; (first | (go_at_call 142; with_reducible exact KA.out _) | (go_at_call 142; with_reducible exact KB.out _)); clear hK K)))); refine mildWalk_nil ?_; (try simp only [List.setIfInBounds_toArray, List.set_cons_zero, List.set_cons_succ])))
    intro y b b' hb hb' hbb hh hh'
    have j0 := cell_of_heap (o := 0) hh rfl
    have j1 := cell_of_heap (o := 0) hh' rfl
    have jf := fun o => frozen_of_heap (o := o) hh
    have jf' := fun o => frozen_of_heap (o := o) hh'
    have nZ : New W1 y.w := New.hat (New.refl W1) y
    replace p0 := New.keep nZ p0
    replace p1 := New.keep nZ p1
    replace p2 := New.keep nZ p2
    replace q0 := New.keep nZ q0
    replace q1 := New.keep nZ q1
    replace q2 := New.keep nZ q2
    replace f0 := New.keepF nZ e0 f0
    replace e0 := New.keep nZ e0
    replace f1 := New.keepF nZ e1 f1
    replace e1 := New.keep nZ e1
    replace f2 := New.keepF nZ e2 f2
    replace e2 := New.keep nZ e2
    replace f3 := New.keepF nZ e3 f3
    replace e3 := New.keep nZ e3
    replace hn := hn.trans nZ
    generalize y.w = W2 at *
    clear hh hh' hatc hatf nZ d0 d1 d2 KA KB
    have zb : w.heap.size + 1 + 1 < b := by omega
    have zb' : w.heap.size + 1 + 1 < b' := by omega
    have n1 : u ≠ b := by omega
    have n2 : u ≠ b' := by omega
    have n3 : v ≠ b := by omega
    have n4 : v ≠ b' := by omega
    have n5 : w.heap.size + 1 + 1 ≠ b := by omega
    have n6 : w.heap.size + 1 + 1 ≠ b' := by omega
    go_upto_region 3 with fail
    refine Code.at (fun W3 hW => ?_)
    have hn3 : New w W3 := by subst hW; (repeat (first | (with_reducible exact New.refl _) | (with_reducible assumption) | ((with_reducible refine New.setB ?_ ?_ _); focus (first | omega | (simp; omega) | (simp; done))) | (with_reducible refine New.alloc ?_ _) | (with_reducible refine New.drew ?_) | (with_reducible refine New.drewN ?_ _) | (with_reducible refine New.hat ?_ _) | ((with_reducible apply New.snart); (with_reducible assumption))))
    have cb : W3.cell? ⟨b, 0, none⟩ = some (.int .i64 p) := by subst hW; go_simp
    have cb' : W3.cell? ⟨b', 0, none⟩ = some (.int .i64 q) := by subst hW; go_simp
    replace p0 : W3.cell? ⟨u, 0, none⟩ = some (.int .i64 s.ax) := by subst hW; go_simp
    replace p1 : W3.cell? ⟨u, 1, none⟩ = some (.int .i64 s.ay) := by subst hW; go_simp
    replace p2 : W3.cell? ⟨u, 2, none⟩ = some (.int .i64 s.az) := by subst hW; go_simp
    replace q0 : W3.cell? ⟨v, 0, none⟩ = some (.int .i64 s.bx) := by subst hW; go_simp
    replace q1 : W3.cell? ⟨v, 1, none⟩ = some (.int .i64 s.by') := by subst hW; go_simp
    replace q2 : W3.cell? ⟨v, 2, none⟩ = some (.int .i64 s.bz) := by subst hW; go_simp
    replace e0 : W3.cell? ⟨w.heap.size + 1 + 1, 0, none⟩ = some (.int .i64 0) := by subst hW; go_simp
    replace e1 : W3.cell? ⟨w.heap.size + 1 + 1, 1, none⟩ = some (.int .i64 0) := by subst hW; go_simp
    replace e2 : W3.cell? ⟨w.heap.size + 1 + 1, 2, none⟩ = some (.int .i64 0) := by subst hW; go_simp
    replace e3 : W3.cell? ⟨w.heap.size + 1 + 1, 3, none⟩ = some (.int .i64 0) := by subst hW; go_simp
    replace f0 : W3.frozen? ⟨w.heap.size + 1 + 1, 0, none⟩ = false := by subst hW; go_simp
    replace f1 : W3.frozen? ⟨w.heap.size + 1 + 1, 1, none⟩ = false := by subst hW; go_simp
    replace f2 : W3.frozen? ⟨w.heap.size + 1 + 1, 2, none⟩ = false := by subst hW; go_simp
    replace f3 : W3.frozen? ⟨w.heap.size + 1 + 1, 3, none⟩ = false := by subst hW; go_simp
    clear hW j0 j1 jf jf' hn zb zb' n1 n2 n3 n4 n5 n6 zu zv zz hb hb' hbb
    clear W2
    by_cases hsg : p.sign = q.sign
    · have hq : (p.sign == q.sign) = true := by simpa using hsg
      have e : r = none := by rw [← HR.out, if_pos hsg]
      subst e
      clear hsg KL KX HR p0 p1 p2 q0 q1 q2 HS
      (refine wp_region_hat (by kernel_rfl) (by kernel_rfl) ?_; intro hatc hatf; (repeat (go_big_quiet_step ((go_at_call 143; first | (with_reducible exact Calls.hat_same (S1.out _)) | (with_reducible exact Calls.hat_same (S2.out _)))))); refine wpQuiet_nil ?_; rintro _ ⟨X, rfl⟩)
      clear hatc hatf S1 S2
      have hn := hn3.trans X.h
      replace f0 := New.keepF X.h e0 f0
      replace e0 := New.keep X.h e0
      replace f1 := New.keepF X.h e1 f1
      replace e1 := New.keep X.h e1
      replace f2 := New.keepF X.h e2 f2
      replace e2 := New.keep X.h e2
      replace f3 := New.keepF X.h e3 f3
      replace e3 := New.keep X.h e3
      generalize X.w = W9 at *
      clear X
      go_wp2_with fail
      refine bodyPost_ret (v := .tuple #[.agg #[.int .i64 0, .int .i64 0, .int .i64 0, .int .i64 0], .bool false]) (by simp [results, Tryz.results131, go_sem, *]) rfl ?_
      exact ⟨rfl, by (repeat (first | (with_reducible exact New.refl _) | (with_reducible assumption) | ((with_reducible refine New.setB ?_ ?_ _); focus (first | omega | (simp; omega) | (simp; done))) | (with_reducible refine New.alloc ?_ _) | (with_reducible refine New.drew ?_) | (with_reducible refine New.drewN ?_ _) | (with_reducible refine New.hat ?_ _) | ((with_reducible apply New.snart); (with_reducible assumption))))⟩
    · have hq : (p.sign == q.sign) = false := by simpa using hsg
      have e : r = some c := by rw [← HR.out, if_neg hsg]
      subst e
      have KL := KL hsg
      clear hsg HR
      (refine wp_region_hat (by kernel_rfl) (by kernel_rfl) ?_; intro hatc hatf; (repeat (go_big_quiet_step ((go_at_call 143; first | (with_reducible exact Calls.hat_same (S1.out _)) | (with_reducible exact Calls.hat_same (S2.out _)))))); refine wpQuiet_nil ?_; rintro _ ⟨X, rfl⟩)
      clear hatc hatf S1 S2
      have hn := hn3.trans X.h
      replace f0 := New.keepF X.h e0 f0
      replace e0 := New.keep X.h e0
      replace f1 := New.keepF X.h e1 f1
      replace e1 := New.keep X.h e1
      replace f2 := New.keepF X.h e2 f2
      replace e2 := New.keep X.h e2
      replace f3 := New.keepF X.h e3 f3
      replace e3 := New.keep X.h e3
      replace p0 := New.keep X.h p0
      replace p1 := New.keep X.h p1
      replace p2 := New.keep X.h p2
      replace q0 := New.keep X.h q0
      replace q1 := New.keep X.h q1
      replace q2 := New.keep X.h q2
      replace cb := New.keep X.h cb
      replace cb' := New.keep X.h cb'
      generalize X.w = W9 at *
      clear X
      have KC1 : ∀ x : Hat W9, Calls Tryz.prog 144 #[.int .i64 s.ax, .int .i64 s.bx, .pointer (some ⟨b, 0, none⟩), .pointer (some ⟨b', 0, none⟩)] x.w fun e w' => e = .returned (.int .i64 (p * s.bx - q * s.ax)) ∧ New x.w w' := fun x => KX.out _ _ b b' x.w (by have := HS.out.ax; omega) (by have := HS.out.bx; omega) (New.keep x.h cb) (New.keep x.h cb')
      have KC2 : ∀ x : Hat W9, Calls Tryz.prog 144 #[.int .i64 s.az, .int .i64 s.bz, .pointer (some ⟨b, 0, none⟩), .pointer (some ⟨b', 0, none⟩)] x.w fun e w' => e = .returned (.int .i64 (p * s.bz - q * s.az)) ∧ New x.w w' := fun x => KX.out _ _ b b' x.w (by have := HS.out.az; omega) (by have := HS.out.bz; omega) (New.keep x.h cb) (New.keep x.h cb')
      have KC3 : ∀ x : Hat W9, Calls Tryz.prog 144 #[.int .i64 s.ay, .int .i64 s.by', .pointer (some ⟨b, 0, none⟩), .pointer (some ⟨b', 0, none⟩)] x.w fun e w' => e = .returned (.int .i64 (p * s.by' - q * s.ay)) ∧ New x.w w' := fun x => KX.out _ _ b b' x.w (by have := HS.out.ay; omega) (by have := HS.out.by'; omega) (New.keep x.h cb) (New.keep x.h cb')
      replace KC1 := Lib.hid KC1
      replace KC2 := Lib.hid KC2
      replace KC3 := Lib.hid KC3
      have hpq : IntKind.i64.wrap (p - q) = p - q := IntWalk.i64_in _ (by omega)
      clear KX HS
      go_upto_region 6 with fail
      (refine wp_region_steady 23 (by kernel_rfl) (by kernel_rfl) ?_; (intro hatc hatf; simp only [List.take_succ_cons, List.take_zero, List.drop_succ_cons, List.drop_zero]; (repeat (first | (refine mildWalk_made (by decide) ?_; simp only [Act.put, List.setIfInBounds_toArray, List.set_cons_zero, List.set_cons_succ]) | (refine mildWalk_step (by decide) (fun K hK => ?_); go_simp; first | (refine hK _ ?_; clear hK K) | (apply Exists.intro; refine ⟨fun _ => ?_, hK _ ?_⟩; (first | (go_at_call 144; with_reducible exact KC1.out _) | (go_at_call 144; with_reducible exact KC2.out _) | (go_at_call 144; with_reducible exact KC3.out _) | (go_at_call 145; with_reducible exact KL.out _)); clear hK K)))); refine mildWalk_nil ?_; (try simp only [List.setIfInBounds_toArray, List.set_cons_zero, List.set_cons_succ])))
      intro y
      have hny := New.hat hn y
      clear hatc hatf KC1 KC2 KC3 KL cb cb' p0 p1 p2 q0 q1 q2
      replace f0 := New.keepF y.h e0 f0
      replace e0 := New.keep y.h e0
      replace f1 := New.keepF y.h e1 f1
      replace e1 := New.keep y.h e1
      replace f2 := New.keepF y.h e2 f2
      replace e2 := New.keep y.h e2
      replace f3 := New.keepF y.h e3 f3
      replace e3 := New.keep y.h e3
      generalize y.w = W10 at *
      clear y
      go_wp2_with fail
      refine bodyPost_ret (v := .tuple #[.agg #[.int .i64 c.x, .int .i64 c.z, .int .i64 c.y, .int .i64 c.d], .bool true]) (by simp [results, Tryz.results131, go_sem, *]) rfl ?_
      exact ⟨rfl, by (repeat (first | (with_reducible exact New.refl _) | (with_reducible assumption) | ((with_reducible refine New.setB ?_ ?_ _); focus (first | omega | (simp; omega) | (simp; done))) | (with_reducible refine New.alloc ?_ _) | (with_reducible refine New.drew ?_) | (with_reducible refine New.drewN ?_ _) | (with_reducible refine New.hat ?_ _) | ((with_reducible apply New.snart); (with_reducible assumption))))⟩

end Go.Proofs.YtklopjbpfddgfaaGreat
