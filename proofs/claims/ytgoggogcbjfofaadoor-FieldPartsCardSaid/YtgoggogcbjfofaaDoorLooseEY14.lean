import Derived.Test.YtgoggogcbjfofaaDoorLoose
import Derived.Test.YtgoggogcbjfofaaDoorSoSY14

/- The same, where one operation (an extraction: number e) may also come behind the store (number n) that waits for all the others. No function of the program in sight. -/
namespace Go.Proofs.YtgoggogcbjfofaaDoor
open Go.RowKit
set_option linter.unusedVariables false

section
variable {P : Program} {ops : Array Oper} {W : World} {n e : Nat}

def sinkE (ops : Array Oper) (n e : Nat) : Bool :=
  (List.range n).all fun i => i == e || (List.range (n + 1)).any fun j => decide (i < j) && j != e && Region.waitsFor .any ops j i

theorem tail_waitsE {listed : Array Bool} (hs : sinkE ops n e = true) (hc : chain2B ops n = true) (hn : n < ops.size) (inv : HeadInv .any ops n listed) (i : Nat) (hi : i < n) (hie : i ≠ e) (hun : listed.getD i true = false) :
    ∀ t, n ≤ t → t ∉ Region.ready .any ops listed := by
  intro t ht hr
  obtain ⟨_, ot, hot, hall⟩ := mem_ready.1 hr
  have htlt : t < ops.size := (Array.getElem?_eq_some_iff.1 hot).1
  by_cases htn : t = n
  · subst htn
    have key : ∀ (d i : Nat), t - i = d → i < t → i ≠ e → listed.getD i true = false → False := by
      intro d
      induction d using Nat.strongRecOn with
      | _ d ih =>
        intro i hd hi hie hun
        have h1 := List.all_eq_true.1 hs i (List.mem_range.2 hi)
        simp only [Bool.or_eq_true, beq_iff_eq, hie, false_or] at h1
        obtain ⟨j, hj, hj2⟩ := List.any_eq_true.1 h1
        simp only [Bool.and_eq_true, decide_eq_true_eq, bne_iff_ne] at hj2
        obtain ⟨oj, hoj, x, he, hb, hon⟩ := Region.waitsFor_spec hj2.2
        have hjle : j ≤ t := by have := List.mem_range.1 hj; omega
        by_cases hjt : j = t
        · subst hjt
          have : oj = ot := Option.some.inj (hoj.symm.trans hot)
          subst this
          have h2 := hall x he hb
          rw [hon, getD_both hun] at h2
          cases h2
        · cases hl : listed.getD j false with
          | true =>
            have h2 := inv.closed j oj hoj hl x he hb
            rw [hon, getD_both hun] at h2
            cases h2
          | false =>
            have hjs : j < listed.size := by rw [inv.size]; omega
            exact ih (t - j) (by omega) j rfl (by omega) hj2.1.2 (getD_in hjs hl)
    exact key _ i rfl hi hie hun
  · have h1 := List.all_eq_true.1 hc t (List.mem_range.2 htlt)
    simp only [Bool.or_eq_true, decide_eq_true_eq] at h1
    rcases h1 with h1 | h1
    · omega
    · obtain ⟨j, hj, hj2⟩ := List.any_eq_true.1 h1
      simp only [Bool.and_eq_true, decide_eq_true_eq] at hj2
      have hjt := List.mem_range.1 hj
      obtain ⟨o', ho', x, he, hb, hon⟩ := Region.waitsFor_spec hj2.2
      have : o' = ot := Option.some.inj (ho'.symm.trans hot)
      subst this
      have h2 := hall x he hb
      rw [hon, getD_both (inv.tail j hj2.1 (by omega))] at h2
      cases h2

/-- What the text's order gives of an operation's step, on the invariant. -/
theorem linv_step {V : Nat → World → Value → Prop} {a a' : Act} {listed : Array Bool} {w' w'' : World} {i d : Nat} {o : Oper} {v : Value} (hV : ∀ i w w' v, V i w v → New w w' → V i w' v) (K : LInv ops W n V a listed a' w') (hin : i < n) (hoi : ops[i]? = some o) (hd : o.dst = some d) (hds : d < a.tmps.size)
    (hdis : ∀ k o', k < n → k ≠ i → ops[k]? = some o' → o'.dst ≠ some d) (hn : New w' w'') (hv : V i w'' v) : LInv ops W n V a (listed.setIfInBounds i true) (a'.put (some d) v) w'' := by
  refine ⟨K.new.trans hn, by rw [put_def]; exact K.defs, by rw [put_size]; exact K.size, fun s h => ?_, fun j oj dj hj hoj hl hdj => ?_⟩
  · rw [put_get_ne (by rintro _ ⟨rfl⟩ x; subst x; exact h i o hin hoi hd)]
    exact K.same s h
  · by_cases hji : j = i
    · subst hji
      obtain rfl : oj = o := Option.some.inj (hoj.symm.trans hoi)
      obtain rfl : dj = d := Option.some.inj (hdj.symm.trans hd)
      rw [eval_get, put_get_eq (by rw [K.size]; exact hds)]
      exact hv
    · rw [getD_set_ne false (fun x => hji x.symm)] at hl
      have h1 := hdis j oj hj hji hoj
      rw [eval_get, put_get_ne (by rintro _ ⟨rfl⟩ x; subst x; exact h1 hdj), ← eval_get]
      exact hV _ _ _ _ (K.held j oj dj hj hoj hl hdj) hn

/-- All listed: the frame is the text's, with values of which all is true that was told. -/
theorem linv_putL {l : List Oper} {V : Nat → World → Value → Prop} {a a' : Act} {listed : Array Bool} {w' : World} (ho : ∀ j, j < n → opB l.toArray n a.tmps.size j = true) (hall : ∀ j, j < n → listed.getD j false = true) (K : LInv l.toArray W n V a listed a' w') :
    ∃ vs : Nat → Value, (∀ j, j < n → V j w' (vs j)) ∧ putL (l.take n) vs 0 a = a' := by
  refine ⟨fun j => a'.eval (.tmp (((l.toArray[j]?).bind (·.dst)).getD 0)), fun j hj => ?_, ?_⟩
  · obtain ⟨o, d, hoj, _, hd, _⟩ := opB_spec (ho j hj)
    have := K.held j o d hj hoj (hall j hj) hd
    show V j w' (a'.eval (.tmp (((l.toArray[j]?).bind (·.dst)).getD 0)))
    rw [hoj]
    show V j w' (a'.eval (.tmp (o.dst.getD 0)))
    rw [hd]
    exact this
  · have hta : ∀ i o, (l.take n)[i]? = some o → i < n ∧ l.toArray[i]? = some o := fun i o h => by
      have h1 : i < (l.take n).length := (List.getElem?_eq_some_iff.1 h).1
      have h2 : i < n := by simp at h1; omega
      rw [List.getElem?_take, if_pos h2] at h
      exact ⟨h2, by simpa using h⟩
    refine act_eq (by rw [putL_def, K.defs]) fun s => ?_
    by_cases hw : ∃ j oj, j < n ∧ l.toArray[j]? = some oj ∧ oj.dst = some s
    · obtain ⟨j, oj, hj, hoj, hd⟩ := hw
      obtain ⟨o, d, hoj', _, hd', hds, hdis, _⟩ := opB_spec (ho j hj)
      obtain rfl : oj = o := Option.some.inj (hoj.symm.trans hoj')
      obtain rfl : s = d := Option.some.inj (hd.symm.trans hd')
      rw [putL_some (l.take n) _ 0 a j oj (by rw [List.getElem?_take, if_pos hj]; simpa using hoj) hd hds fun i o' hi hij hd2 => hdis i o' (hta i o' hi).1 hij (hta i o' hi).2 hd2]
      rw [Nat.zero_add, hoj]
      show some (a'.eval (.tmp ((oj.dst).getD 0))) = _
      rw [hd]
      show some (a'.eval (.tmp s)) = _
      rw [eval_get, Array.getElem?_eq_getElem (by rw [K.size]; exact hds)]
      rfl
    · rw [putL_none _ _ _ _ fun o ho' hd => by
        obtain ⟨i, hi, he⟩ := List.getElem_of_mem ho'
        have := hta i o (by rw [List.getElem?_eq_getElem hi, he])
        exact hw ⟨i, o, this.1, this.2, hd⟩]
      exact (K.same s fun j oj hj hoj hd => hw ⟨j, oj, hj, hoj, hd⟩).symm

/-- The operations' loop, but for the end. -/
theorem wpAny_looseE {V : Nat → World → Value → Prop} {a : Act} {Q : Exit → Act → World → Prop} {g : Nat} (he : e < n) (hs : sinkE ops n e = true) (hc : chain2B ops n = true) (hlt : n < ops.size) (ho : ∀ j, j < n → opB ops n a.tmps.size j = true)
    (hV : ∀ i w w' v, V i w v → New w w' → V i w' v)
    (hstep : ∀ i o, i < n → ops[i]? = some o → ∀ a' w', New W w' → (∀ t, restsB ops n t = true → a'.eval (.tmp t) = a.eval (.tmp t)) → (∀ j d, j < n → waitsB o j = true → (ops[j]?).bind (·.dst) = some d → V j w' (a'.eval (.tmp d))) → Yields P o a' w' fun v w'' => New w' w'' ∧ V i w'' v)
    (hL : ∀ listed a' w', (∀ j, j < n → listed.getD j false = true) → HeadInv .any ops n listed → LInv ops W n V a listed a' w' → wpAny P .any ops Q g listed a' w')
    (hE : ∀ listed a' w', (∀ j, j < n → j ≠ e → listed.getD j false = true) → listed.getD e false = false → HeadInv .any ops n listed → LInv ops W n V a listed a' w' → wpAny P .any ops Q (g + 1) listed a' w') :
    ∀ (f : Nat) (listed : Array Bool) (a' : Act) (w' : World), HeadInv .any ops n listed → toCome listed n = f → LInv ops W n V a listed a' w' → wpAny P .any ops Q (f + g) listed a' w'
  | 0, listed, a', w', inv, hf, K => by rw [Nat.zero_add]; exact hL _ _ _ (toCome_zero n hf) inv K
  | f + 1, listed, a', w', inv, hf, K => by
    by_cases hH : ∃ i, i < n ∧ i ≠ e ∧ listed.getD i false = false
    rotate_left
    · have hall : ∀ j, j < n → j ≠ e → listed.getD j false = true := fun j hj hje => by
        cases h : listed.getD j false with
        | true => rfl
        | false => exact absurd ⟨j, hj, hje, h⟩ hH
      obtain ⟨i0, hi0, hf0⟩ := toCome_some (listed := listed) n (by omega)
      have h0e : i0 = e := by
        by_cases h : i0 = e
        · exact h
        · rw [hall i0 hi0 h] at hf0; cases hf0
      subst h0e
      have hse := toCome_set (i := i0) (listed := listed) (by rw [inv.size]; omega) hf0 n hi0
      have hz : toCome (listed.setIfInBounds i0 true) n = 0 := by
        rcases Nat.eq_zero_or_pos (toCome (listed.setIfInBounds i0 true) n) with q | q
        · exact q
        · obtain ⟨j, hj, hjf⟩ := toCome_some n q
          by_cases hji : j = i0
          · subst hji
            have : (listed.setIfInBounds j true).getD j false = true := by simp [Array.getD_eq_getD_getElem?, show j < listed.size by rw [inv.size]; omega]
            rw [this] at hjf; cases hjf
          · rw [getD_set_ne false (fun x => hji x.symm), hall j hj hji] at hjf; cases hjf
      have hf1 : f = 0 := by omega
      subst hf1
      rw [show 0 + 1 + g = g + 1 by omega]
      exact hE _ _ _ hall hf0 inv K
    obtain ⟨ih, hih1, hih2, hih3⟩ := hH
    rw [show f + 1 + g = (f + g) + 1 by omega]
    obtain ⟨i0, hi0, hm0⟩ := exists_least (toCome_some n (by omega : 0 < toCome listed n))
    obtain ⟨o0, d0, ho0, _, _, _, _, haf⟩ := opB_spec (ho i0 hi0.1)
    have hsz : i0 < listed.size := by rw [inv.size]; omega
    have hr0 : i0 ∈ Region.ready .any ops listed := mem_ready.2 ⟨getD_in hsz hi0.2, o0, ho0, fun x he hb => by
      have h1 := haf x he hb
      cases hl : listed.getD x.on false with
      | true => rfl
      | false => have := hm0 x.on ⟨by omega, hl⟩; omega⟩
    refine ⟨fun h0 => absurd hr0 (by rw [h0]; simp), fun i hi => ?_⟩
    have hin : i < n := Nat.lt_of_not_le fun h => tail_waitsE hs hc hlt inv ih hih1 hih2 (getD_in (by rw [inv.size]; omega) hih3) i h hi
    obtain ⟨hun, o', ho', hall⟩ := mem_ready.1 hi
    obtain ⟨o, d, hoi, hg, hd, hds, hdis, _⟩ := opB_spec (ho i hin)
    obtain rfl : o' = o := Option.some.inj (ho'.symm.trans hoi)
    unfold wpOp
    simp only [hoi]
    have hw : Region.wanted o' (yielded ops a'.tmps) = true := by unfold Region.wanted; rw [hg]
    rw [if_pos hw]
    refine .inl (yields_wp (hstep i o' hin hoi a' w' K.new (fun t ht => ?_) (fun j dj hj hwj hdj => ?_)) fun v w'' ⟨hn, hv⟩ => ?_)
    · rw [eval_get, eval_get, K.same t fun j oj hj hoj hd' => by
        have h1 := List.all_eq_true.1 ht j (List.mem_range.2 hj)
        simp only [hoj, bne_iff_ne] at h1
        exact h1 hd']
    · obtain ⟨x, he, hb⟩ := Array.any_eq_true'.1 hwj
      simp only [Bool.and_eq_true, beq_iff_eq] at hb
      have h1 := hall x he hb.1
      rw [hb.2] at h1
      cases hoj : ops[j]? with
      | none => rw [hoj] at hdj; cases hdj
      | some oj =>
        rw [hoj] at hdj
        exact K.held j oj dj hj hoj h1 hdj
    · rw [hd]
      exact wpAny_looseE he hs hc hlt ho hV hstep hL hE f _ _ _ (inv.set hi hin) (by have := toCome_set (by rw [inv.size]; omega) (getD_both hun) n hin; omega) (linv_step hV K hin hoi hd hds hdis hn hv)

def looseE (ops : Array Oper) (n e sz : Nat) : Bool :=
  sinkE ops n e && chain2B ops n && decide (n < ops.size) && decide (e < n) && (List.range n).all (opB ops n sz) && Region.seqB .any ops (ops.size - n) n (heads ops.size n) &&
  (Region.ready .any ops ((heads ops.size n).setIfInBounds e false)).all (fun j => j == e || j == n) && (Region.ready .any ops ((heads ops.size n).setIfInBounds e false)).contains e &&
  decide (Region.ready .any ops (((heads ops.size n).setIfInBounds e false).setIfInBounds n true) = [e]) && Region.seqB .any ops (ops.size - (n + 1)) (n + 1) ((((heads ops.size n).setIfInBounds e false).setIfInBounds n true).setIfInBounds e true)

theorem wp_region_loose_e {id : Nat} {Q : Exit → Act → World → Prop} {a : Act} {w : World} {l : List Oper} (n e : Nat) (V : Nat → World → Value → Prop) {oe os : Oper} {de : Nat} (hm : P.follows .mixedOrders = true) (hB : looseE l.toArray n e a.tmps.size = true)
    (hoe : l.toArray[e]? = some oe) (hde : oe.dst = some de) (hos : l.toArray[n]? = some os) (hod : os.dst = none) (hog : os.guard = none) (hlook : de ∉ os.looksAt l.toArray) (hsel : ∀ cs b, os.op ≠ .select cs b)
    (hV : ∀ i w w' v, V i w v → New w w' → V i w' v)
    (hstep : ∀ i o, i < n → l.toArray[i]? = some o → ∀ a' w', New w w' → (∀ t, restsB l.toArray n t = true → a'.eval (.tmp t) = a.eval (.tmp t)) → (∀ j d, j < n → waitsB o j = true → (l.toArray[j]?).bind (·.dst) = some d → V j w' (a'.eval (.tmp d))) → Yields P o a' w' fun v w'' => New w' w'' ∧ V i w'' v)
    (hpure : ∀ (a' : Act) (w' : World), New w w' → (∀ j d, j < n → waitsB oe j = true → (l.toArray[j]?).bind (·.dst) = some d → V j w' (a'.eval (.tmp d))) → ∃ v, ∀ W, (execOp a'.eval oe).run P W = .ok (.value v) W)
    (htail : ∀ vs w', New w w' → (∀ j, j < n → V j w' (vs j)) → ∃ w2, (execOp (putL (l.take n) vs 0 a).eval os).run P w' = .ok .skip w2 ∧ wpList P l.toArray Q (l.drop (n + 1)) (putL (l.take n) vs 0 a) w2) : (Code.region id l.toArray true).wp P Q a w := by
  simp only [looseE, Bool.and_eq_true, decide_eq_true_eq] at hB
  obtain ⟨⟨⟨⟨⟨⟨⟨⟨⟨hs, hc⟩, hlt⟩, hen⟩, hops⟩, hseq⟩, hr1⟩, hr2⟩, hr3⟩, hseq2⟩ := hB
  have ho : ∀ j, j < n → opB l.toArray n a.tmps.size j = true := fun j hj => List.all_eq_true.1 hops j (List.mem_range.2 hj)
  have hll : l.toArray.size = l.length := by simp
  have inv0 : HeadInv .any l.toArray n (Array.replicate l.toArray.size false) :=
    ⟨by simp, fun j oj _ hl => (by rw [getD_replicate_false] at hl; cases hl), fun t _ ht => getD_in (by simpa using ht) (getD_replicate_false _ _)⟩
  have h0 : ∀ k, toCome (Array.replicate l.toArray.size false) k = k := by
    intro k
    induction k with
    | zero => rfl
    | succ k ih =>
      unfold toCome
      rw [ih, getD_replicate_false]
      simp
      omega
  have hdrop : l.drop n = os :: l.drop (n + 1) := by
    have hn' : n < l.length := by omega
    rw [List.drop_eq_getElem_cons hn']
    have : l.toArray[n]? = some l[n] := by simp [hn']
    rw [this] at hos
    rw [Option.some.inj hos]
  have hwant : ∀ ts, Region.wanted os (yielded l.toArray ts) = true := fun ts => by unfold Region.wanted; rw [hog]
  have hLall : ∀ listed a' w', (∀ j, j < n → listed.getD j false = true) → HeadInv .any l.toArray n listed → LInv l.toArray w n V a listed a' w' → wpAny P .any l.toArray Q (l.toArray.size - n) listed a' w' := fun listed a' w' hall inv K => by
    have hlist : listed = heads l.toArray.size n := by
      refine Array.ext (by rw [inv.size]; simp [heads]) fun j h1 h2 => ?_
      have hj : j < l.toArray.size := by rw [← inv.size]; exact h1
      have e2 : (heads l.toArray.size n)[j] = decide (j < n) := by simp [heads]
      rw [e2]
      by_cases hjn : j < n
      · have := hall j hjn
        rw [Array.getD_eq_getD_getElem?, Array.getElem?_eq_getElem h1] at this
        simpa [hjn] using this
      · have := inv.tail j (by omega) hj
        rw [Array.getD_eq_getD_getElem?, Array.getElem?_eq_getElem h1] at this
        simpa [hjn] using this
    have hdl : (l.drop n).length = l.toArray.size - n := by simp
    obtain ⟨vs, hvs, hput⟩ := linv_putL ho hall K
    obtain ⟨w2, hrun, hrest⟩ := htail vs w' K.new hvs
    rw [hput] at hrun hrest
    have hw := wpAny_of_seq (P := P) (md := .any) (ops := l.toArray) (Q' := Q) (l.drop n) n listed a' w' (fun j => by simp [List.getElem?_drop]) (by rw [hdl, hlist]; exact hseq) (by
      rw [hdrop]
      unfold wpList
      rw [if_pos (hwant _)]
      refine .inl ?_
      unfold Oper.wp
      rw [hrun, Oper.upon_skip, hod]
      exact hrest)
    rwa [hdl] at hw
  refine wp_region_any hm ?_
  have := wpAny_looseE (P := P) (W := w) (V := V) (Q := Q) (g := l.toArray.size - n) (a := a) hen hs hc hlt ho hV hstep hLall (fun listed a' w' hall hef inv K => by
    have hlist : listed = (heads l.toArray.size n).setIfInBounds e false := by
      refine Array.ext (by rw [inv.size]; simp [heads]) fun j h1 h2 => ?_
      have hj : j < l.toArray.size := by rw [← inv.size]; exact h1
      have e2 : ((heads l.toArray.size n).setIfInBounds e false)[j] = if e = j then false else decide (j < n) := by
        rw [Array.getElem_setIfInBounds (by simpa [heads] using hj)]
        simp [heads]
      rw [e2]
      by_cases hej : e = j
      · subst hej
        rw [Array.getD_eq_getD_getElem?, Array.getElem?_eq_getElem h1] at hef
        simpa using hef
      · rw [if_neg hej]
        by_cases hjn : j < n
        · have := hall j hjn (fun x => hej x.symm)
          rw [Array.getD_eq_getD_getElem?, Array.getElem?_eq_getElem h1] at this
          simpa [hjn] using this
        · have := inv.tail j (by omega) hj
          rw [Array.getD_eq_getD_getElem?, Array.getElem?_eq_getElem h1] at this
          simpa [hjn] using this
    rw [← hlist] at hr1 hr2 hr3 hseq2
    have hre : e ∈ Region.ready .any l.toArray listed := by simpa using hr2
    obtain ⟨oe', de', hoe', hge, hde', hdes, hdise, _⟩ := opB_spec (ho e hen)
    obtain rfl : oe' = oe := Option.some.inj (hoe'.symm.trans hoe)
    obtain rfl : de' = de := Option.some.inj (hde'.symm.trans hde)
    have hwe : ∀ ts, Region.wanted oe' (yielded l.toArray ts) = true := fun ts => by unfold Region.wanted; rw [hge]
    obtain ⟨_, o1, ho1, haft⟩ := mem_ready.1 hre
    obtain rfl : o1 = oe' := Option.some.inj (ho1.symm.trans hoe)
    have hdep : ∀ j d, j < n → waitsB o1 j = true → (l.toArray[j]?).bind (·.dst) = some d → V j w' (a'.eval (.tmp d)) := fun j dj hj hwj hdj => by
      obtain ⟨x, he, hb⟩ := Array.any_eq_true'.1 hwj
      simp only [Bool.and_eq_true, beq_iff_eq] at hb
      have h1 := haft x he hb.1
      rw [hb.2] at h1
      cases hoj : l.toArray[j]? with
      | none => rw [hoj] at hdj; cases hdj
      | some oj =>
        rw [hoj] at hdj
        exact K.held j oj dj hj hoj h1 hdj
    obtain ⟨v, hv⟩ := hpure a' w' K.new hdep
    have hY := hstep e o1 hen hoe a' w' K.new (fun t ht => by
      rw [eval_get, eval_get, K.same t fun j oj hj hoj hd' => by
        have h1 := List.all_eq_true.1 ht j (List.mem_range.2 hj)
        simp only [hoj, bne_iff_ne] at h1
        exact h1 hd']) hdep
    unfold Yields at hY
    rw [hv w'] at hY
    have hVe : V e w' v := hY.2
    have hall2 : ∀ j, j < n → (listed.setIfInBounds e true).getD j false = true := fun j hj => by
      by_cases hje : j = e
      · subst hje
        simp [Array.getD_eq_getD_getElem?, show j < listed.size by rw [inv.size]; omega]
      · rw [getD_set_ne false (fun x => hje x.symm)]
        exact hall j hj hje
    have K2 := linv_step hV K hen hoe hde hdes hdise (New.refl _) hVe
    refine ⟨fun h => absurd hre (by rw [h]; simp), fun i hi => ?_⟩
    have hie := List.all_eq_true.1 hr1 i hi
    simp only [Bool.or_eq_true, beq_iff_eq] at hie
    rcases hie with rfl | rfl
    · unfold wpOp
      simp only [hoe]
      rw [if_pos (hwe _)]
      refine .inl ?_
      unfold Oper.wp
      rw [hv w', Oper.upon_value, hde]
      exact hLall _ _ _ hall2 (inv.set hre hen) K2
    · obtain ⟨vs, hvs, hput⟩ := linv_putL ho hall2 K2
      obtain ⟨w2, hrun, hrest⟩ := htail vs w' K2.new hvs
      rw [hput] at hrun hrest
      rw [execOp_put os hsel a' (some de') v (by rintro t ⟨rfl⟩; exact hlook)] at hrun
      unfold wpOp
      simp only [hos]
      rw [if_pos (hwant _)]
      refine .inl ?_
      unfold Oper.wp
      rw [hrun, Oper.upon_skip, hod]
      show wpAny P .any l.toArray Q (l.toArray.size - i) (listed.setIfInBounds i true) a' w2
      rw [show l.toArray.size - i = (l.toArray.size - (i + 1)) + 1 by omega]
      refine ⟨fun h => (by rw [hr3] at h; cases h), fun i2 hi2 => ?_⟩
      rw [hr3] at hi2
      obtain rfl : i2 = e := by simpa using hi2
      unfold wpOp
      simp only [hoe]
      rw [if_pos (hwe _)]
      refine .inl ?_
      unfold Oper.wp
      rw [hv w2, Oper.upon_value, hde]
      have hdl : (l.drop (i + 1)).length = l.toArray.size - (i + 1) := by simp
      have hw := wpAny_of_seq (P := P) (md := .any) (ops := l.toArray) (Q' := Q) (l.drop (i + 1)) (i + 1) ((listed.setIfInBounds i true).setIfInBounds i2 true) (a'.put (some de') v) w2 (fun j => by simp [List.getElem?_drop]) (by rw [hdl]; exact hseq2) hrest
      rwa [hdl] at hw) n _ a { w with drawn := w.drawn + 1 } inv0 (h0 n) ⟨Below.drew (Below.refl _ w), rfl, rfl, fun _ _ => rfl, fun j oj d _ _ hl => by rw [getD_replicate_false] at hl; cases hl⟩
  rwa [show n + (l.toArray.size - n) = l.toArray.size by omega] at this

/-- The store, run: what becomes of the world. -/
theorem store_row_run {op : Oper} {a : Act} {w : World} (ty : TypeId) (x y : Operand) (ho : op.op = .store ty x y)
    (b : Nat) (cells : Array Value) (hx : a.eval x = .pointer (some ⟨b, 0, none⟩)) (hy : a.eval y = .agg cells)
    (ht : Thr w b cells.size) (hi : (P.info? ty).map (·.size) = some cells.size) (h1 : ∀ v ∈ cells.toList, v.oneCell' = true) :
    ∃ W, (execOp a.eval op).run P w = .ok .skip W ∧ (∀ a0, New a0 w → a0.heap.size ≤ b → New a0 W) ∧ (∀ b' o v, b' ≠ b → w.cell? ⟨b', o, none⟩ = some v → W.cell? ⟨b', o, none⟩ = some v) ∧ CellsAt W b 0 cells.toList := by
  have ht' : w.there b 0 cells.size := fun j hj => by
    obtain ⟨⟨v, hv⟩, hf⟩ := ht j hj
    rw [Nat.zero_add]
    exact ⟨by rw [hv]; rfl, hf⟩
  refine ⟨w.setCells b 0 cells.toList, ?_, fun a0 h0 hb => new_setCells h0 hb _ _, fun b' o v hne hv => by rw [World.cell?_setCells_out b _ 0 w ⟨b', o, none⟩ (fun e => absurd e hne)]; exact hv, fun j hj => ?_⟩
  · unfold execOp
    simp only [ho, hx, hy, Instr.storeAt, Instr.sureAddr, Sem.run_bind, Sem.run_pure, Result.andThen_ok, run_storeVar_mid w b 0 ty cells ht' hi (all_oneCell_toArray h1)]
  · have := World.rangeAt_setCells_same w b 0 cells.toList (by simpa using ht')
    exact this j _ (List.getElem?_eq_getElem hj)

end
end Go.Proofs.YtgoggogcbjfofaaDoor
