import Derived.Test.YtonngfogbnfbnaaGreatLoose
import Derived.Test.YtonngfogbnfbnaaGreatSoSZ8
import Derived.Test.YtonngfogbnfbnaaGreatSoAAZ8

/- The same, where one operation (an extraction: number e) may also come behind the store (number n) that waits for all the others. No function of the program in sight. -/
namespace Go.Proofs.YtonngfogbnfbnaaGreat
open Go.RowKit
set_option linter.unusedVariables false

section
variable {P : Program} {ops : Array Oper} {W : World} {n e : Nat}

def sinkE (ops : Array Oper) (n e : Nat) : Bool :=
  (List.range n).all fun i => i == e || (List.range (n + 1)).any fun j => decide (i < j) && j != e && Region.waitsFor .any ops j i

theorem tail_waitsE {listed : Array Bool} (hs : sinkE ops n e = true) (hc : chain2B ops n = true) (hn : n < ops.size) (inv : HeadInv .any ops n listed) (i : Nat) (hi : i < n) (hie : i ≠ e) (hun : listed.getD i true = false) :
    ∀ t, n ≤ t → t ∉ Region.ready .any ops listed := by
  intro t ht hr
  obtain ⟨_, ot, hot, hall⟩ := mem_ready.1 hr
  have htlt : t < ops.size := (Array.getElem?_eq_some_iff.1 hot).1
  by_cases htn : t = n
  · subst htn
    have key : ∀ (d i : Nat), t - i = d → i < t → i ≠ e → listed.getD i true = false → False := by
      intro d
      induction d using Nat.strongRecOn with
      | _ d ih =>
        intro i hd hi hie hun
        have h1 := List.all_eq_true.1 hs i (List.mem_range.2 hi)
        simp only [Bool.or_eq_true, beq_iff_eq, hie, false_or] at h1
        obtain ⟨j, hj, hj2⟩ := List.any_eq_true.1 h1
        simp only [Bool.and_eq_true, decide_eq_true_eq, bne_iff_ne] at hj2
        obtain ⟨oj, hoj, x, he, hb, hon⟩ := Region.waitsFor_spec hj2.2
        have hjle : j ≤ t := by have := List.mem_range.1 hj; omega
        by_cases hjt : j = t
        · subst hjt
          have : oj = ot := Option.some.inj (hoj.symm.trans hot)
          subst this
          have h2 := hall x he hb
          rw [hon, getD_both hun] at h2
          cases h2
        · cases hl : listed.getD j false with
          | true =>
            have h2 := inv.closed j oj hoj hl x he hb
            rw [hon, getD_both hun] at h2
            cases h2
          | false =>
            have hjs : j < listed.size := by rw [inv.size]; omega
            exact ih (t - j) (by omega) j rfl (by omega) hj2.1.2 (getD_in hjs hl)
    exact key _ i rfl hi hie hun
  · have h1 := List.all_eq_true.1 hc t (List.mem_range.2 htlt)
    simp only [Bool.or_eq_true, decide_eq_true_eq] at h1
    rcases h1 with h1 | h1
    · omega
    · obtain ⟨j, hj, hj2⟩ := List.any_eq_true.1 h1
      simp only [Bool.and_eq_true, decide_eq_true_eq] at hj2
      have hjt := List.mem_range.1 hj
      obtain ⟨o', ho', x, he, hb, hon⟩ := Region.waitsFor_spec hj2.2
      have : o' = ot := Option.some.inj (ho'.symm.trans hot)
      subst this
      have h2 := hall x he hb
      rw [hon, getD_both (inv.tail j hj2.1 (by omega))] at h2
      cases h2

/-- What the text's order gives of an operation's step, on the invariant. -/
theorem linv_step {V : Nat → World → Value → Prop} {a a' : Act} {listed : Array Bool} {w' w'' : World} {i d : Nat} {o : Oper} {v : Value} (hV : ∀ i w w' v, V i w v → New w w' → V i w' v) (K : LInv ops W n V a listed a' w') (hin : i < n) (hoi : ops[i]? = some o) (hd : o.dst = some d) (hds : d < a.tmps.size)
    (hdis : ∀ k o', k < n → k ≠ i → ops[k]? = some o' → o'.dst ≠ some d) (hn : New w' w'') (hv : V i w'' v) : LInv ops W n V a (listed.setIfInBounds i true) (a'.put (some d) v) w'' := by
  refine ⟨K.new.trans hn, by rw [put_def]; exact K.defs, by rw [put_size]; exact K.size, fun s h => ?_, fun j oj dj hj hoj hl hdj => ?_⟩
  · rw [put_get_ne (by rintro _ ⟨rfl⟩ x; subst x; exact h i o hin hoi hd)]
    exact K.same s h
  · by_cases hji : j = i
    · subst hji
      obtain rfl : oj = o := Option.some.inj (hoj.symm.trans hoi)
      obtain rfl : dj = d := Option.some.inj (hdj.symm.trans hd)
      rw [eval_get, put_get_eq (by rw [K.size]; exact hds)]
      exact hv
    · rw [getD_set_ne false (fun x => hji x.symm)] at hl
      have h1 := hdis j oj hj hji hoj
      rw [eval_get, put_get_ne (by rintro _ ⟨rfl⟩ x; subst x; exact h1 hdj), ← eval_get]
      exact hV _ _ _ _ (K.held j oj dj hj hoj hl hdj) hn

/-- All listed: the frame is the text's, with values of which all is true that was told. -/
theorem linv_putL {l : List Oper} {V : Nat → World → Value → Prop} {a a' : Act} {listed : Array Bool} {w' : World} (ho : ∀ j, j < n → opB l.toArray n a.tmps.size j = true) (hall : ∀ j, j < n → listed.getD j false = true) (K : LInv l.toArray W n V a listed a' w') :
    ∃ vs : Nat → Value, (∀ j, j < n → V j w' (vs j)) ∧ putL (l.take n) vs 0 a = a' := by
  refine ⟨fun j => a'.eval (.tmp (((l.toArray[j]?).bind (·.dst)).getD 0)), fun j hj => ?_, ?_⟩
  · obtain ⟨o, d, hoj, _, hd, _⟩ := opB_spec (ho j hj)
    have := K.held j o d hj hoj (hall j hj) hd
    show V j w' (a'.eval (.tmp (((l.toArray[j]?).bind (·.dst)).getD 0)))
    rw [hoj]
    show V j w' (a'.eval (.tmp (o.dst.getD 0)))
    rw [hd]
    exact this
  · have hta : ∀ i o, (l.take n)[i]? = some o → i < n ∧ l.toArray[i]? = some o := fun i o h => by
      have h1 : i < (l.take n).length := (List.getElem?_eq_some_iff.1 h).1
      have h2 : i < n := by simp at h1; omega
      rw [List.getElem?_take, if_pos h2] at h
      exact ⟨h2, by simpa using h⟩
    refine act_eq (by rw [putL_def, K.defs]) fun s => ?_
    by_cases hw : ∃ j oj, j < n ∧ l.toArray[j]? = some oj ∧ oj.dst = some s
    · obtain ⟨j, oj, hj, hoj, hd⟩ := hw
      obtain ⟨o, d, hoj', _, hd', hds, hdis, _⟩ := opB_spec (ho j hj)
      obtain rfl : oj = o := Option.some.inj (hoj.symm.trans hoj')
      obtain rfl : s = d := Option.some.inj (hd.symm.trans hd')
      rw [putL_some (l.take n) _ 0 a j oj (by rw [List.getElem?_take, if_pos hj]; simpa using hoj) hd hds fun i o' hi hij hd2 => hdis i o' (hta i o' hi).1 hij (hta i o' hi).2 hd2]
      rw [Nat.zero_add, hoj]
      show some (a'.eval (.tmp ((oj.dst).getD 0))) = _
      rw [hd]
      show some (a'.eval (.tmp s)) = _
      rw [eval_get, Array.getElem?_eq_getElem (by rw [K.size]; exact hds)]
      rfl
    · rw [putL_none _ _ _ _ fun o ho' hd => by
        obtain ⟨i, hi, he⟩ := List.getElem_of_mem ho'
        have := hta i o (by rw [List.getElem?_eq_getElem hi, he])
        exact hw ⟨i, o, this.1, this.2, hd⟩]
      exact (K.same s fun j oj hj hoj hd => hw ⟨j, oj, hj, hoj, hd⟩).symm

/-- The operations' loop, but for the end. -/
theorem wpAny_looseE {V : Nat → World → Value → Prop} {a : Act} {Q : Exit → Act → World → Prop} {g : Nat} (he : e < n) (hs : sinkE ops n e = true) (hc : chain2B ops n = true) (hlt : n < ops.size) (ho : ∀ j, j < n → opB ops n a.tmps.size j = true)
    (hV : ∀ i w w' v, V i w v → New w w' → V i w' v)
    (hstep : ∀ i o, i < n → ops[i]? = some o → ∀ a' w', New W w' → (∀ t, restsB ops n t = true → a'.eval (.tmp t) = a.eval (.tmp t)) → (∀ j d, j < n → waitsB o j = true → (ops[j]?).bind (·.dst) = some d → V j w' (a'.eval (.tmp d))) → Yields P o a' w' fun v w'' => New w' w'' ∧ V i w'' v)
    (hL : ∀ listed a' w', (∀ j, j < n → listed.getD j false = true) → HeadInv .any ops n listed → LInv ops W n V a listed a' w' → wpAny P .any ops Q g listed a' w')
    (hE : ∀ listed a' w', (∀ j, j < n → j ≠ e → listed.getD j false = true) → listed.getD e false = false → HeadInv .any ops n listed → LInv ops W n V a listed a' w' → wpAny P .any ops Q (g + 1) listed a' w') :
    ∀ (f : Nat) (listed : Array Bool) (a' : Act) (w' : World), HeadInv .any ops n listed → toCome listed n = f → LInv ops W n V a listed a' w' → wpAny P .any ops Q (f + g) listed a' w'
  | 0, listed, a', w', inv, hf, K => by rw [Nat.zero_add]; exact hL _ _ _ (toCome_zero n hf) inv K
  | f + 1, listed, a', w', inv, hf, K => by
    by_cases hH : ∃ i, i < n ∧ i ≠ e ∧ listed.getD i false = false
    rotate_left
    · have hall : ∀ j, j < n → j ≠ e → listed.getD j false = true := fun j hj hje => by
        cases h : listed.getD j false with
        | true => rfl
        | false => exact absurd ⟨j, hj, hje, h⟩ hH
      obtain ⟨i0, hi0, hf0⟩ := toCome_some (listed := listed) n (by omega)
      have h0e : i0 = e := by
        by_cases h : i0 = e
        · exact h
        · rw [hall i0 hi0 h] at hf0; cases hf0
      subst h0e
      have hse := toCome_set (i := i0) (listed := listed) (by rw [inv.size]; omega) hf0 n hi0
      have hz : toCome (listed.setIfInBounds i0 true) n = 0 := by
        rcases Nat.eq_zero_or_pos (toCome (listed.setIfInBounds i0 true) n) with q | q
        · exact q
        · obtain ⟨j, hj, hjf⟩ := toCome_some n q
          by_cases hji : j = i0
          · subst hji
            have : (listed.setIfInBounds j true).getD j false = true := by simp [Array.getD_eq_getD_getElem?, show j < listed.size by rw [inv.size]; omega]
            rw [this] at hjf; cases hjf
          · rw [getD_set_ne false (fun x => hji x.symm), hall j hj hji] at hjf; cases hjf
      have hf1 : f = 0 := by omega
      subst hf1
      rw [show 0 + 1 + g = g + 1 by omega]
      exact hE _ _ _ hall hf0 inv K
    obtain ⟨ih, hih1, hih2, hih3⟩ := hH
    rw [show f + 1 + g = (f + g) + 1 by omega]
    obtain ⟨i0, hi0, hm0⟩ := exists_least (toCome_some n (by omega : 0 < toCome listed n))
    obtain ⟨o0, d0, ho0, _, _, _, _, haf⟩ := opB_spec (ho i0 hi0.1)
    have hsz : i0 < listed.size := by rw [inv.size]; omega
    have hr0 : i0 ∈ Region.ready .any ops listed := mem_ready.2 ⟨getD_in hsz hi0.2, o0, ho0, fun x he hb => by
      have h1 := haf x he hb
      cases hl : listed.getD x.on false with
      | true => rfl
      | false => have := hm0 x.on ⟨by omega, hl⟩; omega⟩
    refine ⟨fun h0 => absurd hr0 (by rw [h0]; simp), fun i hi => ?_⟩
    have hin : i < n := Nat.lt_of_not_le fun h => tail_waitsE hs hc hlt inv ih hih1 hih2 (getD_in (by rw [inv.size]; omega) hih3) i h hi
    obtain ⟨hun, o', ho', hall⟩ := mem_ready.1 hi
    obtain ⟨o, d, hoi, hg, hd, hds, hdis, _⟩ := opB_spec (ho i hin)
    obtain rfl : o' = o := Option.some.inj (ho'.symm.trans hoi)
    unfold wpOp
    simp only [hoi]
    have hw : Region.wanted o' (yielded ops a'.tmps) = true := by unfold Region.wanted; rw [hg]
    rw [if_pos hw]
    refine .inl (yields_wp (hstep i o' hin hoi a' w' K.new (fun t ht => ?_) (fun j dj hj hwj hdj => ?_)) fun v w'' ⟨hn, hv⟩ => ?_)
    · rw [eval_get, eval_get, K.same t fun j oj hj hoj hd' => by
        have h1 := List.all_eq_true.1 ht j (List.mem_range.2 hj)
        simp only [hoj, bne_iff_ne] at h1
        exact h1 hd']
    · obtain ⟨x, he, hb⟩ := Array.any_eq_true'.1 hwj
      simp only [Bool.and_eq_true, beq_iff_eq] at hb
      have h1 := hall x he hb.1
      rw [hb.2] at h1
      cases hoj : ops[j]? with
      | none => rw [hoj] at hdj; cases hdj
      | some oj =>
        rw [hoj] at hdj
        exact K.held j oj dj hj hoj h1 hdj
    · rw [hd]
      exact wpAny_looseE he hs hc hlt ho hV hstep hL hE f _ _ _ (inv.set hi hin) (by have := toCome_set (by rw [inv.size]; omega) (getD_both hun) n hin; omega) (linv_step hV K hin hoi hd hds hdis hn hv)

def looseE (ops : Array Oper) (n e sz : Nat) : Bool :=
  sinkE ops n e && chain2B ops n && decide (n < ops.size) && decide (e < n) && (List.range n).all (opB ops n sz) && Region.seqB .any ops (ops.size - n) n (heads ops.size n) &&
  (Region.ready .any ops ((heads ops.size n).setIfInBounds e false)).all (fun j => j == e || j == n) && (Region.ready .any ops ((heads ops.size n).setIfInBounds e false)).contains e &&
  decide (Region.ready .any ops (((heads ops.size n).setIfInBounds e false).setIfInBounds n true) = [e]) && Region.seqB .any ops (ops.size - (n + 1)) (n + 1) ((((heads ops.size n).setIfInBounds e false).setIfInBounds n true).setIfInBounds e true)

theorem wp_region_loose_e {id : Nat} {Q : Exit → Act → World → Prop} {a : Act} {w : World} {l : List Oper} (n e : Nat) (V : Nat → World → Value → Prop) {oe os : Oper} {de : Nat} (hm : P.follows .mixedOrders = true) (hB : looseE l.toArray n e a.tmps.size = true)
    (hoe : l.toArray[e]? = some oe) (hde : oe.dst = some de) (hos : l.toArray[n]? = some os) (hod : os.dst = none) (hog : os.guard = none) (hlook : de ∉ os.looksAt l.toArray) (hsel : ∀ cs b, os.op ≠ .select cs b)
    (hV : ∀ i w w' v, V i w v → New w w' → V i w' v)
    (hstep : ∀ i o, i < n → l.toArray[i]? = some o → ∀ a' w', New w w' → (∀ t, restsB l.toArray n t = true → a'.eval (.tmp t) = a.eval (.tmp t)) → (∀ j d, j < n → waitsB o j = true → (l.toArray[j]?).bind (·.dst) = some d → V j w' (a'.eval (.tmp d))) → Yields P o a' w' fun v w'' => New w' w'' ∧ V i w'' v)
    (hpure : ∀ (a' : Act) (w' : World), New w w' → (∀ j d, j < n → waitsB oe j = true → (l.toArray[j]?).bind (·.dst) = some d → V j w' (a'.eval (.tmp d))) → ∃ v, ∀ W, (execOp a'.eval oe).run P W = .ok (.value v) W)
    (htail : ∀ vs w', New w w' → (∀ j, j < n → V j w' (vs j)) → ∃ w2, (execOp (putL (l.take n) vs 0 a).eval os).run P w' = .ok .skip w2 ∧ wpList P l.toArray Q (l.drop (n + 1)) (putL (l.take n) vs 0 a) w2) : (Code.region id l.toArray true).wp P Q a w := by
  simp only [looseE, Bool.and_eq_true, decide_eq_true_eq] at hB
  obtain ⟨⟨⟨⟨⟨⟨⟨⟨⟨hs, hc⟩, hlt⟩, hen⟩, hops⟩, hseq⟩, hr1⟩, hr2⟩, hr3⟩, hseq2⟩ := hB
  have ho : ∀ j, j < n → opB l.toArray n a.tmps.size j = true := fun j hj => List.all_eq_true.1 hops j (List.mem_range.2 hj)
  have hll : l.toArray.size = l.length := by simp
  have inv0 : HeadInv .any l.toArray n (Array.replicate l.toArray.size false) :=
    ⟨by simp, fun j oj _ hl => (by rw [getD_replicate_false] at hl; cases hl), fun t _ ht => getD_in (by simpa using ht) (getD_replicate_false _ _)⟩
  have h0 : ∀ k, toCome (Array.replicate l.toArray.size false) k = k := by
    intro k
    induction k with
    | zero => rfl
    | succ k ih =>
      unfold toCome
      rw [ih, getD_replicate_false]
      simp
      omega
  have hdrop : l.drop n = os :: l.drop (n + 1) := by
    have hn' : n < l.length := by omega
    rw [List.drop_eq_getElem_cons hn']
    have : l.toArray[n]? = some l[n] := by simp [hn']
    rw [this] at hos
    rw [Option.some.inj hos]
  have hwant : ∀ ts, Region.wanted os (yielded l.toArray ts) = true := fun ts => by unfold Region.wanted; rw [hog]
  have hLall : ∀ listed a' w', (∀ j, j < n → listed.getD j false = true) → HeadInv .any l.toArray n listed → LInv l.toArray w n V a listed a' w' → wpAny P .any l.toArray Q (l.toArray.size - n) listed a' w' := fun listed a' w' hall inv K => by
    have hlist : listed = heads l.toArray.size n := by
      refine Array.ext (by rw [inv.size]; simp [heads]) fun j h1 h2 => ?_
      have hj : j < l.toArray.size := by rw [← inv.size]; exact h1
      have e2 : (heads l.toArray.size n)[j] = decide (j < n) := by simp [heads]
      rw [e2]
      by_cases hjn : j < n
      · have := hall j hjn
        rw [Array.getD_eq_getD_getElem?, Array.getElem?_eq_getElem h1] at this
        simpa [hjn] using this
      · have := inv.tail j (by omega) hj
        rw [Array.getD_eq_getD_getElem?, Array.getElem?_eq_getElem h1] at this
        simpa [hjn] using this
    have hdl : (l.drop n).length = l.toArray.size - n := by simp
    obtain ⟨vs, hvs, hput⟩ := linv_putL ho hall K
    obtain ⟨w2, hrun, hrest⟩ := htail vs w' K.new hvs
    rw [hput] at hrun hrest
    have hw := wpAny_of_seq (P := P) (md := .any) (ops := l.toArray) (Q' := Q) (l.drop n) n listed a' w' (fun j => by simp [List.getElem?_drop]) (by rw [hdl, hlist]; exact hseq) (by
      rw [hdrop]
      unfold wpList
      rw [if_pos (hwant _)]
      refine .inl ?_
      unfold Oper.wp
      rw [hrun, Oper.upon_skip, hod]
      exact hrest)
    rwa [hdl] at hw
  refine wp_region_any hm ?_
  have := wpAny_looseE (P := P) (W := w) (V := V) (Q := Q) (g := l.toArray.size - n) (a := a) hen hs hc hlt ho hV hstep hLall (fun listed a' w' hall hef inv K => by
    have hlist : listed = (heads l.toArray.size n).setIfInBounds e false := by
      refine Array.ext (by rw [inv.size]; simp [heads]) fun j h1 h2 => ?_
      have hj : j < l.toArray.size := by rw [← inv.size]; exact h1
      have e2 : ((heads l.toArray.size n).setIfInBounds e false)[j] = if e = j then false else decide (j < n) := by
        rw [Array.getElem_setIfInBounds (by simpa [heads] using hj)]
        simp [heads]
      rw [e2]
      by_cases hej : e = j
      · subst hej
        rw [Array.getD_eq_getD_getElem?, Array.getElem?_eq_getElem h1] at hef
        simpa using hef
      · rw [if_neg hej]
        by_cases hjn : j < n
        · have := hall j hjn (fun x => hej x.symm)
          rw [Array.getD_eq_getD_getElem?, Array.getElem?_eq_getElem h1] at this
          simpa [hjn] using this
        · have := inv.tail j (by omega) hj
          rw [Array.getD_eq_getD_getElem?, Array.getElem?_eq_getElem h1] at this
          simpa [hjn] using this
    rw [← hlist] at hr1 hr2 hr3 hseq2
    have hre : e ∈ Region.ready .any l.toArray listed := by simpa using hr2
    obtain ⟨oe', de', hoe', hge, hde', hdes, hdise, _⟩ := opB_spec (ho e hen)
    obtain rfl : oe' = oe := Option.some.inj (hoe'.symm.trans hoe)
    obtain rfl : de' = de := Option.some.inj (hde'.symm.trans hde)
    have hwe : ∀ ts, Region.wanted oe' (yielded l.toArray ts) = true := fun ts => by unfold Region.wanted; rw [hge]
    obtain ⟨_, o1, ho1, haft⟩ := mem_ready.1 hre
    obtain rfl : o1 = oe' := Option.some.inj (ho1.symm.trans hoe)
    have hdep : ∀ j d, j < n → waitsB o1 j = true → (l.toArray[j]?).bind (·.dst) = some d → V j w' (a'.eval (.tmp d)) := fun j dj hj hwj hdj => by
      obtain ⟨x, he, hb⟩ := Array.any_eq_true'.1 hwj
      simp only [Bool.and_eq_true, beq_iff_eq] at hb
      have h1 := haft x he hb.1
      rw [hb.2] at h1
      cases hoj : l.toArray[j]? with
      | none => rw [hoj] at hdj; cases hdj
      | some oj =>
        rw [hoj] at hdj
        exact K.held j oj dj hj hoj h1 hdj
    obtain ⟨v, hv⟩ := hpure a' w' K.new hdep
    have hY := hstep e o1 hen hoe a' w' K.new (fun t ht => by
      rw [eval_get, eval_get, K.same t fun j oj hj hoj hd' => by
        have h1 := List.all_eq_true.1 ht j (List.mem_range.2 hj)
        simp only [hoj, bne_iff_ne] at h1
        exact h1 hd']) hdep
    unfold Yields at hY
    rw [hv w'] at hY
    have hVe : V e w' v := hY.2
    have hall2 : ∀ j, j < n → (listed.setIfInBounds e true).getD j false = true := fun j hj => by
      by_cases hje : j = e
      · subst hje
        simp [Array.getD_eq_getD_getElem?, show j < listed.size by rw [inv.size]; omega]
      · rw [getD_set_ne false (fun x => hje x.symm)]
        exact hall j hj hje
    have K2 := linv_step hV K hen hoe hde hdes hdise (New.refl _) hVe
    refine ⟨fun h => absurd hre (by rw [h]; simp), fun i hi => ?_⟩
    have hie := List.all_eq_true.1 hr1 i hi
    simp only [Bool.or_eq_true, beq_iff_eq] at hie
    rcases hie with rfl | rfl
    · unfold wpOp
      simp only [hoe]
      rw [if_pos (hwe _)]
      refine .inl ?_
      unfold Oper.wp
      rw [hv w', Oper.upon_value, hde]
      exact hLall _ _ _ hall2 (inv.set hre hen) K2
    · obtain ⟨vs, hvs, hput⟩ := linv_putL ho hall2 K2
      obtain ⟨w2, hrun, hrest⟩ := htail vs w' K2.new hvs
      rw [hput] at hrun hrest
      rw [execOp_put os hsel a' (some de') v (by rintro t ⟨rfl⟩; exact hlook)] at hrun
      unfold wpOp
      simp only [hos]
      rw [if_pos (hwant _)]
      refine .inl ?_
      unfold Oper.wp
      rw [hrun, Oper.upon_skip, hod]
      show wpAny P .any l.toArray Q (l.toArray.size - i) (listed.setIfInBounds i true) a' w2
      rw [show l.toArray.size - i = (l.toArray.size - (i + 1)) + 1 by omega]
      refine ⟨fun h => (by rw [hr3] at h; cases h), fun i2 hi2 => ?_⟩
      rw [hr3] at hi2
      obtain rfl : i2 = e := by simpa using hi2
      unfold wpOp
      simp only [hoe]
      rw [if_pos (hwe _)]
      refine .inl ?_
      unfold Oper.wp
      rw [hv w2, Oper.upon_value, hde]
      have hdl : (l.drop (i + 1)).length = l.toArray.size - (i + 1) := by simp
      have hw := wpAny_of_seq (P := P) (md := .any) (ops := l.toArray) (Q' := Q) (l.drop (i + 1)) (i + 1) ((listed.setIfInBounds i true).setIfInBounds i2 true) (a'.put (some de') v) w2 (fun j => by simp [List.getElem?_drop]) (by rw [hdl]; exact hseq2) hrest
      rwa [hdl] at hw) n _ a { w with drawn := w.drawn + 1 } inv0 (h0 n) ⟨Below.drew (Below.refl _ w), rfl, rfl, fun _ _ => rfl, fun j oj d _ _ hl => by rw [getD_replicate_false] at hl; cases hl⟩
  rwa [show n + (l.toArray.size - n) = l.toArray.size by omega] at this

/-- The store, run: what becomes of the world. -/
theorem store_row_run {op : Oper} {a : Act} {w : World} (ty : TypeId) (x y : Operand) (ho : op.op = .store ty x y)
    (b : Nat) (cells : Array Value) (hx : a.eval x = .pointer (some ⟨b, 0, none⟩)) (hy : a.eval y = .agg cells)
    (ht : Thr w b cells.size) (hi : (P.info? ty).map (·.size) = some cells.size) (h1 : ∀ v ∈ cells.toList, v.oneCell' = true) :
    ∃ W, (execOp a.eval op).run P w = .ok .skip W ∧ (∀ a0, New a0 w → a0.heap.size ≤ b → New a0 W) ∧ (∀ b' o v, b' ≠ b → w.cell? ⟨b', o, none⟩ = some v → W.cell? ⟨b', o, none⟩ = some v) ∧ CellsAt W b 0 cells.toList := by
  have ht' : w.there b 0 cells.size := fun j hj => by
    obtain ⟨⟨v, hv⟩, hf⟩ := ht j hj
    rw [Nat.zero_add]
    exact ⟨by rw [hv]; rfl, hf⟩
  refine ⟨w.setCells b 0 cells.toList, ?_, fun a0 h0 hb => new_setCells h0 hb _ _, fun b' o v hne hv => by rw [World.cell?_setCells_out b _ 0 w ⟨b', o, none⟩ (fun e => absurd e hne)]; exact hv, fun j hj => ?_⟩
  · unfold execOp
    simp only [ho, hx, hy, Instr.storeAt, Instr.sureAddr, Sem.run_bind, Sem.run_pure, Result.andThen_ok, run_storeVar_mid w b 0 ty cells ht' hi (all_oneCell_toArray h1)]
  · have := World.rangeAt_setCells_same w b 0 cells.toList (by simpa using ht')
    exact this j _ (List.getElem?_eq_getElem hj)

end
end Go.Proofs.YtonngfogbnfbnaaGreat

/- Package soup: the laws' first look. -/
namespace Go.Proofs.YtonngfogbnfbnaaGreat
open Go.RowKit
set_option linter.unusedVariables false

theorem row_of_cells {α : Type} {enc : α → List Value} {k : Nat} (hk : ∀ a, (enc a).length = k) {w : World} {b : Nat} {l : List α} (h : CellsAt w b 0 (l.flatMap enc)) : RowAt enc k w b 0 l := fun j hj i hi => by
  have hik : i < k := by rw [← hk l[j]]; exact hi
  have hlt : j * k + i < (l.flatMap enc).length := by
    rw [flatMap_len hk]
    have := Nat.mul_le_mul_right k (show j + 1 ≤ l.length from hj)
    rw [Nat.add_mul] at this
    omega
  have h1 := h (j * k + i) hlt
  have h2 := flatMap_get hk l j hj i hik
  rw [List.getElem?_eq_getElem hlt, List.getElem?_eq_getElem hi] at h2
  rw [show 0 + j * k + i = 0 + (j * k + i) by omega, h1, Option.some.inj h2]

theorem w_list2 : TriR.listB cfg0 [one0 1, one0 5] = true := by kernel_rfl
theorem w_list3 : TriR.listB cfg0 [one0 1, one0 3, one0 5] = true := by kernel_rfl
theorem w_may : (one0 3).may cfg0 = true := by kernel_rfl
theorem w_err {S : SoupV} (h : TriR.listB cfg0 S.ts = true) (hb : S.bs = []) (hh : S.hs = []) : S.err cfg0 = 0 := SoupV.err_mk ⟨by kernel_rfl, h, by rw [hb]; kernel_rfl, by rw [hh]; kernel_rfl⟩
theorem w_place2 : TriR.Place [one0 1, one0 5] 3 1 := by
  refine ⟨by simp, fun j hj h => ?_, fun j hj h => ?_⟩
  · obtain rfl : j = 0 := by omega
    show (1 : Int) < 3
    omega
  · obtain rfl : j = 1 := by simp at hj; omega
    show (3 : Int) ≤ 5
    omega
theorem w_place3 : TriR.Place [one0 1, one0 3, one0 5] 3 1 := by
  refine ⟨by simp, fun j hj h => ?_, fun j hj h => ?_⟩
  · obtain rfl : j = 0 := by omega
    show (1 : Int) < 3
    omega
  · have hj' : j = 1 ∨ j = 2 := by simp at hj; omega
    rcases hj' with rfl | rfl
    · show (3 : Int) ≤ 3
      omega
    · show (3 : Int) ≤ 5
      omega

theorem w_first (S : SoupV) (w : World) (hS : S.ok w) (ht : S.ts = [one0 1, one0 5]) (hb : S.bs = []) (hh : S.hs = []) :
    Calls Tryz.prog 18 #[.agg #[.int .i64 0, .int .i64 1, .int .i64 3, .int .i64 1, .int .i64 1, .int .i64 8, .int .i64 8], .agg #[.slice S.a0 S.ts.length S.c0, .slice S.a1 S.bs.length S.c1, .slice S.a2 S.hs.length S.c2], .agg #[.int .i64 3, .int .i64 0, .int .i64 0, .int .i64 0, .int .i64 2, .int .i64 0, .int .i64 0, .int .i64 0, .int .i64 0, .int .i64 2]] w (SoupE [one0 1, one0 3, one0 5] [] [] 0 w) := by
  have h := t_Add cfg0 S (one0 3) 0 (S.ts.take 1 ++ [one0 3] ++ S.ts.drop 1) S.bs S.hs w fun W n => t_add_ok cfg0 S (one0 3) W (hS.keep n) (w_err (by rw [ht]; exact w_list2) hb hh) w_may (by rw [ht]; simp) (by rw [hb]; simp) (by rw [hh]; simp) 1 (by rw [ht]; exact w_place2) (by rw [ht]; kernel_rfl) (by rw [ht]; simp)
  have e : S.ts.take 1 ++ [one0 3] ++ S.ts.drop 1 = [one0 1, one0 3, one0 5] := by rw [ht]; rfl
  rw [e, hb, hh] at h
  rw [hb, hh]
  exact h
theorem w_second (S : SoupV) (w : World) (hS : S.ok w) (ht : S.ts = [one0 1, one0 3, one0 5]) (hb : S.bs = []) (hh : S.hs = []) :
    Calls Tryz.prog 18 #[.agg #[.int .i64 0, .int .i64 1, .int .i64 3, .int .i64 1, .int .i64 1, .int .i64 8, .int .i64 8], .agg #[.slice S.a0 S.ts.length S.c0, .slice S.a1 S.bs.length S.c1, .slice S.a2 S.hs.length S.c2], .agg #[.int .i64 3, .int .i64 0, .int .i64 0, .int .i64 0, .int .i64 2, .int .i64 0, .int .i64 0, .int .i64 0, .int .i64 0, .int .i64 2]] w (SoupE [] [] [] 50 w) :=
  t_Add cfg0 S (one0 3) 50 [] [] [] w fun W n => t_add_twice cfg0 S (one0 3) W (hS.keep n) (w_err (by rw [ht]; exact w_list3) hb hh) w_may (by rw [ht]; simp) 1 (by rw [ht]; exact w_place3) (by rw [ht]; kernel_rfl)

def wkV (S : SoupV) (b : Nat) : Nat → World → Value → Prop
  | 0, _, v => v = .agg #[.int .i64 0, .int .i64 1, .int .i64 3, .int .i64 1, .int .i64 1, .int .i64 8, .int .i64 8]
  | 1, _, v => v = .agg #[.slice S.a0 S.ts.length S.c0, .slice S.a1 S.bs.length S.c1, .slice S.a2 S.hs.length S.c2]
  | 2, _, v => v = .agg #[.int .i64 3, .int .i64 0, .int .i64 0, .int .i64 0, .int .i64 2, .int .i64 0, .int .i64 0, .int .i64 0, .int .i64 0, .int .i64 2]
  | 3, w, v => ∃ S' : SoupV, v = .tuple #[.agg #[.slice S'.a0 S'.ts.length S'.c0, .slice S'.a1 S'.bs.length S'.c1, .slice S'.a2 S'.hs.length S'.c2], .int .i64 50]
  | 4, w, v => ∃ S' : SoupV, v = .tuple #[.agg #[.slice S'.a0 S'.ts.length S'.c0, .slice S'.a1 S'.bs.length S'.c1, .slice S'.a2 S'.hs.length S'.c2], .int .i64 50]
  | 5, w, v => ∃ S' : SoupV, v = .agg #[.slice S'.a0 S'.ts.length S'.c0, .slice S'.a1 S'.bs.length S'.c1, .slice S'.a2 S'.hs.length S'.c2]
  | 6, _, v => v = .int .i64 50
  | _, w, v => ∃ g, v = .pointer (some ⟨g, 0, none⟩) ∧ Thr w g 3 ∧ b ≤ g
theorem wkV_keep {S : SoupV} {b : Nat} : ∀ i w w' v, wkV S b i w v → New w w' → wkV S b i w' v := by
  intro i w w' v h hn
  rcases (show i = 0 ∨ i = 1 ∨ i = 2 ∨ i = 3 ∨ i = 4 ∨ i = 5 ∨ i = 6 ∨ 7 ≤ i by omega) with rfl | rfl | rfl | rfl | rfl | rfl | rfl | hi
  · exact h
  · exact h
  · exact h
  · exact h
  · exact h
  · exact h
  · exact h
  · obtain ⟨k, rfl⟩ : ∃ k, i = k + 7 := ⟨i - 7, by omega⟩
    obtain ⟨g, e, h1, h2⟩ := h
    exact ⟨g, e, h1.keep hn, h2⟩

set_option maxHeartbeats 4000000 in
set_option maxRecDepth 100000 in
theorem s_wakes (w : World) : Calls Tryz.prog 5 #[] w fun e w' => e = .returned (.bool true) ∧ New w w' := by
  have HC := Lib.hid s_config
  have HO := Lib.hid s_one
  go_enter Tryz.func5, Tryz.ntmps5
  go_wp2_with fail
  refine (HC.out _).mono ?_
  rintro e W1 ⟨rfl, hn⟩
  go_wp2_with fail
  refine (HO.out _ _).mono ?_
  rintro e W2 ⟨rfl, n1⟩
  replace hn := hn.trans n1
  clear n1
  go_wp2_with fail
  refine (HO.out _ _).mono ?_
  rintro e W3 ⟨rfl, n1⟩
  replace hn := hn.trans n1
  clear n1
  go_wp2_with fail
  generalize hW : World.alloc _ _ = W
  have hc : CellsAt W W3.heap.size 0 ([one0 1, one0 5].flatMap TriR.enc) := by subst hW; exact cells_new _ _ _
  have n1 : New W3 W := by subst hW; (repeat (first | (with_reducible exact New.refl _) | (with_reducible assumption) | ((with_reducible refine New.setB ?_ ?_ _); focus (first | omega | (simp; omega) | (simp; done))) | (with_reducible refine New.alloc ?_ _) | (with_reducible refine New.drew ?_) | (with_reducible refine New.drewN ?_ _) | (with_reducible refine New.hat ?_ _) | ((with_reducible apply New.snart); (with_reducible assumption))))
  replace hn := hn.trans n1
  clear n1 hW
  refine (HO.out _ _).mono ?_
  rintro e W4 ⟨rfl, n1⟩
  have hrow := (row_of_cells TriR.enc_len hc).keep n1
  replace hn := hn.trans n1
  obtain ⟨S0, hS0⟩ : ∃ S0 : SoupV, S0 = ⟨[one0 1, one0 5], [], [], some ⟨W3.heap.size, 0, none⟩, none, none, 2, 0, 0⟩ := ⟨_, rfl⟩
  have ok0 : S0.ok W4 := by subst hS0; exact ⟨⟨_, _, rfl, by simp, by show 2 ≤ maxLen; unfold maxLen; omega, fun h => (by cases h), fun _ => ⟨_, _, rfl, hrow⟩⟩, Sl.nil, Sl.nil⟩
  have H1 := Lib.hid (w_first S0 W4 ok0 (by subst hS0; rfl) (by subst hS0; rfl) (by subst hS0; rfl))
  subst hS0
  clear n1 hc hrow ok0
  go_wp2_with fail
  refine H1.out.mono ?_
  clear H1
  rintro e W5 ⟨⟨ts, bs, hs, a0, a1, a2, c0, c1, c2⟩, rfl, ok1, ht, hb, hh, -, n1⟩
  simp only at ht hb hh
  subst ht hb hh
  replace hn := hn.trans n1
  clear n1
  have OK := Lib.hid ok1
  obtain ⟨b, off, e0, hA⟩ := ok1.t.row.2.2.2.2 (by simp)
  simp only at e0
  subst e0
  have r3 := (TriR.cells hA 1 (by simp)).1
  clear ok1 hA
  go_upto_region 2 with fail
  generalize hZ : World.alloc _ _ = Z
  have nz : New W5 Z := by subst hZ; (repeat (first | (with_reducible exact New.refl _) | (with_reducible assumption) | ((with_reducible refine New.setB ?_ ?_ _); focus (first | omega | (simp; omega) | (simp; done))) | (with_reducible refine New.alloc ?_ _) | (with_reducible refine New.drew ?_) | (with_reducible refine New.drewN ?_ _) | (with_reducible refine New.hat ?_ _) | ((with_reducible apply New.snart); (with_reducible assumption))))
  have q0 : Z.cell? ⟨W5.heap.size, 0, none⟩ = some (.slice (some ⟨b, off, none⟩) 3 c0) := by subst hZ; go_simp
  have q1 : Z.cell? ⟨W5.heap.size, 1, none⟩ = some (.slice a1 0 c1) := by subst hZ; go_simp
  have q2 : Z.cell? ⟨W5.heap.size, 2, none⟩ = some (.slice a2 0 c2) := by subst hZ; go_simp
  replace r3 := nz.keep r3
  replace hn := hn.trans nz
  replace OK := Lib.hid (OK.out.keep nz)
  clear hZ nz
  refine wp_region_loose_e 8 6 (wkV ⟨[one0 1, one0 3, one0 5], [], [], some ⟨b, off, none⟩, a1, a2, c0, c1, c2⟩ Z.heap.size) (by kernel_rfl) (by kernel_rfl) rfl rfl rfl rfl rfl (by decide) (fun _ _ h => by cases h) wkV_keep ?_ ?_ ?_
  · intro i o hi ho a' w' nn hr hd
    rcases (show i = 0 ∨ i = 1 ∨ i = 2 ∨ i = 3 ∨ i = 4 ∨ i = 5 ∨ i = 6 ∨ i = 7 by omega) with rfl | rfl | rfl | rfl | rfl | rfl | rfl | rfl <;> obtain rfl := Option.some.inj ho
    · exact yields_enter 19 #[] (by go_simp) ((HC.out _).mono fun e w'' ⟨he, hn⟩ => ⟨_, he, hn, rfl⟩)
    · have r : (a'.tmps[1]?).getD undef = .pointer (some ⟨W5.heap.size, 0, none⟩) := (eval_get a' 1).symm.trans (hr 1 (by kernel_rfl))
      replace q0 := nn.keep q0
      replace q1 := nn.keep q1
      replace q2 := nn.keep q2
      exact yields_value (.agg #[.slice (some ⟨b, off, none⟩) 3 c0, .slice a1 0 c1, .slice a2 0 c2]) (by go_simp) ⟨New.refl _, rfl⟩
    · exact yields_enter 20 #[.int .i64 3] (by go_simp) ((HO.out _ _).mono fun e w'' ⟨he, hn⟩ => ⟨_, he, hn, rfl⟩)
    · have e0 : a'.eval (.tmp 16) = .agg #[.int .i64 0, .int .i64 1, .int .i64 3, .int .i64 1, .int .i64 1, .int .i64 8, .int .i64 8] := hd 0 16 (by omega) (by kernel_rfl) (by kernel_rfl)
      have e1 : a'.eval (.tmp 17) = .agg #[.slice (some ⟨b, off, none⟩) 3 c0, .slice a1 0 c1, .slice a2 0 c2] := hd 1 17 (by omega) (by kernel_rfl) (by kernel_rfl)
      have e2 : a'.eval (.tmp 18) = .agg #[.int .i64 3, .int .i64 0, .int .i64 0, .int .i64 0, .int .i64 2, .int .i64 0, .int .i64 0, .int .i64 0, .int .i64 0, .int .i64 2] := hd 2 18 (by omega) (by kernel_rfl) (by kernel_rfl)
      have r0 : (a'.tmps[16]?).getD undef = _ := (eval_get a' 16).symm.trans e0
      have r1 : (a'.tmps[17]?).getD undef = _ := (eval_get a' 17).symm.trans e1
      have r2 : (a'.tmps[18]?).getD undef = _ := (eval_get a' 18).symm.trans e2
      refine yields_enter 18 #[.agg #[.int .i64 0, .int .i64 1, .int .i64 3, .int .i64 1, .int .i64 1, .int .i64 8, .int .i64 8], .agg #[.slice (some ⟨b, off, none⟩) 3 c0, .slice a1 0 c1, .slice a2 0 c2], .agg #[.int .i64 3, .int .i64 0, .int .i64 0, .int .i64 0, .int .i64 2, .int .i64 0, .int .i64 0, .int .i64 0, .int .i64 0, .int .i64 2]] (by go_simp) ((w_second _ w' (OK.out.keep nn) rfl rfl rfl).mono ?_)
      rintro e w'' ⟨S', he, -, -, -, -, -, h6⟩
      exact ⟨_, he, h6, S', rfl⟩
    · obtain ⟨S', e3⟩ : ∃ S' : SoupV, a'.eval (.tmp 19) = .tuple #[.agg #[.slice S'.a0 S'.ts.length S'.c0, .slice S'.a1 S'.bs.length S'.c1, .slice S'.a2 S'.hs.length S'.c2], .int .i64 50] := hd 3 19 (by omega) (by kernel_rfl) (by kernel_rfl)
      have r : (a'.tmps[19]?).getD undef = _ := (eval_get a' 19).symm.trans e3
      exact yields_value (.tuple #[.agg #[.slice S'.a0 S'.ts.length S'.c0, .slice S'.a1 S'.bs.length S'.c1, .slice S'.a2 S'.hs.length S'.c2], .int .i64 50]) (by go_simp) ⟨New.refl _, S', rfl⟩
    · obtain ⟨S', e3⟩ : ∃ S' : SoupV, a'.eval (.tmp 15) = .tuple #[.agg #[.slice S'.a0 S'.ts.length S'.c0, .slice S'.a1 S'.bs.length S'.c1, .slice S'.a2 S'.hs.length S'.c2], .int .i64 50] := hd 4 15 (by omega) (by kernel_rfl) (by kernel_rfl)
      have r : (a'.tmps[15]?).getD undef = _ := (eval_get a' 15).symm.trans e3
      exact yields_value (.agg #[.slice S'.a0 S'.ts.length S'.c0, .slice S'.a1 S'.bs.length S'.c1, .slice S'.a2 S'.hs.length S'.c2]) (by go_simp) ⟨New.refl _, S', rfl⟩
    · obtain ⟨S', e3⟩ : ∃ S' : SoupV, a'.eval (.tmp 15) = .tuple #[.agg #[.slice S'.a0 S'.ts.length S'.c0, .slice S'.a1 S'.bs.length S'.c1, .slice S'.a2 S'.hs.length S'.c2], .int .i64 50] := hd 4 15 (by omega) (by kernel_rfl) (by kernel_rfl)
      have r : (a'.tmps[15]?).getD undef = _ := (eval_get a' 15).symm.trans e3
      exact yields_value (.int .i64 50) (by go_simp) ⟨New.refl _, rfl⟩
    · exact yields_value (w' := w'.alloc (.cells #[.slice none 0 0, .slice none 0 0, .slice none 0 0] 28)) (.pointer (some ⟨w'.heap.size, 0, none⟩)) (by go_simp) ⟨(New.refl _).alloc _, _, rfl, Thr.new _ _ _ _ rfl, nn.size⟩
  · intro a' w' nn hd
    obtain ⟨S', e3⟩ : ∃ S' : SoupV, a'.eval (.tmp 15) = .tuple #[.agg #[.slice S'.a0 S'.ts.length S'.c0, .slice S'.a1 S'.bs.length S'.c1, .slice S'.a2 S'.hs.length S'.c2], .int .i64 50] := hd 4 15 (by omega) (by kernel_rfl) (by kernel_rfl)
    have r : (a'.tmps[15]?).getD undef = _ := (eval_get a' 15).symm.trans e3
    exact ⟨.int .i64 50, fun W => by go_simp⟩
  · intro vs w' nn hv
    obtain ⟨S', e5⟩ : ∃ S' : SoupV, vs 5 = .agg #[.slice S'.a0 S'.ts.length S'.c0, .slice S'.a1 S'.bs.length S'.c1, .slice S'.a2 S'.hs.length S'.c2] := hv 5 (by omega)
    obtain ⟨S2, e4⟩ : ∃ S' : SoupV, vs 4 = .tuple #[.agg #[.slice S'.a0 S'.ts.length S'.c0, .slice S'.a1 S'.bs.length S'.c1, .slice S'.a2 S'.hs.length S'.c2], .int .i64 50] := hv 4 (by omega)
    have e6 : vs 6 = .int .i64 50 := hv 6 (by omega)
    obtain ⟨g, e7, fz, hg⟩ : ∃ g, vs 7 = .pointer (some ⟨g, 0, none⟩) ∧ Thr w' g 3 ∧ Z.heap.size ≤ g := hv 7 (by omega)
    simp only [List.take_succ_cons, List.take_zero, List.drop_succ_cons, List.drop_zero, putL, Act.put, List.setIfInBounds_toArray, List.set_cons_zero, List.set_cons_succ, Nat.reduceAdd, Nat.zero_add]
    rw [e5, e6, e7, e4]
    have key : ∀ (op : Oper) (a : Act), op.op = .store 28 (.tmp 3) (.tmp 20) → a.eval (.tmp 3) = .pointer (some ⟨g, 0, none⟩) → a.eval (.tmp 20) = .agg #[.slice S'.a0 S'.ts.length S'.c0, .slice S'.a1 S'.bs.length S'.c1, .slice S'.a2 S'.hs.length S'.c2] → ∃ W, (execOp a.eval op).run Tryz.prog w' = .ok .skip W ∧ New Z W := fun op a ho hx hy => by
      obtain ⟨Y, hrun, nY, -, -⟩ := store_row_run (P := Tryz.prog) (w := w') 28 _ _ ho g #[.slice S'.a0 S'.ts.length S'.c0, .slice S'.a1 S'.bs.length S'.c1, .slice S'.a2 S'.hs.length S'.c2] hx hy fz (by kernel_rfl) (by intro v hv; simp at hv; rcases hv with rfl | rfl | rfl <;> rfl)
      exact ⟨Y, hrun, nY _ nn hg⟩
    refine Exists.elim (key _ _ ?_ ?_ ?_) (fun Y hY => ⟨Y, hY.1, ?_⟩)
    · rfl
    · rfl
    · rfl
    have nz := hY.2
    have p0 := nz.keep q0
    have p3 := nz.keep r3
    have hY' := hn.trans nz
    clear hv e4 e5 e6 e7 OK HC HO hY q0 q1 q2 r3 nz key
    go_wp2_with fail
    go_ret
    exact ⟨rfl, hY'⟩

end Go.Proofs.YtonngfogbnfbnaaGreat
