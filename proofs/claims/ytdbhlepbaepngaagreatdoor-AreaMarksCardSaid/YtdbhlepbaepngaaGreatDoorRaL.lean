/- A statement whose order is open, within a fence (in a round of a range over a function, too): XLoose's rule for operations that call no Go function. No function of the program in sight. -/
import Derived.Test.YtdbhlepbaepngaaGreatDoorLoose
import Derived.OrdersIn
import Derived.TacticsIn
import Derived.TacticsInMore
namespace Go.Proofs.YtdbhlepbaepngaaGreatDoor
open Go.RowKit
set_option linter.unusedVariables false

section
variable {F : Fence} {nF : Nat} {P : Program} {ops : Array Oper} {n : Nat}

/-- Operations that call no Go function. -/
def still (o : Oper) : Bool :=
  match o.op with
  | .move _ | .assign _ | .pick _ _ _ | .load _ _ | .binOp _ _ _ _ _ | .indexAddr _ _ _ | .buildSlice _ _ _ | .fieldAddr _ _ _ | .build _ _ | .unOp _ _ _ => true
  | .call c => match c.callee with
    | .builtin .len => true
    | .builtin .append => true
    | _ => false
  | _ => false

theorem still_about {o : Oper} (hp : still o = true) (ρ : Operand → Value) (w : World) : o.about P w ρ = none := by
  unfold still at hp
  unfold Oper.about
  split at hp <;> rename_i ho <;> simp only [ho]
  · split at hp
    · rename_i hc
      simp [resolve, hc, Target.leads]
    · rename_i hc
      simp [resolve, hc, Target.leads]
    · cases hp
theorem still_defer {o : Oper} (hp : still o = true) : ∀ c, o.op ≠ .defer c := fun c e => by
  unfold still at hp
  rw [e] at hp
  cases hp
theorem still_sem {o : Oper} (hp : still o = true) (r : Option Nat) (ρ : Operand → Value) : Oper.semAt r ρ o = execOp ρ o := by
  cases r with
  | none => rfl
  | some l => exact Oper.semAt_some l ρ o (still_defer hp)

/-- What an operation comes to that calls nothing. -/
def YieldsV (P : Program) (o : Oper) (a : Act) (w : World) (R : Value → World → Prop) : Prop := ∃ v w', (execOp a.eval o).run P w = .ok (.value v) w' ∧ R v w'

theorem yieldsV_wpIn {o : Oper} (hp : still o = true) {a : Act} {w : World} {R : Value → World → Prop} {K : Act → World → Prop} {Q : Exit → Act → World → Prop} (h : YieldsV P o a w R) (hK : ∀ v w', R v w' → K (a.put o.dst v) w') : o.wpIn F nF P a w K Q := by
  obtain ⟨v, w', h1, h2⟩ := h
  unfold Oper.wpIn
  refine ⟨fun f hf => (by rw [still_about hp] at hf; cases hf), ?_⟩
  rw [still_sem hp, h1, Oper.uponIn_value]
  exact hK _ _ h2

theorem wpAnyIn_of_seq {md : Region.Mode} {Q' : Exit → Act → World → Prop} : ∀ (l : List Oper) (k : Nat) (listed : Array Bool) (a : Act) (w : World), (∀ j, l[j]? = ops[k + j]?) →
    Region.seqB md ops l.length k listed = true → wpListIn F nF P ops Q' l a w → wpAnyIn F nF P md ops Q' l.length listed a w
  | [], _, _, _, _, _, hB, h => ⟨by simpa [Region.seqB] using hB, h⟩
  | o :: l, k, listed, a, w, hl, hB, h => by
    have h0 : ops[k]? = some o := by simpa using (hl 0).symm
    simp only [List.length_cons, Region.seqB, Bool.and_eq_true, decide_eq_true_eq] at hB
    refine ⟨fun h1 => (by rw [hB.1] at h1; cases h1), fun i hi => ?_⟩
    rw [hB.1] at hi
    have hik : i = k := by simpa using hi
    subst hik
    have hw : wpOpIn F nF P ops Q' i (wpListIn F nF P ops Q' l) a w := by unfold wpOpIn; simp only [h0]; exact h
    exact wpOpIn_mono (fun a' w' h' => wpAnyIn_of_seq l (i + 1) _ a' w' (fun j => by have := hl (j + 1); simpa [Nat.add_assoc, Nat.add_comm 1 j] using this) hB.2 h') hw

structure LInvK (ops : Array Oper) (n : Nat) (V : Nat → World → Value → Prop) (a : Act) (listed : Array Bool) (a' : Act) (w' : World) : Prop where
  defs : a'.defers = a.defers
  size : a'.tmps.size = a.tmps.size
  same : ∀ s, (∀ j oj, j < n → ops[j]? = some oj → oj.dst ≠ some s) → a'.tmps[s]? = a.tmps[s]?
  held : ∀ j oj d, j < n → ops[j]? = some oj → listed.getD j false = true → oj.dst = some d → V j w' (a'.eval (.tmp d))

theorem wpAnyIn_loose {R : Nat → World → World → Prop} {KK : Array Bool → World → Prop} {V : Nat → World → Value → Prop} {a : Act} {Q : Exit → Act → World → Prop} {g : Nat} (hs : Region.sinkB .any ops n = true) (hc : chain2B ops n = true) (hlt : n < ops.size) (ho : ∀ j, j < n → opB ops n a.tmps.size j = true)
    (hst : ∀ i o, i < n → ops[i]? = some o → still o = true)
    (hV : ∀ i j w w' v, i ≠ j → V i w v → R j w w' → V i w' v)
    (hKK : ∀ listed j w w', j < n → j < listed.size → KK listed w → R j w w' → KK (listed.setIfInBounds j true) w')
    (hstep : ∀ i o listed, i < n → ops[i]? = some o → listed.getD i false = false → ∀ a' w', KK listed w' → (∀ t, restsB ops n t = true → a'.eval (.tmp t) = a.eval (.tmp t)) → (∀ j d, j < n → waitsB o j = true → (ops[j]?).bind (·.dst) = some d → V j w' (a'.eval (.tmp d))) → YieldsV P o a' w' fun v w'' => R i w' w'' ∧ V i w'' v)
    (hL : ∀ listed a' w', (∀ j, j < n → listed.getD j false = true) → HeadInv .any ops n listed → KK listed w' → LInvK ops n V a listed a' w' → wpAnyIn F nF P .any ops Q g listed a' w') :
    ∀ (f : Nat) (listed : Array Bool) (a' : Act) (w' : World), HeadInv .any ops n listed → toCome listed n = f → KK listed w' → LInvK ops n V a listed a' w' → wpAnyIn F nF P .any ops Q (f + g) listed a' w'
  | 0, listed, a', w', inv, hf, HK, K => by rw [Nat.zero_add]; exact hL _ _ _ (toCome_zero n hf) inv HK K
  | f + 1, listed, a', w', inv, hf, HK, K => by
    rw [show f + 1 + g = (f + g) + 1 by omega]
    obtain ⟨i0, hi0, hm0⟩ := exists_least (toCome_some n (by omega : 0 < toCome listed n))
    obtain ⟨o0, d0, ho0, _, _, _, _, haf⟩ := opB_spec (ho i0 hi0.1)
    have hsz : i0 < listed.size := by rw [inv.size]; omega
    have hr0 : i0 ∈ Region.ready .any ops listed := mem_ready.2 ⟨getD_in hsz hi0.2, o0, ho0, fun e he hb => by
      have h1 := haf e he hb
      cases hl : listed.getD e.on false with
      | true => rfl
      | false => have := hm0 e.on ⟨by omega, hl⟩; omega⟩
    refine ⟨fun h0 => absurd hr0 (by rw [h0]; simp), fun i hi => ?_⟩
    have hin : i < n := Nat.lt_of_not_le fun h => tail_waits2 hs hc hlt inv i0 hi0.1 (getD_in hsz hi0.2) i h hi
    obtain ⟨hun, o', ho', hall⟩ := mem_ready.1 hi
    obtain ⟨o, d, hoi, hg, hd, hds, hdis, _⟩ := opB_spec (ho i hin)
    obtain rfl : o' = o := Option.some.inj (ho'.symm.trans hoi)
    unfold wpOpIn
    simp only [hoi]
    have hw : Region.wanted o' (yielded ops a'.tmps) = true := by unfold Region.wanted; rw [hg]
    rw [if_pos hw]
    refine yieldsV_wpIn (hst i o' hin hoi) (hstep i o' listed hin hoi (getD_both hun) a' w' HK (fun t ht => ?_) (fun j dj hj hwj hdj => ?_)) fun v w'' ⟨hn, hv⟩ => ?_
    · rw [eval_get, eval_get, K.same t fun j oj hj hoj hd' => by
        have h1 := List.all_eq_true.1 ht j (List.mem_range.2 hj)
        simp only [hoj, bne_iff_ne] at h1
        exact h1 hd']
    · obtain ⟨e, he, hb⟩ := Array.any_eq_true'.1 hwj
      simp only [Bool.and_eq_true, beq_iff_eq] at hb
      have h1 := hall e he hb.1
      rw [hb.2] at h1
      cases hoj : ops[j]? with
      | none => rw [hoj] at hdj; cases hdj
      | some oj =>
        rw [hoj] at hdj
        exact K.held j oj dj hj hoj h1 hdj
    · rw [hd]
      refine wpAnyIn_loose hs hc hlt ho hst hV hKK hstep hL f _ _ _ (inv.set hi hin) (by have := toCome_set (by rw [inv.size]; omega) (getD_both hun) n hin; omega) (hKK listed i w' w'' hin (by rw [inv.size]; omega) HK hn) ⟨by rw [put_def]; exact K.defs, by rw [put_size]; exact K.size, fun s h => ?_, fun j oj dj hj hoj hl hdj => ?_⟩
      · rw [put_get_ne (by rintro _ ⟨rfl⟩ e; subst e; exact h i o' hin hoi hd)]
        exact K.same s h
      · by_cases hji : j = i
        · subst hji
          obtain rfl : oj = o' := Option.some.inj (hoj.symm.trans hoi)
          obtain rfl : dj = d := Option.some.inj (hdj.symm.trans hd)
          rw [eval_get, put_get_eq (by rw [K.size]; exact hds)]
          exact hv
        · rw [getD_set_ne false (fun e => hji e.symm)] at hl
          have h1 := hdis j oj hj hji hoj
          rw [eval_get, put_get_ne (by rintro _ ⟨rfl⟩ e; subst e; exact h1 hdj), ← eval_get]
          exact hV _ _ _ _ _ hji (K.held j oj dj hj hoj hl hdj) hn

theorem wpIn_region_loose {id : Nat} {Q : Exit → Act → World → Prop} {a : Act} {w : World} {l : List Oper} (n : Nat) (R : Nat → World → World → Prop) (KK : Array Bool → World → Prop) (V : Nat → World → Value → Prop) (hm : P.follows .mixedOrders = true) (hB : looseB l.toArray n a.tmps.size = true) (hS : (l.take n).all still = true)
    (hV : ∀ i j w w' v, i ≠ j → V i w v → R j w w' → V i w' v)
    (h0K : KK (Array.replicate l.toArray.size false) { w with drawn := w.drawn + 1 })
    (hKK : ∀ listed j w w', j < n → j < listed.size → KK listed w → R j w w' → KK (listed.setIfInBounds j true) w')
    (hstep : ∀ i o listed, i < n → l.toArray[i]? = some o → listed.getD i false = false → ∀ a' w', KK listed w' → (∀ t, restsB l.toArray n t = true → a'.eval (.tmp t) = a.eval (.tmp t)) → (∀ j d, j < n → waitsB o j = true → (l.toArray[j]?).bind (·.dst) = some d → V j w' (a'.eval (.tmp d))) → YieldsV P o a' w' fun v w'' => R i w' w'' ∧ V i w'' v)
    (htail : ∀ vs w', (∀ j, j < n → V j w' (vs j)) → wpListIn F nF P l.toArray Q (l.drop n) (putL (l.take n) vs 0 a) w') : (Code.region id l.toArray true).wpIn F nF P Q a w := by
  simp only [looseB, Bool.and_eq_true, decide_eq_true_eq] at hB
  obtain ⟨⟨⟨⟨hs, hc⟩, hlt⟩, hops⟩, hseq⟩ := hB
  have ho : ∀ j, j < n → opB l.toArray n a.tmps.size j = true := fun j hj => List.all_eq_true.1 hops j (List.mem_range.2 hj)
  have hta : ∀ i o, (l.take n)[i]? = some o → i < n ∧ l.toArray[i]? = some o := fun i o h => by
    have h1 : i < (l.take n).length := (List.getElem?_eq_some_iff.1 h).1
    have h2 : i < n := by simp at h1; omega
    rw [List.getElem?_take, if_pos h2] at h
    exact ⟨h2, by simpa using h⟩
  have hst : ∀ i o, i < n → l.toArray[i]? = some o → still o = true := fun i o hi h => by
    refine List.all_eq_true.1 hS o (List.mem_of_getElem? (i := i) ?_)
    rw [List.getElem?_take, if_pos hi]
    simpa using h
  have hll : l.toArray.size = l.length := by simp
  have inv0 : HeadInv .any l.toArray n (Array.replicate l.toArray.size false) :=
    ⟨by simp, fun j oj _ hl => (by rw [getD_replicate_false] at hl; cases hl), fun t _ ht => getD_in (by simpa using ht) (getD_replicate_false _ _)⟩
  have h0 : ∀ k, toCome (Array.replicate l.toArray.size false) k = k := by
    intro k
    induction k with
    | zero => rfl
    | succ k ih =>
      unfold toCome
      rw [ih, getD_replicate_false]
      simp
      omega
  refine wpIn_region_any hm ?_
  have := wpAnyIn_loose (F := F) (nF := nF) (P := P) (R := R) (KK := KK) (V := V) (Q := Q) (g := l.toArray.size - n) (a := a) hs hc hlt ho hst hV hKK hstep (fun listed a' w' hall inv HK K => by
    have hlist : listed = heads l.toArray.size n := by
      refine Array.ext (by rw [inv.size]; simp [heads]) fun j h1 h2 => ?_
      have hj : j < l.toArray.size := by rw [← inv.size]; exact h1
      have e2 : (heads l.toArray.size n)[j] = decide (j < n) := by simp [heads]
      rw [e2]
      by_cases hjn : j < n
      · have := hall j hjn
        rw [Array.getD_eq_getD_getElem?, Array.getElem?_eq_getElem h1] at this
        simpa [hjn] using this
      · have := inv.tail j (by omega) hj
        rw [Array.getD_eq_getD_getElem?, Array.getElem?_eq_getElem h1] at this
        simpa [hjn] using this
    have hdl : (l.drop n).length = l.toArray.size - n := by simp
    have hw := wpAnyIn_of_seq (F := F) (nF := nF) (P := P) (md := .any) (ops := l.toArray) (Q' := Q) (l.drop n) n listed a' w' (fun j => by simp [List.getElem?_drop]) (by rw [hdl, hlist]; exact hseq) (by
      have ht := htail (fun j => a'.eval (.tmp (((l.toArray[j]?).bind (·.dst)).getD 0))) w' (fun j hj => by
        obtain ⟨o, d, hoj, _, hd, _⟩ := opB_spec (ho j hj)
        have := K.held j o d hj hoj (hall j hj) hd
        simpa [hoj, hd] using this)
      have e : putL (l.take n) (fun j => a'.eval (.tmp (((l.toArray[j]?).bind (·.dst)).getD 0))) 0 a = a' := act_eq (by rw [putL_def, K.defs]) fun s => by
        by_cases hw : ∃ j oj, j < n ∧ l.toArray[j]? = some oj ∧ oj.dst = some s
        · obtain ⟨j, oj, hj, hoj, hd⟩ := hw
          obtain ⟨o, d, hoj', _, hd', hds, hdis, _⟩ := opB_spec (ho j hj)
          obtain rfl : oj = o := Option.some.inj (hoj.symm.trans hoj')
          obtain rfl : s = d := Option.some.inj (hd.symm.trans hd')
          rw [putL_some (l.take n) _ 0 a j oj (by rw [List.getElem?_take, if_pos hj]; simpa using hoj) hd hds fun i o' hi hij hd2 => hdis i o' (hta i o' hi).1 hij (hta i o' hi).2 hd2]
          rw [Nat.zero_add, hoj]
          show some (a'.eval (.tmp ((oj.dst).getD 0))) = _
          rw [hd]
          show some (a'.eval (.tmp s)) = _
          rw [eval_get, Array.getElem?_eq_getElem (by rw [K.size]; exact hds)]
          rfl
        · rw [putL_none _ _ _ _ fun o ho' hd => by
            obtain ⟨i, hi, he⟩ := List.getElem_of_mem ho'
            have := hta i o (by rw [List.getElem?_eq_getElem hi, he])
            exact hw ⟨i, o, this.1, this.2, hd⟩]
          exact (K.same s fun j oj hj hoj hd => hw ⟨j, oj, hj, hoj, hd⟩).symm
      rw [e] at ht
      exact ht)
    rwa [hdl] at hw) n _ a { w with drawn := w.drawn + 1 } inv0 (h0 n) h0K ⟨rfl, rfl, fun _ _ => rfl, fun j oj d _ _ hl => by rw [getD_replicate_false] at hl; cases hl⟩
  rwa [show n + (l.toArray.size - n) = l.toArray.size by omega] at this

end
end Go.Proofs.YtdbhlepbaepngaaGreatDoor
