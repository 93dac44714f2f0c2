/- The law of what raster tells: the walk. (Written by gen_ratells.py.) -/
import Derived.Test.YtccikeagbillgaaGreatLooseZ3
import Derived.Test.YtccikeagbillgaaGreatRaSZ3
import Derived.Test.YtccikeagbillgaaGreatRaUZ3
import Derived.Test.YtccikeagbillgaaGreatSpXZ3
import Derived.Test.YtccikeagbillgaaGreatRaToZ3
import Derived.Test.YtccikeagbillgaaGreatRaTrZ3
import Derived.Test.YtccikeagbillgaaGreatSpRdZ3
namespace Go.Proofs.YtccikeagbillgaaGreat
open Go.RowKit Go.Sort
set_option linter.unusedVariables false

section
variable {P : Program} {ops : Array Oper} {W : World} {n : Nat}

theorem wanted_none {o : Oper} {y : Nat → Option Bool} (h : o.guard = none) : Region.wanted o y = true := by unfold Region.wanted; rw [h]
theorem wanted_met {o : Oper} {g d : Nat} {b : Bool} {tmps : Array Value} (hg : o.guard = some (g, b)) (hd : (ops[g]?).bind (·.dst) = some d) (he : (tmps[d]?).getD undef = .bool b) : Region.wanted o (yielded ops tmps) = true := by
  unfold Region.wanted yielded
  rw [hg]
  simp only [hd, Option.bind_some]
  cases ht : tmps[d]? with
  | none => rw [ht] at he; cases he
  | some v =>
    rw [ht] at he
    simp only [Option.getD_some] at he
    subst he
    simp

def opG (ops : Array Oper) (n sz j : Nat) : Bool := match ops[j]? with
  | some o => (match o.dst with
    | some d => decide (d < sz) && (List.range n).all fun k => k == j || match ops[k]? with | some o' => o'.dst != some d | none => true
    | none => false) && o.after.all fun e => !Region.binds .any e || decide (e.on < j)
  | none => false
def looseG (ops : Array Oper) (n sz : Nat) : Bool :=
  Region.sinkB .any ops n && chain2B ops n && decide (n < ops.size) && (List.range n).all (opG ops n sz) && Region.seqB .any ops (ops.size - n) n (heads ops.size n)

theorem opG_spec {sz j : Nat} (h : opG ops n sz j = true) : ∃ o d, ops[j]? = some o ∧ o.dst = some d ∧ d < sz ∧ (∀ k o', k < n → k ≠ j → ops[k]? = some o' → o'.dst ≠ some d) ∧ ∀ e ∈ o.after, Region.binds .any e = true → e.on < j := by
  unfold opG at h
  split at h
  · rename_i o ho
    simp only [Bool.and_eq_true] at h
    obtain ⟨h2, h3⟩ := h
    split at h2
    · rename_i d hd
      simp only [Bool.and_eq_true, decide_eq_true_eq] at h2
      refine ⟨o, d, ho, hd, h2.1, fun k o' hk hkj hok hd' => ?_, fun e he hb => ?_⟩
      · have h4 := List.all_eq_true.1 h2.2 k (List.mem_range.2 hk)
        simp only [hok, Bool.or_eq_true, beq_iff_eq, hkj, false_or, bne_iff_ne] at h4
        exact h4 hd'
      · have h5 := Array.all_eq_true_iff_forall_mem.1 h3 e he
        simpa [hb] using h5
    · cases h2
  · cases h

theorem wpAny_gloose2 {V : Nat → World → Value → Prop} {a : Act} {Q : Exit → Act → World → Prop} {g : Nat} (hs : Region.sinkB .any ops n = true) (hc : chain2B ops n = true) (hlt : n < ops.size) (ho : ∀ j, j < n → opG ops n a.tmps.size j = true)
    (hV : ∀ i w w' v, V i w v → New w w' → V i w' v)
    (hwant : ∀ i o, i < n → ops[i]? = some o → ∀ (a' : Act) (w' : World), New W w' → (∀ j d, j < n → waitsB o j = true → (ops[j]?).bind (·.dst) = some d → V j w' (a'.eval (.tmp d))) → Region.wanted o (yielded ops a'.tmps) = true)
    (hstep : ∀ i o, i < n → ops[i]? = some o → ∀ a' w', New W w' → (∀ t, restsB ops n t = true → a'.eval (.tmp t) = a.eval (.tmp t)) → (∀ j d, j < n → waitsB o j = true → (ops[j]?).bind (·.dst) = some d → V j w' (a'.eval (.tmp d))) → Yields P o a' w' fun v w'' => New w' w'' ∧ V i w'' v)
    (hL : ∀ listed a' w', (∀ j, j < n → listed.getD j false = true) → HeadInv .any ops n listed → LInv ops W n V a listed a' w' → wpAny P .any ops Q g listed a' w') :
    ∀ (f : Nat) (listed : Array Bool) (a' : Act) (w' : World), HeadInv .any ops n listed → toCome listed n = f → LInv ops W n V a listed a' w' → wpAny P .any ops Q (f + g) listed a' w'
  | 0, listed, a', w', inv, hf, K => by rw [Nat.zero_add]; exact hL _ _ _ (toCome_zero n hf) inv K
  | f + 1, listed, a', w', inv, hf, K => by
    rw [show f + 1 + g = (f + g) + 1 by omega]
    obtain ⟨i0, hi0, hm0⟩ := exists_least (toCome_some n (by omega : 0 < toCome listed n))
    obtain ⟨o0, d0, ho0, _, _, _, haf⟩ := opG_spec (ho i0 hi0.1)
    have hsz : i0 < listed.size := by rw [inv.size]; omega
    have hr0 : i0 ∈ Region.ready .any ops listed := mem_ready.2 ⟨getD_in hsz hi0.2, o0, ho0, fun e he hb => by
      have h1 := haf e he hb
      cases hl : listed.getD e.on false with
      | true => rfl
      | false => have := hm0 e.on ⟨by omega, hl⟩; omega⟩
    refine ⟨fun h0 => absurd hr0 (by rw [h0]; simp), fun i hi => ?_⟩
    have hin : i < n := Nat.lt_of_not_le fun h => tail_waits2 hs hc hlt inv i0 hi0.1 (getD_in hsz hi0.2) i h hi
    obtain ⟨hun, o', ho', hall⟩ := mem_ready.1 hi
    obtain ⟨o, d, hoi, hd, hds, hdis, _⟩ := opG_spec (ho i hin)
    obtain rfl : o' = o := Option.some.inj (ho'.symm.trans hoi)
    unfold wpOp
    simp only [hoi]
    have hheld : ∀ j dj, j < n → waitsB o' j = true → (ops[j]?).bind (·.dst) = some dj → V j w' (a'.eval (.tmp dj)) := fun j dj hj hwj hdj => by
      obtain ⟨e, he, hb⟩ := Array.any_eq_true'.1 hwj
      simp only [Bool.and_eq_true, beq_iff_eq] at hb
      have h1 := hall e he hb.1
      rw [hb.2] at h1
      cases hoj : ops[j]? with
      | none => rw [hoj] at hdj; cases hdj
      | some oj =>
        rw [hoj] at hdj
        exact K.held j oj dj hj hoj h1 hdj
    have hw : Region.wanted o' (yielded ops a'.tmps) = true := hwant i o' hin hoi a' w' K.new hheld
    rw [if_pos hw]
    refine .inl (yields_wp (hstep i o' hin hoi a' w' K.new (fun t ht => ?_) hheld) fun v w'' ⟨hn, hv⟩ => ?_)
    · rw [eval_get, eval_get, K.same t fun j oj hj hoj hd' => by
        have h1 := List.all_eq_true.1 ht j (List.mem_range.2 hj)
        simp only [hoj, bne_iff_ne] at h1
        exact h1 hd']
    · rw [hd]
      refine wpAny_gloose2 hs hc hlt ho hV hwant hstep hL f _ _ _ (inv.set hi hin) (by have := toCome_set (by rw [inv.size]; omega) (getD_both hun) n hin; omega) ⟨K.new.trans hn, by rw [put_def]; exact K.defs, by rw [put_size]; exact K.size, fun s h => ?_, fun j oj dj hj hoj hl hdj => ?_⟩
      · rw [put_get_ne (by rintro _ ⟨rfl⟩ e; subst e; exact h i o' hin hoi hd)]
        exact K.same s h
      · by_cases hji : j = i
        · subst hji
          obtain rfl : oj = o' := Option.some.inj (hoj.symm.trans hoi)
          obtain rfl : dj = d := Option.some.inj (hdj.symm.trans hd)
          rw [eval_get, put_get_eq (by rw [K.size]; exact hds)]
          exact hv
        · rw [getD_set_ne false (fun e => hji e.symm)] at hl
          have h1 := hdis j oj hj hji hoj
          rw [eval_get, put_get_ne (by rintro _ ⟨rfl⟩ e; subst e; exact h1 hdj), ← eval_get]
          exact hV _ _ _ _ (K.held j oj dj hj hoj hl hdj) hn

theorem wp_region_gloose2 {id : Nat} {Q : Exit → Act → World → Prop} {a : Act} {w : World} {l : List Oper} (n : Nat) (V : Nat → World → Value → Prop) (hm : P.follows .mixedOrders = true) (hB : looseG l.toArray n a.tmps.size = true)
    (hV : ∀ i w w' v, V i w v → New w w' → V i w' v)
    (hwant : ∀ i o, i < n → l.toArray[i]? = some o → ∀ (a' : Act) (w' : World), New w w' → (∀ j d, j < n → waitsB o j = true → (l.toArray[j]?).bind (·.dst) = some d → V j w' (a'.eval (.tmp d))) → Region.wanted o (yielded l.toArray a'.tmps) = true)
    (hstep : ∀ i o, i < n → l.toArray[i]? = some o → ∀ a' w', New w w' → (∀ t, restsB l.toArray n t = true → a'.eval (.tmp t) = a.eval (.tmp t)) → (∀ j d, j < n → waitsB o j = true → (l.toArray[j]?).bind (·.dst) = some d → V j w' (a'.eval (.tmp d))) → Yields P o a' w' fun v w'' => New w' w'' ∧ V i w'' v)
    (htail : ∀ vs w', New w w' → (∀ j, j < n → V j w' (vs j)) → wpList P l.toArray Q (l.drop n) (putL (l.take n) vs 0 a) w') : (Code.region id l.toArray true).wp P Q a w := by
  simp only [looseG, Bool.and_eq_true, decide_eq_true_eq] at hB
  obtain ⟨⟨⟨⟨hs, hc⟩, hlt⟩, hops⟩, hseq⟩ := hB
  have ho : ∀ j, j < n → opG l.toArray n a.tmps.size j = true := fun j hj => List.all_eq_true.1 hops j (List.mem_range.2 hj)
  have hll : l.toArray.size = l.length := by simp
  have inv0 : HeadInv .any l.toArray n (Array.replicate l.toArray.size false) :=
    ⟨by simp, fun j oj _ hl => (by rw [getD_replicate_false] at hl; cases hl), fun t _ ht => getD_in (by simpa using ht) (getD_replicate_false _ _)⟩
  have h0 : ∀ k, toCome (Array.replicate l.toArray.size false) k = k := by
    intro k
    induction k with
    | zero => rfl
    | succ k ih =>
      unfold toCome
      rw [ih, getD_replicate_false]
      simp
      omega
  refine wp_region_any hm ?_
  have := wpAny_gloose2 (P := P) (W := w) (V := V) (Q := Q) (g := l.toArray.size - n) (a := a) hs hc hlt ho hV hwant hstep (fun listed a' w' hall inv K => by
    have hlist : listed = heads l.toArray.size n := by
      refine Array.ext (by rw [inv.size]; simp [heads]) fun j h1 h2 => ?_
      have hj : j < l.toArray.size := by rw [← inv.size]; exact h1
      have e2 : (heads l.toArray.size n)[j] = decide (j < n) := by simp [heads]
      rw [e2]
      by_cases hjn : j < n
      · have := hall j hjn
        rw [Array.getD_eq_getD_getElem?, Array.getElem?_eq_getElem h1] at this
        simpa [hjn] using this
      · have := inv.tail j (by omega) hj
        rw [Array.getD_eq_getD_getElem?, Array.getElem?_eq_getElem h1] at this
        simpa [hjn] using this
    have hdl : (l.drop n).length = l.toArray.size - n := by simp
    have hw := wpAny_of_seq (P := P) (md := .any) (ops := l.toArray) (Q' := Q) (l.drop n) n listed a' w' (fun j => by simp [List.getElem?_drop]) (by rw [hdl, hlist]; exact hseq) (by
      have ht := htail (fun j => a'.eval (.tmp (((l.toArray[j]?).bind (·.dst)).getD 0))) w' K.new (fun j hj => by
        obtain ⟨o, d, hoj, hd, _⟩ := opG_spec (ho j hj)
        have := K.held j o d hj hoj (hall j hj) hd
        simpa [hoj, hd] using this)
      have hta : ∀ i o, (l.take n)[i]? = some o → i < n ∧ l.toArray[i]? = some o := fun i o h => by
        have h1 : i < (l.take n).length := (List.getElem?_eq_some_iff.1 h).1
        have h2 : i < n := by simp at h1; omega
        rw [List.getElem?_take, if_pos h2] at h
        exact ⟨h2, by simpa using h⟩
      have e : putL (l.take n) (fun j => a'.eval (.tmp (((l.toArray[j]?).bind (·.dst)).getD 0))) 0 a = a' := act_eq (by rw [putL_def, K.defs]) fun s => by
        by_cases hw : ∃ j oj, j < n ∧ l.toArray[j]? = some oj ∧ oj.dst = some s
        · obtain ⟨j, oj, hj, hoj, hd⟩ := hw
          obtain ⟨o, d, hoj', hd', hds, hdis, _⟩ := opG_spec (ho j hj)
          obtain rfl : oj = o := Option.some.inj (hoj.symm.trans hoj')
          obtain rfl : s = d := Option.some.inj (hd.symm.trans hd')
          rw [putL_some (l.take n) _ 0 a j oj (by rw [List.getElem?_take, if_pos hj]; simpa using hoj) hd hds fun i o' hi hij hd2 => hdis i o' (hta i o' hi).1 hij (hta i o' hi).2 hd2]
          rw [Nat.zero_add, hoj]
          show some (a'.eval (.tmp ((oj.dst).getD 0))) = _
          rw [hd]
          show some (a'.eval (.tmp s)) = _
          rw [eval_get, Array.getElem?_eq_getElem (by rw [K.size]; exact hds)]
          rfl
        · rw [putL_none _ _ _ _ fun o ho' hd => by
            obtain ⟨i, hi, he⟩ := List.getElem_of_mem ho'
            have := hta i o (by rw [List.getElem?_eq_getElem hi, he])
            exact hw ⟨i, o, this.1, this.2, hd⟩]
          exact (K.same s fun j oj hj hoj hd => hw ⟨j, oj, hj, hoj, hd⟩).symm
      rw [e] at ht
      exact ht)
    rwa [hdl] at hw) n _ a { w with drawn := w.drawn + 1 } inv0 (h0 n) ⟨Below.drew (Below.refl _ w), rfl, rfl, fun _ _ => rfl, fun j oj d _ _ hl => by rw [getD_replicate_false] at hl; cases hl⟩
  rwa [show n + (l.toArray.size - n) = l.toArray.size by omega] at this

end

theorem bR_bd {C : CfgR} {l : List TriR} {x z wi d : Int} (hl : l.length ≤ 1000) : (bR C l x z wi d).length ≤ 4096 ∧ ∀ r ∈ bR C l x z wi d, r.length ≤ 1000 := by
  unfold bR
  split
  · rename_i h
    have hb : boxB x z wi d = true := by
      cases hb : boxB x z wi d with
      | true => rfl
      | false =>
        unfold bE at h
        split at h
        · rename_i h1; exact absurd h h1
        · rw [hb] at h; simp at h
    refine ⟨?_, fun r hr => ?_⟩
    · rw [rowsL_len]
      exact Bx.n_le (bx_ok hb)
    · unfold rowsL at hr
      obtain ⟨k, -, rfl⟩ := List.mem_map.1 hr
      exact Nat.le_trans (colQ_len _ _ _ _) hl
  · exact ⟨by simp, fun r hr => by cases hr⟩
theorem tch_len (C : CfgR) (l : List TriR) (x z wi d : Int) : (tchL C l x z wi d).length ≤ l.length := by
  unfold tchL
  split
  · exact List.length_filter_le _ _
  · simp

set_option maxHeartbeats 4000000 in
set_option maxRecDepth 100000 in
theorem l_rtells (C : CfgR) (at0 : Option Addr) (l : List TriR) (c : Nat) (x z wi d : Int) (hx : i64B x) (hz : i64B z) (w : World) (h : Sl TriR.enc 10 w (.slice at0 l.length c) l) :
    Calls Tryz.prog 3 #[.agg #[.int .i64 C.cl, .int .i64 C.cb, .int .i64 C.ht, .int .i64 C.ri, .int .i64 C.ru, .int .i64 C.wd, .int .i64 C.dp], .slice at0 l.length c, .int .i64 x, .int .i64 z, .int .i64 wi, .int .i64 d] w fun e w' => e = .returned (.bool true) ∧ New w w' := by
  have KW := Lib.hid (fun W => ra_wakes W)
  have hlm : l.length ≤ maxLen := by obtain ⟨_, h1, h2, _⟩ := h.row'; omega
  have KG := Lib.hid (fun W => ra_great at0 l.length c hlm W)
  have hrow := fun W (n : New w W) => (h.keep n).row'.2.2.2.2
  have KC := Lib.hid (fun W (n : New w W) => r_column C at0 l c hlm x z hx hz W (hrow W n))
  have QC := Lib.hid (fun W (n : New w W) => q_column C at0 l c hlm x z W (hrow W n))
  have KB := Lib.hid (fun W (n : New w W) => r_bx C at0 l c hlm x z wi d W (hrow W n))
  have QB := Lib.hid (fun W (n : New w W) => q_box C at0 l c hlm x z wi d W (hrow W n))
  have KT := Lib.hid (fun W (n : New w W) => r_touch C at0 l c hlm x z wi d W (hrow W n))
  have QT := Lib.hid (fun W (n : New w W) => q_touch C at0 l c hlm x z wi d W (hrow W n))
  clear h hrow
  by_cases hg : 40 < l.length
  · rw [decide_eq_true hg] at KG
    go_enter Tryz.func3, Tryz.ntmps3
    go_wp2_with fail
    generalize hW : World.alloc _ _ = W0
    have n0 : New w W0 := by subst hW; (repeat (first | (with_reducible exact New.refl _) | (with_reducible assumption) | ((with_reducible refine New.setB ?_ ?_ _); focus (first | omega | (simp; omega) | (simp; done))) | (with_reducible refine New.alloc ?_ _) | (with_reducible refine New.drew ?_) | (with_reducible refine New.drewN ?_ _) | (with_reducible refine New.hat ?_ _) | ((with_reducible apply New.snart); (with_reducible assumption))))
    have hB : W0.heap[w.heap.size]? = some (.cells (cfgA C) 23 (0, 0)) := by subst hW; exact World.alloc_heap_new w _
    clear hW
    have HB := Lib.hid (And.intro n0 hB)
    clear n0 hB
    refine (KG.out _).mono ?_
    rintro e w1 ⟨rfl, n1⟩
    have N1 := Lib.hid (HB.out.1.trans n1)
    clear n1
    go_wp2_with fail
    refine (KW.out _).mono ?_
    rintro e w2 ⟨rfl, n2⟩
    have N2 := Lib.hid (N1.out.trans n2)
    clear n2
    go_wp2_with fail
    go_ret
    exact ⟨rfl, N2.out⟩
  · rw [decide_eq_false hg] at KG
    have hR8 : (cR C l x z).length ≤ 1000 := cR_len (by omega)
    obtain ⟨hb1, hb2⟩ := bR_bd (C := C) (l := l) (x := x) (z := z) (wi := wi) (d := d) (by omega)
    have hT := tch_len C l x z wi d
    have RS := Lib.hid (fun a1 c1 a2 c2 W h1 h2 => rs_same a1 a2 (cR C l x z) (cR C l x z) c1 c2 hR8 hR8 W h1 h2)
    simp only [allEq_self] at RS
    have RQ := Lib.hid (fun v v' W h1 h2 => ra_q_same (bR C l x z wi d) hb1 hb2 v v' W h1 h2)
    have RT := Lib.hid (fun v v' W h1 h2 => q_sameT (tchL C l x z wi d) (by omega) v v' W h1 h2)
    clear hb1 hb2 hR8 hT
    generalize cR C l x z = RR at *
    generalize cE C l x z = EE at *
    generalize bR C l x z wi d = LL at *
    generalize bE C l x z wi d = FE at *
    generalize tchL C l x z wi d = TT at *
    by_cases p1 : 12 < wi ∧ wi ≤ 64
    · obtain ⟨q1, q2⟩ := p1
      go_enter Tryz.func3, Tryz.ntmps3
      go_wp2_with fail
      generalize hW : World.alloc _ _ = W0
      have n0 : New w W0 := by subst hW; (repeat (first | (with_reducible exact New.refl _) | (with_reducible assumption) | ((with_reducible refine New.setB ?_ ?_ _); focus (first | omega | (simp; omega) | (simp; done))) | (with_reducible refine New.alloc ?_ _) | (with_reducible refine New.drew ?_) | (with_reducible refine New.drewN ?_ _) | (with_reducible refine New.hat ?_ _) | ((with_reducible apply New.snart); (with_reducible assumption))))
      have hB : W0.heap[w.heap.size]? = some (.cells (cfgA C) 23 (0, 0)) := by subst hW; exact World.alloc_heap_new w _
      clear hW
      have HB := Lib.hid (And.intro n0 hB)
      clear n0 hB
      refine (KG.out _).mono ?_
      rintro e w1 ⟨rfl, n1⟩
      have N1 := Lib.hid (HB.out.1.trans n1)
      clear n1
      go_wp2_with fail
      refine (KW.out _).mono ?_
      rintro e w2 ⟨rfl, n2⟩
      have N2 := Lib.hid (N1.out.trans n2)
      clear n2
      go_wp2_with fail
      go_ret
      exact ⟨rfl, N2.out⟩
    by_cases p2 : 12 < d ∧ d ≤ 64
    · obtain ⟨q1, q2⟩ := p2
      by_cases q3 : 12 < wi
      · have q4 : ¬ (wi ≤ 64) := fun h => p1 ⟨q3, h⟩
        go_enter Tryz.func3, Tryz.ntmps3
        go_wp2_with fail
        generalize hW : World.alloc _ _ = W0
        have n0 : New w W0 := by subst hW; (repeat (first | (with_reducible exact New.refl _) | (with_reducible assumption) | ((with_reducible refine New.setB ?_ ?_ _); focus (first | omega | (simp; omega) | (simp; done))) | (with_reducible refine New.alloc ?_ _) | (with_reducible refine New.drew ?_) | (with_reducible refine New.drewN ?_ _) | (with_reducible refine New.hat ?_ _) | ((with_reducible apply New.snart); (with_reducible assumption))))
        have hB : W0.heap[w.heap.size]? = some (.cells (cfgA C) 23 (0, 0)) := by subst hW; exact World.alloc_heap_new w _
        clear hW
        have HB := Lib.hid (And.intro n0 hB)
        clear n0 hB
        refine (KG.out _).mono ?_
        rintro e w1 ⟨rfl, n1⟩
        have N1 := Lib.hid (HB.out.1.trans n1)
        clear n1
        go_wp2_with fail
        refine (KW.out _).mono ?_
        rintro e w2 ⟨rfl, n2⟩
        have N2 := Lib.hid (N1.out.trans n2)
        clear n2
        go_wp2_with fail
        go_ret
        exact ⟨rfl, N2.out⟩
      · skip
        go_enter Tryz.func3, Tryz.ntmps3
        go_wp2_with fail
        generalize hW : World.alloc _ _ = W0
        have n0 : New w W0 := by subst hW; (repeat (first | (with_reducible exact New.refl _) | (with_reducible assumption) | ((with_reducible refine New.setB ?_ ?_ _); focus (first | omega | (simp; omega) | (simp; done))) | (with_reducible refine New.alloc ?_ _) | (with_reducible refine New.drew ?_) | (with_reducible refine New.drewN ?_ _) | (with_reducible refine New.hat ?_ _) | ((with_reducible apply New.snart); (with_reducible assumption))))
        have hB : W0.heap[w.heap.size]? = some (.cells (cfgA C) 23 (0, 0)) := by subst hW; exact World.alloc_heap_new w _
        clear hW
        have HB := Lib.hid (And.intro n0 hB)
        clear n0 hB
        refine (KG.out _).mono ?_
        rintro e w1 ⟨rfl, n1⟩
        have N1 := Lib.hid (HB.out.1.trans n1)
        clear n1
        go_wp2_with fail
        refine (KW.out _).mono ?_
        rintro e w2 ⟨rfl, n2⟩
        have N2 := Lib.hid (N1.out.trans n2)
        clear n2
        go_wp2_with fail
        go_ret
        exact ⟨rfl, N2.out⟩
    by_cases q1 : 12 < wi <;> by_cases q3 : 12 < d
    all_goals
      first
        | (have q2 : ¬ (wi ≤ 64) := fun h => p1 ⟨q1, h⟩)
        | skip
      first
        | (have q4 : ¬ (d ≤ 64) := fun h => p2 ⟨q3, h⟩)
        | skip
      clear p1 p2
      go_enter Tryz.func3, Tryz.ntmps3
      go_wp2_with fail
      generalize hW : World.alloc _ _ = W0
      have n0 : New w W0 := by subst hW; (repeat (first | (with_reducible exact New.refl _) | (with_reducible assumption) | ((with_reducible refine New.setB ?_ ?_ _); focus (first | omega | (simp; omega) | (simp; done))) | (with_reducible refine New.alloc ?_ _) | (with_reducible refine New.drew ?_) | (with_reducible refine New.drewN ?_ _) | (with_reducible refine New.hat ?_ _) | ((with_reducible apply New.snart); (with_reducible assumption))))
      have hB : W0.heap[w.heap.size]? = some (.cells (cfgA C) 23 (0, 0)) := by subst hW; exact World.alloc_heap_new w _
      clear hW
      have HB := Lib.hid (And.intro n0 hB)
      clear n0 hB
      refine (KG.out _).mono ?_
      rintro e w1 ⟨rfl, n1⟩
      have N1 := Lib.hid n1
      clear n1
      obtain ⟨k0, k1, k2, k3, k4, k5, k6⟩ := cfg_cs (N1.out.blk HB.out.2)
      go_wp2_with fail
      clear k0 k1 k2 k3 k4 k5 k6
      refine (KC.out _ (HB.out.1.trans N1.out)).mono ?_
      rintro e w3 ⟨v, rfl, hs, n3'⟩
      have H3 := Lib.hid hs
      obtain ⟨a1, c1, rfl, -⟩ := hs
      have N3 := Lib.hid (N1.out.trans n3')
      clear n3'
      obtain ⟨k0, k1, k2, k3, k4, k5, k6⟩ := cfg_cs (N3.out.blk HB.out.2)
      go_wp2_with fail
      clear k0 k1 k2 k3 k4 k5 k6
      refine (QC.out _ (HB.out.1.trans N3.out)).mono ?_
      rintro e w4 ⟨v, rfl, hs, -, n4'⟩
      have H4 := Lib.hid hs
      obtain ⟨a2, c2, rfl, -⟩ := hs
      have N4 := Lib.hid (N3.out.trans n4')
      replace H3 := Lib.hid (H3.out.keep n4')
      clear n4'
      obtain ⟨k0, k1, k2, k3, k4, k5, k6⟩ := cfg_cs (N4.out.blk HB.out.2)
      go_wp2_with fail
      clear k0 k1 k2 k3 k4 k5 k6
      refine (KB.out _ (HB.out.1.trans N4.out)).mono ?_
      rintro e w5 ⟨v, rfl, hs, n5'⟩
      have H5 := Lib.hid hs
      obtain ⟨us5, -, ⟨b1, d1, rfl, -⟩, -⟩ := hs
      have N5 := Lib.hid (N4.out.trans n5')
      replace H3 := Lib.hid (H3.out.keep n5')
      replace H4 := Lib.hid (H4.out.keep n5')
      clear n5'
      obtain ⟨k0, k1, k2, k3, k4, k5, k6⟩ := cfg_cs (N5.out.blk HB.out.2)
      go_wp2_with fail
      clear k0 k1 k2 k3 k4 k5 k6
      refine (QB.out _ (HB.out.1.trans N5.out)).mono ?_
      rintro e w6 ⟨v, rfl, hs, n6'⟩
      have H6 := Lib.hid hs
      obtain ⟨us6, -, ⟨b2, d2, rfl, -⟩, -⟩ := hs
      have N6 := Lib.hid (N5.out.trans n6')
      replace H3 := Lib.hid (H3.out.keep n6')
      replace H4 := Lib.hid (H4.out.keep n6')
      replace H5 := Lib.hid (H5.out.keep n6')
      clear n6'
      have HS := Lib.hid (And.intro H3.out H4.out)
      have HRR := Lib.hid (And.intro H5.out H6.out)
      have HN := N6
      go_wp2_with fail
      refine wp_region_gloose2 38 (fun i w' v => match i with
        | 0 => v = .slice a1 RR.length c1
        | 1 => v = .slice a2 RR.length c2
        | 2 => v = .bool true
        | 3 => v = .bool true
        | 4 => v = .int .i64 EE
        | 5 => v = .int .i64 EE
        | 6 => v = .bool true
        | 7 => v = .bool true
        | 8 => v = .bool true
        | 9 => v = .slice b1 us5.length d1
        | 10 => v = .slice b2 us6.length d2
        | 11 => v = .bool true
        | 12 => v = .bool true
        | 13 => v = .bool true
        | 14 => v = .int .i64 FE
        | 15 => v = .int .i64 FE
        | 16 => v = .bool true
        | 17 => v = .bool true
        | 18 => v = .bool true
        | 19 => v = .agg (cfgA C)
        | 20 => v = .slice at0 l.length c
        | 21 => v = .int .i64 x
        | 22 => v = .int .i64 z
        | 23 => v = .int .i64 wi
        | 24 => v = .int .i64 d
        | 25 => ∃ a c, v = .slice a TT.length c ∧ Sl TriR.enc 10 w' (.slice a TT.length c) TT
        | 26 => v = .agg (cfgA C)
        | 27 => v = .slice at0 l.length c
        | 28 => v = .int .i64 x
        | 29 => v = .int .i64 z
        | 30 => v = .int .i64 wi
        | 31 => v = .int .i64 d
        | 32 => ∃ a c, v = .slice a TT.length c ∧ Sl TriR.enc 10 w' (.slice a TT.length c) TT
        | 33 => v = .bool true
        | 34 => v = .bool true
        | 35 => v = .bool true
        | 36 => v = .bool true
        | 37 => v = .bool true
        | _ => True) (by kernel_rfl) (by kernel_rfl) ?_ ?_ ?_ ?_
      · intro i w1 w2 v h n
        match i, h with
        | 0, h => exact h
        | 1, h => exact h
        | 2, h => exact h
        | 3, h => exact h
        | 4, h => exact h
        | 5, h => exact h
        | 6, h => exact h
        | 7, h => exact h
        | 8, h => exact h
        | 9, h => exact h
        | 10, h => exact h
        | 11, h => exact h
        | 12, h => exact h
        | 13, h => exact h
        | 14, h => exact h
        | 15, h => exact h
        | 16, h => exact h
        | 17, h => exact h
        | 18, h => exact h
        | 19, h => exact h
        | 20, h => exact h
        | 21, h => exact h
        | 22, h => exact h
        | 23, h => exact h
        | 24, h => exact h
        | 25, ⟨a, c, h1, h2⟩ => exact ⟨a, c, h1, h2.keep n⟩
        | 26, h => exact h
        | 27, h => exact h
        | 28, h => exact h
        | 29, h => exact h
        | 30, h => exact h
        | 31, h => exact h
        | 32, ⟨a, c, h1, h2⟩ => exact ⟨a, c, h1, h2.keep n⟩
        | 33, h => exact h
        | 34, h => exact h
        | 35, h => exact h
        | 36, h => exact h
        | 37, h => exact h
        | i + 38, _ => trivial
      · intro i o hi ho a' w' nn hd
        rcases (show i = 0 ∨ i = 1 ∨ i = 2 ∨ i = 3 ∨ i = 4 ∨ i = 5 ∨ i = 6 ∨ i = 7 ∨ i = 8 ∨ i = 9 ∨ i = 10 ∨ i = 11 ∨ i = 12 ∨ i = 13 ∨ i = 14 ∨ i = 15 ∨ i = 16 ∨ i = 17 ∨ i = 18 ∨ i = 19 ∨ i = 20 ∨ i = 21 ∨ i = 22 ∨ i = 23 ∨ i = 24 ∨ i = 25 ∨ i = 26 ∨ i = 27 ∨ i = 28 ∨ i = 29 ∨ i = 30 ∨ i = 31 ∨ i = 32 ∨ i = 33 ∨ i = 34 ∨ i = 35 ∨ i = 36 ∨ i = 37 by omega) with rfl | rfl | rfl | rfl | rfl | rfl | rfl | rfl | rfl | rfl | rfl | rfl | rfl | rfl | rfl | rfl | rfl | rfl | rfl | rfl | rfl | rfl | rfl | rfl | rfl | rfl | rfl | rfl | rfl | rfl | rfl | rfl | rfl | rfl | rfl | rfl | rfl | rfl <;> obtain rfl := Option.some.inj ho
        · exact wanted_none rfl
        · exact wanted_none rfl
        · exact wanted_none rfl
        · exact wanted_none rfl
        · exact wanted_met rfl (by kernel_rfl) ((eval_get a' 79).symm.trans (hd 3 79 (by omega) (by kernel_rfl) (by kernel_rfl)))
        · exact wanted_met rfl (by kernel_rfl) ((eval_get a' 79).symm.trans (hd 3 79 (by omega) (by kernel_rfl) (by kernel_rfl)))
        · exact wanted_met rfl (by kernel_rfl) ((eval_get a' 79).symm.trans (hd 3 79 (by omega) (by kernel_rfl) (by kernel_rfl)))
        · exact wanted_none rfl
        · exact wanted_none rfl
        · exact wanted_met rfl (by kernel_rfl) ((eval_get a' 84).symm.trans (hd 8 84 (by omega) (by kernel_rfl) (by kernel_rfl)))
        · exact wanted_met rfl (by kernel_rfl) ((eval_get a' 84).symm.trans (hd 8 84 (by omega) (by kernel_rfl) (by kernel_rfl)))
        · exact wanted_met rfl (by kernel_rfl) ((eval_get a' 84).symm.trans (hd 8 84 (by omega) (by kernel_rfl) (by kernel_rfl)))
        · exact wanted_none rfl
        · exact wanted_none rfl
        · exact wanted_met rfl (by kernel_rfl) ((eval_get a' 89).symm.trans (hd 13 89 (by omega) (by kernel_rfl) (by kernel_rfl)))
        · exact wanted_met rfl (by kernel_rfl) ((eval_get a' 89).symm.trans (hd 13 89 (by omega) (by kernel_rfl) (by kernel_rfl)))
        · exact wanted_met rfl (by kernel_rfl) ((eval_get a' 89).symm.trans (hd 13 89 (by omega) (by kernel_rfl) (by kernel_rfl)))
        · exact wanted_none rfl
        · exact wanted_none rfl
        · exact wanted_met rfl (by kernel_rfl) ((eval_get a' 94).symm.trans (hd 18 94 (by omega) (by kernel_rfl) (by kernel_rfl)))
        · exact wanted_met rfl (by kernel_rfl) ((eval_get a' 94).symm.trans (hd 18 94 (by omega) (by kernel_rfl) (by kernel_rfl)))
        · exact wanted_met rfl (by kernel_rfl) ((eval_get a' 94).symm.trans (hd 18 94 (by omega) (by kernel_rfl) (by kernel_rfl)))
        · exact wanted_met rfl (by kernel_rfl) ((eval_get a' 94).symm.trans (hd 18 94 (by omega) (by kernel_rfl) (by kernel_rfl)))
        · exact wanted_met rfl (by kernel_rfl) ((eval_get a' 94).symm.trans (hd 18 94 (by omega) (by kernel_rfl) (by kernel_rfl)))
        · exact wanted_met rfl (by kernel_rfl) ((eval_get a' 94).symm.trans (hd 18 94 (by omega) (by kernel_rfl) (by kernel_rfl)))
        · exact wanted_met rfl (by kernel_rfl) ((eval_get a' 94).symm.trans (hd 18 94 (by omega) (by kernel_rfl) (by kernel_rfl)))
        · exact wanted_met rfl (by kernel_rfl) ((eval_get a' 94).symm.trans (hd 18 94 (by omega) (by kernel_rfl) (by kernel_rfl)))
        · exact wanted_met rfl (by kernel_rfl) ((eval_get a' 94).symm.trans (hd 18 94 (by omega) (by kernel_rfl) (by kernel_rfl)))
        · exact wanted_met rfl (by kernel_rfl) ((eval_get a' 94).symm.trans (hd 18 94 (by omega) (by kernel_rfl) (by kernel_rfl)))
        · exact wanted_met rfl (by kernel_rfl) ((eval_get a' 94).symm.trans (hd 18 94 (by omega) (by kernel_rfl) (by kernel_rfl)))
        · exact wanted_met rfl (by kernel_rfl) ((eval_get a' 94).symm.trans (hd 18 94 (by omega) (by kernel_rfl) (by kernel_rfl)))
        · exact wanted_met rfl (by kernel_rfl) ((eval_get a' 94).symm.trans (hd 18 94 (by omega) (by kernel_rfl) (by kernel_rfl)))
        · exact wanted_met rfl (by kernel_rfl) ((eval_get a' 94).symm.trans (hd 18 94 (by omega) (by kernel_rfl) (by kernel_rfl)))
        · exact wanted_met rfl (by kernel_rfl) ((eval_get a' 94).symm.trans (hd 18 94 (by omega) (by kernel_rfl) (by kernel_rfl)))
        · exact wanted_none rfl
        · exact wanted_none rfl
        · exact wanted_met rfl (by kernel_rfl) ((eval_get a' 111).symm.trans (hd 35 111 (by omega) (by kernel_rfl) (by kernel_rfl)))
        · exact wanted_none rfl
      · intro i o hi ho a' w' nn hr hd
        rcases (show i = 0 ∨ i = 1 ∨ i = 2 ∨ i = 3 ∨ i = 4 ∨ i = 5 ∨ i = 6 ∨ i = 7 ∨ i = 8 ∨ i = 9 ∨ i = 10 ∨ i = 11 ∨ i = 12 ∨ i = 13 ∨ i = 14 ∨ i = 15 ∨ i = 16 ∨ i = 17 ∨ i = 18 ∨ i = 19 ∨ i = 20 ∨ i = 21 ∨ i = 22 ∨ i = 23 ∨ i = 24 ∨ i = 25 ∨ i = 26 ∨ i = 27 ∨ i = 28 ∨ i = 29 ∨ i = 30 ∨ i = 31 ∨ i = 32 ∨ i = 33 ∨ i = 34 ∨ i = 35 ∨ i = 36 ∨ i = 37 by omega) with rfl | rfl | rfl | rfl | rfl | rfl | rfl | rfl | rfl | rfl | rfl | rfl | rfl | rfl | rfl | rfl | rfl | rfl | rfl | rfl | rfl | rfl | rfl | rfl | rfl | rfl | rfl | rfl | rfl | rfl | rfl | rfl | rfl | rfl | rfl | rfl | rfl | rfl <;> obtain rfl := Option.some.inj ho
        · have r13 : (a'.tmps[13]?).getD undef = .slice a1 RR.length c1 := (eval_get a' 13).symm.trans (hr 13 (by kernel_rfl))
          exact yields_value (.slice a1 RR.length c1) (by go_simp) ⟨New.refl _, rfl⟩
        · have r15 : (a'.tmps[15]?).getD undef = .slice a2 RR.length c2 := (eval_get a' 15).symm.trans (hr 15 (by kernel_rfl))
          exact yields_value (.slice a2 RR.length c2) (by go_simp) ⟨New.refl _, rfl⟩
        · have r76 : (a'.tmps[76]?).getD undef = .slice a1 RR.length c1 := (eval_get a' 76).symm.trans (hd 0 76 (by omega) (by kernel_rfl) (by kernel_rfl))
          have r77 : (a'.tmps[77]?).getD undef = .slice a2 RR.length c2 := (eval_get a' 77).symm.trans (hd 1 77 (by omega) (by kernel_rfl) (by kernel_rfl))
          exact yields_enter 12 #[.slice a1 RR.length c1, .slice a2 RR.length c2] (by go_simp) ((RS.out a1 c1 a2 c2 w' (HS.out.1.keep nn) (HS.out.2.keep nn)).mono fun e w'' ⟨he, hn⟩ => ⟨_, he, hn, rfl⟩)
        · have r78 : (a'.tmps[78]?).getD undef = .bool true := (eval_get a' 78).symm.trans (hd 2 78 (by omega) (by kernel_rfl) (by kernel_rfl))
          exact yields_value (.bool true) (by go_simp) ⟨New.refl _, rfl⟩
        · have r14 : (a'.tmps[14]?).getD undef = .int .i64 EE := (eval_get a' 14).symm.trans (hr 14 (by kernel_rfl))
          exact yields_value (.int .i64 EE) (by go_simp) ⟨New.refl _, rfl⟩
        · have r16 : (a'.tmps[16]?).getD undef = .int .i64 EE := (eval_get a' 16).symm.trans (hr 16 (by kernel_rfl))
          exact yields_value (.int .i64 EE) (by go_simp) ⟨New.refl _, rfl⟩
        · have r80 : (a'.tmps[80]?).getD undef = .int .i64 EE := (eval_get a' 80).symm.trans (hd 4 80 (by omega) (by kernel_rfl) (by kernel_rfl))
          have r81 : (a'.tmps[81]?).getD undef = .int .i64 EE := (eval_get a' 81).symm.trans (hd 5 81 (by omega) (by kernel_rfl) (by kernel_rfl))
          exact yields_value (.bool true) (by go_simp) ⟨New.refl _, rfl⟩
        · have r79 : (a'.tmps[79]?).getD undef = .bool true := (eval_get a' 79).symm.trans (hd 3 79 (by omega) (by kernel_rfl) (by kernel_rfl))
          have r82 : (a'.tmps[82]?).getD undef = .bool true := (eval_get a' 82).symm.trans (hd 6 82 (by omega) (by kernel_rfl) (by kernel_rfl))
          exact yields_value (.bool true) (by go_simp) ⟨New.refl _, rfl⟩
        · have r83 : (a'.tmps[83]?).getD undef = .bool true := (eval_get a' 83).symm.trans (hd 7 83 (by omega) (by kernel_rfl) (by kernel_rfl))
          exact yields_value (.bool true) (by go_simp) ⟨New.refl _, rfl⟩
        · have r17 : (a'.tmps[17]?).getD undef = .slice b1 us5.length d1 := (eval_get a' 17).symm.trans (hr 17 (by kernel_rfl))
          exact yields_value (.slice b1 us5.length d1) (by go_simp) ⟨New.refl _, rfl⟩
        · have r19 : (a'.tmps[19]?).getD undef = .slice b2 us6.length d2 := (eval_get a' 19).symm.trans (hr 19 (by kernel_rfl))
          exact yields_value (.slice b2 us6.length d2) (by go_simp) ⟨New.refl _, rfl⟩
        · have r85 : (a'.tmps[85]?).getD undef = .slice b1 us5.length d1 := (eval_get a' 85).symm.trans (hd 9 85 (by omega) (by kernel_rfl) (by kernel_rfl))
          have r86 : (a'.tmps[86]?).getD undef = .slice b2 us6.length d2 := (eval_get a' 86).symm.trans (hd 10 86 (by omega) (by kernel_rfl) (by kernel_rfl))
          exact yields_enter 13 #[.slice b1 us5.length d1, .slice b2 us6.length d2] (by go_simp) ((RQ.out _ _ w' (HRR.out.1.keep nn) (HRR.out.2.keep nn)).mono fun e w'' ⟨he, hn⟩ => ⟨_, he, hn, rfl⟩)
        · have r84 : (a'.tmps[84]?).getD undef = .bool true := (eval_get a' 84).symm.trans (hd 8 84 (by omega) (by kernel_rfl) (by kernel_rfl))
          have r87 : (a'.tmps[87]?).getD undef = .bool true := (eval_get a' 87).symm.trans (hd 11 87 (by omega) (by kernel_rfl) (by kernel_rfl))
          exact yields_value (.bool true) (by go_simp) ⟨New.refl _, rfl⟩
        · have r88 : (a'.tmps[88]?).getD undef = .bool true := (eval_get a' 88).symm.trans (hd 12 88 (by omega) (by kernel_rfl) (by kernel_rfl))
          exact yields_value (.bool true) (by go_simp) ⟨New.refl _, rfl⟩
        · have r18 : (a'.tmps[18]?).getD undef = .int .i64 FE := (eval_get a' 18).symm.trans (hr 18 (by kernel_rfl))
          exact yields_value (.int .i64 FE) (by go_simp) ⟨New.refl _, rfl⟩
        · have r20 : (a'.tmps[20]?).getD undef = .int .i64 FE := (eval_get a' 20).symm.trans (hr 20 (by kernel_rfl))
          exact yields_value (.int .i64 FE) (by go_simp) ⟨New.refl _, rfl⟩
        · have r90 : (a'.tmps[90]?).getD undef = .int .i64 FE := (eval_get a' 90).symm.trans (hd 14 90 (by omega) (by kernel_rfl) (by kernel_rfl))
          have r91 : (a'.tmps[91]?).getD undef = .int .i64 FE := (eval_get a' 91).symm.trans (hd 15 91 (by omega) (by kernel_rfl) (by kernel_rfl))
          exact yields_value (.bool true) (by go_simp) ⟨New.refl _, rfl⟩
        · have r89 : (a'.tmps[89]?).getD undef = .bool true := (eval_get a' 89).symm.trans (hd 13 89 (by omega) (by kernel_rfl) (by kernel_rfl))
          have r92 : (a'.tmps[92]?).getD undef = .bool true := (eval_get a' 92).symm.trans (hd 16 92 (by omega) (by kernel_rfl) (by kernel_rfl))
          exact yields_value (.bool true) (by go_simp) ⟨New.refl _, rfl⟩
        · have r93 : (a'.tmps[93]?).getD undef = .bool true := (eval_get a' 93).symm.trans (hd 17 93 (by omega) (by kernel_rfl) (by kernel_rfl))
          exact yields_value (.bool true) (by go_simp) ⟨New.refl _, rfl⟩
        · have r6 : (a'.tmps[6]?).getD undef = .pointer (some ⟨w.heap.size, 0, none⟩) := (eval_get a' 6).symm.trans (hr 6 (by kernel_rfl))
          obtain ⟨k0, k1, k2, k3, k4, k5, k6⟩ := cfg_cs ((HN.out.trans nn).blk HB.out.2)
          exact yields_value (.agg (cfgA C)) (by unfold cfgA; go_simp) ⟨New.refl _, rfl⟩
        · have r1 : (a'.tmps[1]?).getD undef = .slice at0 l.length c := (eval_get a' 1).symm.trans (hr 1 (by kernel_rfl))
          exact yields_value (.slice at0 l.length c) (by go_simp) ⟨New.refl _, rfl⟩
        · have r2 : (a'.tmps[2]?).getD undef = .int .i64 x := (eval_get a' 2).symm.trans (hr 2 (by kernel_rfl))
          exact yields_value (.int .i64 x) (by go_simp) ⟨New.refl _, rfl⟩
        · have r3 : (a'.tmps[3]?).getD undef = .int .i64 z := (eval_get a' 3).symm.trans (hr 3 (by kernel_rfl))
          exact yields_value (.int .i64 z) (by go_simp) ⟨New.refl _, rfl⟩
        · have r4 : (a'.tmps[4]?).getD undef = .int .i64 wi := (eval_get a' 4).symm.trans (hr 4 (by kernel_rfl))
          exact yields_value (.int .i64 wi) (by go_simp) ⟨New.refl _, rfl⟩
        · have r5 : (a'.tmps[5]?).getD undef = .int .i64 d := (eval_get a' 5).symm.trans (hr 5 (by kernel_rfl))
          exact yields_value (.int .i64 d) (by go_simp) ⟨New.refl _, rfl⟩
        · have r95 : (a'.tmps[95]?).getD undef = .agg (cfgA C) := (eval_get a' 95).symm.trans (hd 19 95 (by omega) (by kernel_rfl) (by kernel_rfl))
          have r96 : (a'.tmps[96]?).getD undef = .slice at0 l.length c := (eval_get a' 96).symm.trans (hd 20 96 (by omega) (by kernel_rfl) (by kernel_rfl))
          have r97 : (a'.tmps[97]?).getD undef = .int .i64 x := (eval_get a' 97).symm.trans (hd 21 97 (by omega) (by kernel_rfl) (by kernel_rfl))
          have r98 : (a'.tmps[98]?).getD undef = .int .i64 z := (eval_get a' 98).symm.trans (hd 22 98 (by omega) (by kernel_rfl) (by kernel_rfl))
          have r99 : (a'.tmps[99]?).getD undef = .int .i64 wi := (eval_get a' 99).symm.trans (hd 23 99 (by omega) (by kernel_rfl) (by kernel_rfl))
          have r100 : (a'.tmps[100]?).getD undef = .int .i64 d := (eval_get a' 100).symm.trans (hd 24 100 (by omega) (by kernel_rfl) (by kernel_rfl))
          refine yields_enter 15 #[.agg (cfgA C), .slice at0 l.length c, .int .i64 x, .int .i64 z, .int .i64 wi, .int .i64 d] (by go_simp) ((KT.out w' (HB.out.1.trans (HN.out.trans nn))).mono ?_)
          rintro e w'' ⟨v, rfl, hs, n⟩
          have hs' := hs
          obtain ⟨a, ac, rfl, -⟩ := hs
          exact ⟨_, rfl, n, a, ac, rfl, hs'⟩
        · have r6 : (a'.tmps[6]?).getD undef = .pointer (some ⟨w.heap.size, 0, none⟩) := (eval_get a' 6).symm.trans (hr 6 (by kernel_rfl))
          obtain ⟨k0, k1, k2, k3, k4, k5, k6⟩ := cfg_cs ((HN.out.trans nn).blk HB.out.2)
          exact yields_value (.agg (cfgA C)) (by unfold cfgA; go_simp) ⟨New.refl _, rfl⟩
        · have r1 : (a'.tmps[1]?).getD undef = .slice at0 l.length c := (eval_get a' 1).symm.trans (hr 1 (by kernel_rfl))
          exact yields_value (.slice at0 l.length c) (by go_simp) ⟨New.refl _, rfl⟩
        · have r2 : (a'.tmps[2]?).getD undef = .int .i64 x := (eval_get a' 2).symm.trans (hr 2 (by kernel_rfl))
          exact yields_value (.int .i64 x) (by go_simp) ⟨New.refl _, rfl⟩
        · have r3 : (a'.tmps[3]?).getD undef = .int .i64 z := (eval_get a' 3).symm.trans (hr 3 (by kernel_rfl))
          exact yields_value (.int .i64 z) (by go_simp) ⟨New.refl _, rfl⟩
        · have r4 : (a'.tmps[4]?).getD undef = .int .i64 wi := (eval_get a' 4).symm.trans (hr 4 (by kernel_rfl))
          exact yields_value (.int .i64 wi) (by go_simp) ⟨New.refl _, rfl⟩
        · have r5 : (a'.tmps[5]?).getD undef = .int .i64 d := (eval_get a' 5).symm.trans (hr 5 (by kernel_rfl))
          exact yields_value (.int .i64 d) (by go_simp) ⟨New.refl _, rfl⟩
        · have r102 : (a'.tmps[102]?).getD undef = .agg (cfgA C) := (eval_get a' 102).symm.trans (hd 26 102 (by omega) (by kernel_rfl) (by kernel_rfl))
          have r103 : (a'.tmps[103]?).getD undef = .slice at0 l.length c := (eval_get a' 103).symm.trans (hd 27 103 (by omega) (by kernel_rfl) (by kernel_rfl))
          have r104 : (a'.tmps[104]?).getD undef = .int .i64 x := (eval_get a' 104).symm.trans (hd 28 104 (by omega) (by kernel_rfl) (by kernel_rfl))
          have r105 : (a'.tmps[105]?).getD undef = .int .i64 z := (eval_get a' 105).symm.trans (hd 29 105 (by omega) (by kernel_rfl) (by kernel_rfl))
          have r106 : (a'.tmps[106]?).getD undef = .int .i64 wi := (eval_get a' 106).symm.trans (hd 30 106 (by omega) (by kernel_rfl) (by kernel_rfl))
          have r107 : (a'.tmps[107]?).getD undef = .int .i64 d := (eval_get a' 107).symm.trans (hd 31 107 (by omega) (by kernel_rfl) (by kernel_rfl))
          refine yields_enter 16 #[.agg (cfgA C), .slice at0 l.length c, .int .i64 x, .int .i64 z, .int .i64 wi, .int .i64 d] (by go_simp) ((QT.out w' (HB.out.1.trans (HN.out.trans nn))).mono ?_)
          rintro e w'' ⟨v, rfl, hs, n⟩
          have hs' := hs
          obtain ⟨a, ac, rfl, -⟩ := hs
          exact ⟨_, rfl, n, a, ac, rfl, hs'⟩
        · obtain ⟨p, pc, e101, h101⟩ := hd 25 101 (by omega) (by kernel_rfl) (by kernel_rfl)
          have r101 : (a'.tmps[101]?).getD undef = _ := (eval_get a' 101).symm.trans e101
          obtain ⟨q, qc, e108, h108⟩ := hd 32 108 (by omega) (by kernel_rfl) (by kernel_rfl)
          have r108 : (a'.tmps[108]?).getD undef = _ := (eval_get a' 108).symm.trans e108
          exact yields_enter 14 #[.slice p TT.length pc, .slice q TT.length qc] (by go_simp) ((RT.out _ _ w' h101 h108).mono fun e w'' ⟨he, hn⟩ => ⟨_, he, hn, rfl⟩)
        · have r94 : (a'.tmps[94]?).getD undef = .bool true := (eval_get a' 94).symm.trans (hd 18 94 (by omega) (by kernel_rfl) (by kernel_rfl))
          have r109 : (a'.tmps[109]?).getD undef = .bool true := (eval_get a' 109).symm.trans (hd 33 109 (by omega) (by kernel_rfl) (by kernel_rfl))
          exact yields_value (.bool true) (by go_simp) ⟨New.refl _, rfl⟩
        · have r110 : (a'.tmps[110]?).getD undef = .bool true := (eval_get a' 110).symm.trans (hd 34 110 (by omega) (by kernel_rfl) (by kernel_rfl))
          exact yields_value (.bool true) (by go_simp) ⟨New.refl _, rfl⟩
        · exact yields_enter 7 #[] (by go_simp) ((KW.out _).mono fun e w'' ⟨he, hn⟩ => ⟨_, he, hn, rfl⟩)
        · have r111 : (a'.tmps[111]?).getD undef = .bool true := (eval_get a' 111).symm.trans (hd 35 111 (by omega) (by kernel_rfl) (by kernel_rfl))
          have r112 : (a'.tmps[112]?).getD undef = .bool true := (eval_get a' 112).symm.trans (hd 36 112 (by omega) (by kernel_rfl) (by kernel_rfl))
          exact yields_value (.bool true) (by go_simp) ⟨New.refl _, rfl⟩
      · intro vs w' nn hv
        have e37 := hv 37 (by omega)
        simp only [] at e37
        clear hv
        simp only [List.take_succ_cons, List.take_zero, List.drop_succ_cons, List.drop_zero, putL, Act.put, List.setIfInBounds_toArray, List.set_cons_zero, List.set_cons_succ, Nat.reduceAdd, Nat.zero_add]
        rw [e37]
        have hfin := HB.out.1.trans (HN.out.trans nn)
        go_wp2_with fail
        go_ret
        exact ⟨rfl, hfin⟩

end Go.Proofs.YtccikeagbillgaaGreat
