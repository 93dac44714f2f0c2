import Derived.Test.YtccikeagbillgaaGreatSpBZ3
import Derived.Test.YtccikeagbillgaaGreatRaSZ3
import Derived.Test.YtccikeagbillgaaGreatSpXZ3
import Derived.Test.YtccikeagbillgaaGreatSpRdZ3
import Derived.Test.YtccikeagbillgaaGreatTriDZ3

/- A statement whose order is open: XLoose's rule, where an operation may change what lies there: of each operation one says what its step keeps; what stands in the slot of one that waits for it is not touched by it. No function of the program in sight. -/
namespace Go.Proofs.YtccikeagbillgaaGreat
open Go.RowKit
set_option linter.unusedVariables false

section
variable {P : Program} {ops : Array Oper} {n : Nat}

/-- Does number i wait for number j, by way of others too? -/
def deepB (ops : Array Oper) : Nat → Nat → Nat → Bool
  | 0, _, _ => false
  | f + 1, j, i => match ops[i]? with
    | some o => o.after.any fun e => Region.binds .any e && (e.on == j || deepB ops f j e.on)
    | none => false
theorem deep_listed {listed : Array Bool} (inv : HeadInv .any ops n listed) : ∀ (f j i : Nat), deepB ops f j i = true → listed.getD i false = true → listed.getD j false = true
  | 0, _, _, h, _ => by cases h
  | f + 1, j, i, h, hl => by
    unfold deepB at h
    split at h
    · rename_i o ho
      obtain ⟨e, he, h1⟩ := Array.any_eq_true'.1 h
      simp only [Bool.and_eq_true, Bool.or_eq_true, beq_iff_eq] at h1
      have h2 := inv.closed i o ho hl e he h1.1
      rcases h1.2 with h3 | h3
      · rw [← h3]; exact h2
      · exact deep_listed inv f j e.on h3 h2
    · cases h

theorem wpAny_ploose {R : Nat → World → World → Prop} {KK : Array Bool → World → Prop} {V : Nat → World → Value → Prop} {a : Act} {Q : Exit → Act → World → Prop} {g : Nat} (hs : Region.sinkB .any ops n = true) (hc : chain2B ops n = true) (hlt : n < ops.size) (ho : ∀ j, j < n → opB ops n a.tmps.size j = true)
    (hV : ∀ i j w w' v, i ≠ j → deepB ops 20 j i = false → V i w v → R j w w' → V i w' v)
    (hKK : ∀ listed j w w', j < n → j < listed.size → KK listed w → R j w w' → KK (listed.setIfInBounds j true) w')
    (hstep : ∀ i o listed, i < n → ops[i]? = some o → listed.getD i false = false → ∀ a' w', KK listed w' → (∀ t, restsB ops n t = true → a'.eval (.tmp t) = a.eval (.tmp t)) → (∀ j d, j < n → waitsB o j = true → (ops[j]?).bind (·.dst) = some d → V j w' (a'.eval (.tmp d))) → Yields P o a' w' fun v w'' => R i w' w'' ∧ V i w'' v)
    (hL : ∀ listed a' w', (∀ j, j < n → listed.getD j false = true) → HeadInv .any ops n listed → KK listed w' → LInvK ops n V a listed a' w' → wpAny P .any ops Q g listed a' w') :
    ∀ (f : Nat) (listed : Array Bool) (a' : Act) (w' : World), HeadInv .any ops n listed → toCome listed n = f → KK listed w' → LInvK ops n V a listed a' w' → wpAny P .any ops Q (f + g) listed a' w'
  | 0, listed, a', w', inv, hf, HK, K => by rw [Nat.zero_add]; exact hL _ _ _ (toCome_zero n hf) inv HK K
  | f + 1, listed, a', w', inv, hf, HK, K => by
    rw [show f + 1 + g = (f + g) + 1 by omega]
    obtain ⟨i0, hi0, hm0⟩ := exists_least (toCome_some n (by omega : 0 < toCome listed n))
    obtain ⟨o0, d0, ho0, _, _, _, _, haf⟩ := opB_spec (ho i0 hi0.1)
    have hsz : i0 < listed.size := by rw [inv.size]; omega
    have hr0 : i0 ∈ Region.ready .any ops listed := mem_ready.2 ⟨getD_in hsz hi0.2, o0, ho0, fun e he hb => by
      have h1 := haf e he hb
      cases hl : listed.getD e.on false with
      | true => rfl
      | false => have := hm0 e.on ⟨by omega, hl⟩; omega⟩
    refine ⟨fun h0 => absurd hr0 (by rw [h0]; simp), fun i hi => ?_⟩
    have hin : i < n := Nat.lt_of_not_le fun h => tail_waits2 hs hc hlt inv i0 hi0.1 (getD_in hsz hi0.2) i h hi
    obtain ⟨hun, o', ho', hall⟩ := mem_ready.1 hi
    obtain ⟨o, d, hoi, hg, hd, hds, hdis, _⟩ := opB_spec (ho i hin)
    obtain rfl : o' = o := Option.some.inj (ho'.symm.trans hoi)
    unfold wpOp
    simp only [hoi]
    have hw : Region.wanted o' (yielded ops a'.tmps) = true := by unfold Region.wanted; rw [hg]
    rw [if_pos hw]
    refine .inl (yields_wp (hstep i o' listed hin hoi (getD_both hun) a' w' HK (fun t ht => ?_) (fun j dj hj hwj hdj => ?_)) fun v w'' ⟨hn, hv⟩ => ?_)
    · rw [eval_get, eval_get, K.same t fun j oj hj hoj hd' => by
        have h1 := List.all_eq_true.1 ht j (List.mem_range.2 hj)
        simp only [hoj, bne_iff_ne] at h1
        exact h1 hd']
    · obtain ⟨e, he, hb⟩ := Array.any_eq_true'.1 hwj
      simp only [Bool.and_eq_true, beq_iff_eq] at hb
      have h1 := hall e he hb.1
      rw [hb.2] at h1
      cases hoj : ops[j]? with
      | none => rw [hoj] at hdj; cases hdj
      | some oj =>
        rw [hoj] at hdj
        exact K.held j oj dj hj hoj h1 hdj
    · rw [hd]
      refine wpAny_ploose hs hc hlt ho hV hKK hstep hL f _ _ _ (inv.set hi hin) (by have := toCome_set (by rw [inv.size]; omega) (getD_both hun) n hin; omega) (hKK listed i w' w'' hin (by rw [inv.size]; omega) HK hn) ⟨by rw [put_def]; exact K.defs, by rw [put_size]; exact K.size, fun s h => ?_, fun j oj dj hj hoj hl hdj => ?_⟩
      · rw [put_get_ne (by rintro _ ⟨rfl⟩ e; subst e; exact h i o' hin hoi hd)]
        exact K.same s h
      · by_cases hji : j = i
        · subst hji
          obtain rfl : oj = o' := Option.some.inj (hoj.symm.trans hoi)
          obtain rfl : dj = d := Option.some.inj (hdj.symm.trans hd)
          rw [eval_get, put_get_eq (by rw [K.size]; exact hds)]
          exact hv
        · rw [getD_set_ne false (fun e => hji e.symm)] at hl
          have h1 := hdis j oj hj hji hoj
          rw [eval_get, put_get_ne (by rintro _ ⟨rfl⟩ e; subst e; exact h1 hdj), ← eval_get]
          refine hV _ _ _ _ _ hji ?_ (K.held j oj dj hj hoj hl hdj) hn
          cases hdp : deepB ops 20 i j with
          | false => rfl
          | true =>
            have h7 := deep_listed inv 20 i j hdp hl
            rw [getD_both hun] at h7
            cases h7

theorem wp_region_ploose {id : Nat} {Q : Exit → Act → World → Prop} {a : Act} {w : World} {l : List Oper} (n : Nat) (R : Nat → World → World → Prop) (KK : Array Bool → World → Prop) (V : Nat → World → Value → Prop) (hm : P.follows .mixedOrders = true) (hB : looseB l.toArray n a.tmps.size = true)
    (hV : ∀ i j w w' v, i ≠ j → deepB l.toArray 20 j i = false → V i w v → R j w w' → V i w' v)
    (h0K : KK (Array.replicate l.toArray.size false) { w with drawn := w.drawn + 1 })
    (hKK : ∀ listed j w w', j < n → j < listed.size → KK listed w → R j w w' → KK (listed.setIfInBounds j true) w')
    (hstep : ∀ i o listed, i < n → l.toArray[i]? = some o → listed.getD i false = false → ∀ a' w', KK listed w' → (∀ t, restsB l.toArray n t = true → a'.eval (.tmp t) = a.eval (.tmp t)) → (∀ j d, j < n → waitsB o j = true → (l.toArray[j]?).bind (·.dst) = some d → V j w' (a'.eval (.tmp d))) → Yields P o a' w' fun v w'' => R i w' w'' ∧ V i w'' v)
    (htail : ∀ vs w' listed, KK listed w' → (∀ j, j < n → V j w' (vs j)) → wpList P l.toArray Q (l.drop n) (putL (l.take n) vs 0 a) w') : (Code.region id l.toArray true).wp P Q a w := by
  simp only [looseB, Bool.and_eq_true, decide_eq_true_eq] at hB
  obtain ⟨⟨⟨⟨hs, hc⟩, hlt⟩, hops⟩, hseq⟩ := hB
  have ho : ∀ j, j < n → opB l.toArray n a.tmps.size j = true := fun j hj => List.all_eq_true.1 hops j (List.mem_range.2 hj)
  have hll : l.toArray.size = l.length := by simp
  have inv0 : HeadInv .any l.toArray n (Array.replicate l.toArray.size false) :=
    ⟨by simp, fun j oj _ hl => (by rw [getD_replicate_false] at hl; cases hl), fun t _ ht => getD_in (by simpa using ht) (getD_replicate_false _ _)⟩
  have h0 : ∀ k, toCome (Array.replicate l.toArray.size false) k = k := by
    intro k
    induction k with
    | zero => rfl
    | succ k ih =>
      unfold toCome
      rw [ih, getD_replicate_false]
      simp
      omega
  refine wp_region_any hm ?_
  have := wpAny_ploose (P := P) (R := R) (KK := KK) (V := V) (Q := Q) (g := l.toArray.size - n) (a := a) hs hc hlt ho hV hKK hstep (fun listed a' w' hall inv HK K => by
    have hlist : listed = heads l.toArray.size n := by
      refine Array.ext (by rw [inv.size]; simp [heads]) fun j h1 h2 => ?_
      have hj : j < l.toArray.size := by rw [← inv.size]; exact h1
      have e2 : (heads l.toArray.size n)[j] = decide (j < n) := by simp [heads]
      rw [e2]
      by_cases hjn : j < n
      · have := hall j hjn
        rw [Array.getD_eq_getD_getElem?, Array.getElem?_eq_getElem h1] at this
        simpa [hjn] using this
      · have := inv.tail j (by omega) hj
        rw [Array.getD_eq_getD_getElem?, Array.getElem?_eq_getElem h1] at this
        simpa [hjn] using this
    have hdl : (l.drop n).length = l.toArray.size - n := by simp
    have hw := wpAny_of_seq (P := P) (md := .any) (ops := l.toArray) (Q' := Q) (l.drop n) n listed a' w' (fun j => by simp [List.getElem?_drop]) (by rw [hdl, hlist]; exact hseq) (by
      have ht := htail (fun j => a'.eval (.tmp (((l.toArray[j]?).bind (·.dst)).getD 0))) w' listed HK (fun j hj => by
        obtain ⟨o, d, hoj, _, hd, _⟩ := opB_spec (ho j hj)
        have := K.held j o d hj hoj (hall j hj) hd
        simpa [hoj, hd] using this)
      have hta : ∀ i o, (l.take n)[i]? = some o → i < n ∧ l.toArray[i]? = some o := fun i o h => by
        have h1 : i < (l.take n).length := (List.getElem?_eq_some_iff.1 h).1
        have h2 : i < n := by simp at h1; omega
        rw [List.getElem?_take, if_pos h2] at h
        exact ⟨h2, by simpa using h⟩
      have e : putL (l.take n) (fun j => a'.eval (.tmp (((l.toArray[j]?).bind (·.dst)).getD 0))) 0 a = a' := act_eq (by rw [putL_def, K.defs]) fun s => by
        by_cases hw : ∃ j oj, j < n ∧ l.toArray[j]? = some oj ∧ oj.dst = some s
        · obtain ⟨j, oj, hj, hoj, hd⟩ := hw
          obtain ⟨o, d, hoj', _, hd', hds, hdis, _⟩ := opB_spec (ho j hj)
          obtain rfl : oj = o := Option.some.inj (hoj.symm.trans hoj')
          obtain rfl : s = d := Option.some.inj (hd.symm.trans hd')
          rw [putL_some (l.take n) _ 0 a j oj (by rw [List.getElem?_take, if_pos hj]; simpa using hoj) hd hds fun i o' hi hij hd2 => hdis i o' (hta i o' hi).1 hij (hta i o' hi).2 hd2]
          rw [Nat.zero_add, hoj]
          show some (a'.eval (.tmp ((oj.dst).getD 0))) = _
          rw [hd]
          show some (a'.eval (.tmp s)) = _
          rw [eval_get, Array.getElem?_eq_getElem (by rw [K.size]; exact hds)]
          rfl
        · rw [putL_none _ _ _ _ fun o ho' hd => by
            obtain ⟨i, hi, he⟩ := List.getElem_of_mem ho'
            have := hta i o (by rw [List.getElem?_eq_getElem hi, he])
            exact hw ⟨i, o, this.1, this.2, hd⟩]
          exact (K.same s fun j oj hj hoj hd => hw ⟨j, oj, hj, hoj, hd⟩).symm
      rw [e] at ht
      exact ht)
    rwa [hdl] at hw) n _ a { w with drawn := w.drawn + 1 } inv0 (h0 n) h0K ⟨rfl, rfl, fun _ _ => rfl, fun j oj d _ _ hl => by rw [getD_replicate_false] at hl; cases hl⟩
  rwa [show n + (l.toArray.size - n) = l.toArray.size by omega] at this

end
end Go.Proofs.YtccikeagbillgaaGreat

/- The law of order: the walk. -/
namespace Go.Proofs.YtccikeagbillgaaGreat
open Go.RowKit Go.Sort
set_option linter.unusedVariables false

theorem rchk_congr {C : CfgR} {l m : List TriR} (h : ∀ T, T ∈ l ↔ T ∈ m) (hl : l.length ≤ 200) (hm : m.length ≤ 200) : rchk C l = rchk C m := by
  have e : mayL C l = mayL C m := by
    rw [Bool.eq_iff_iff]
    unfold mayL
    simp only [Bool.and_eq_true, decide_eq_true_eq, List.all_eq_true]
    exact ⟨fun k => ⟨hm, fun T hT => k.2 T ((h T).2 hT)⟩, fun k => ⟨hl, fun T hT => k.2 T ((h T).1 hT)⟩⟩
  unfold rchk
  rw [e]
theorem colQ_congr {C : CfgR} {l m : List TriR} (h : ∀ T, T ∈ l ↔ T ∈ m) (x z : Int) : colQ C l x z = colQ C m x z := by
  unfold colQ
  refine mrg_congr (col_proper _ _ _ _) (fun p => ?_)
  rw [col_mem, col_mem]
  exact ⟨fun ⟨h1, T, hT, h2⟩ => ⟨h1, T, (h T).1 hT, h2⟩, fun ⟨h1, T, hT, h2⟩ => ⟨h1, T, (h T).2 hT, h2⟩⟩
theorem cE_congr {C : CfgR} {l m : List TriR} (h : ∀ T, T ∈ l ↔ T ∈ m) (hl : l.length ≤ 200) (hm : m.length ≤ 200) (x z : Int) : cE C l x z = cE C m x z := by
  unfold cE fullB
  rw [rchk_congr h hl hm, colQ_congr h]
theorem cR_congr {C : CfgR} {l m : List TriR} (h : ∀ T, T ∈ l ↔ T ∈ m) (hl : l.length ≤ 200) (hm : m.length ≤ 200) (x z : Int) : cR C l x z = cR C m x z := by
  unfold cR
  rw [cE_congr h hl hm, colQ_congr h]
theorem cR_len {C : CfgR} {l : List TriR} {x z : Int} (hl : l.length ≤ 1000) : (cR C l x z).length ≤ 1000 := by
  unfold cR
  split
  · exact Nat.le_trans (colQ_len _ _ _ _) hl
  · simp

theorem mod_in (k : Int) (n : Nat) (h0 : 0 < n) (h : n ≤ 40) : ∃ m : Nat, m < n ∧ (wrap64 (k.tmod n + n)).tmod n = (m : Int) := by
  have h1 : -(n : Int) < k.tmod n := Int.lt_tmod_of_pos k (by omega)
  have h2 : k.tmod n < (n : Int) := Int.tmod_lt_of_pos k (by omega)
  have e : wrap64 (k.tmod n + n) = k.tmod n + n := wrap64_in (by omega)
  rw [e, Int.tmod_eq_emod_of_nonneg (by omega)]
  have h3 := Int.emod_nonneg (k.tmod n + n) (by omega : (n : Int) ≠ 0)
  have h4 := Int.emod_lt_of_pos (k.tmod n + n) (by omega : (0 : Int) < n)
  exact ⟨((k.tmod n + n) % n).toNat, by omega, by omega⟩

/-- The first elements that come to an empty row. -/
theorem run_append_first {P : Program} {w : World} (t ty e : TypeId) (i : TypeInfo) (z : Value) (size bytes : Nat) (ht : P.underlying t = some (.slice e)) (hi : P.info? e = some i) (hz : i.zero = some z)
    (hsize : i.size = size) (hby : i.bytes = bytes) (hzs : z.cells.size = size) (b a : Addr) (m c : Nat) (news : List Value) (hl : news.length = m * size) (hnews : ∀ j u, news[j]? = some u → w.cell? (a.add j) = some u)
    (hm : 0 < m) (h63 : m ≤ maxLen) (hbytes : m * bytes ≤ 140737488355328) :
    ∃ g cap w', (Builtin.append_ #[t, t] ty #[.slice (some b) 0 0, .slice (some a) m c]).run P w = .ok (.slice (some ⟨g, 0, none⟩) m cap) w' ∧ w'.ownsRow w.heap.size e size (.slice (some ⟨g, 0, none⟩) m cap) m news ∧ New w w' := by
  subst hsize
  subst hby
  have h63' : m ≤ 9223372036854775807 := by simp only [maxLen] at h63; omega
  have hr := run_append_grow (P := P) (w := w) t ty e i z ht hi hz b 0 0 [] (by simp) (fun j v h => by simp at h) a m c news hl hnews (by omega) (by omega) (growslice_fits (by omega) (by simpa using hbytes))
  simp only [Nat.zero_add] at hr
  have hge := grownCap_ge w m 0 e
  have hcm : grownCap w m 0 e ≤ maxLen := grownCap_le_maxLen w m 0 e h63
  refine ⟨_, _, _, hr, ⟨hl, .inr ⟨w.heap.size, _, _, rfl, Nat.le_refl _, heap_alloc_new w.drew _, hge, hcm, ?_, ?_⟩⟩, (New.drew (New.refl w)).alloc _⟩
  · simp only [Array.size_append, List.size_toArray, size_zeroCells, hzs, hl, List.length_nil, Nat.zero_add, ← Nat.add_mul]
    congr 1
    omega
  · simp only [Array.toList_append, List.nil_append]
    rw [← hl]
    exact List.take_left

theorem new_add (w : World) (cs : Array Value) (t : TypeId) (q : Nat) (u : Value) (h : cs.toList[q]? = some u) : (w.alloc (.cells cs t)).cell? ((⟨w.heap.size, 0, none⟩ : Addr).add q) = some u := by
  have h1 := World.cell?_alloc_mark w cs t (0, 0) q
  have h2 : cs[q]? = some u := by rw [← Array.getElem?_toList]; exact h
  rw [h2] at h1
  unfold Addr.add
  split
  · rename_i h0
    subst h0
    exact h1
  · simpa using h1

set_option maxHeartbeats 1000000 in
theorem ra_great (at0 : Option Addr) (n c : Nat) (hc : n ≤ maxLen) (w : World) : Calls Tryz.prog 6 #[.slice at0 n c] w fun e w' => e = .returned (.bool (decide (40 < n))) ∧ New w w' := by
  unfold maxLen at hc
  by_cases h : 40 < n
  · have hd : ((n : Int) > 40) := by omega
    rw [decide_eq_true h]
    go_enter Tryz.func6, Tryz.ntmps6
    go_wp2_with fail
    go_ret
    exact ⟨by simp; try omega, by (repeat (first | (with_reducible exact New.refl _) | (with_reducible assumption) | ((with_reducible refine New.setB ?_ ?_ _); focus (first | omega | (simp; omega) | (simp; done))) | (with_reducible refine New.alloc ?_ _) | (with_reducible refine New.drew ?_) | (with_reducible refine New.drewN ?_ _) | (with_reducible refine New.hat ?_ _) | ((with_reducible apply New.snart); (with_reducible assumption))))⟩
  · have hd : ¬ ((n : Int) > 40) := by omega
    rw [decide_eq_false h]
    go_enter Tryz.func6, Tryz.ntmps6
    go_wp2_with fail
    go_ret
    exact ⟨by simp; try omega, by (repeat (first | (with_reducible exact New.refl _) | (with_reducible assumption) | ((with_reducible refine New.setB ?_ ?_ _); focus (first | omega | (simp; omega) | (simp; done))) | (with_reducible refine New.alloc ?_ _) | (with_reducible refine New.drew ?_) | (with_reducible refine New.drewN ?_ _) | (with_reducible refine New.hat ?_ _) | ((with_reducible apply New.snart); (with_reducible assumption))))⟩

theorem tri_info : (Tryz.prog.info? 43).map (fun i => (i.zero, i.size, i.bytes)) = some (some (.agg #[.int .i64 0, .int .i64 0, .int .i64 0, .int .i64 0, .int .i64 0, .int .i64 0, .int .i64 0, .int .i64 0, .int .i64 0, .int .i64 0]), 10, 80) := by kernel_rfl

set_option maxHeartbeats 2000000 in
set_option maxRecDepth 100000 in
theorem l_order (C : CfgR) (at0 : Option Addr) (l : List TriR) (c : Nat) (x z k j : Int) (hx : i64B x) (hz : i64B z) (hk : i64B k) (hj : i64B j) (w : World) (h : Sl TriR.enc 10 w (.slice at0 l.length c) l) :
    Calls Tryz.prog 4 #[.agg #[.int .i64 C.cl, .int .i64 C.cb, .int .i64 C.ht, .int .i64 C.ri, .int .i64 C.ru, .int .i64 C.wd, .int .i64 C.dp], .slice at0 l.length c, .int .i64 x, .int .i64 z, .int .i64 k, .int .i64 j] w fun e w' => e = .returned (.bool true) ∧ New w w' := by
  have KW := Lib.hid (fun W => ra_wakes W)
  have hlm : l.length ≤ maxLen := by obtain ⟨_, h1, h2, _⟩ := h.row'; omega
  have KG := Lib.hid (fun W => ra_great at0 l.length c hlm W)
  have HS := Lib.hid (fun W n => h.keep (n : New w W))
  have KC := Lib.hid (fun W n => r_column C at0 l c hlm x z hx hz W ((h.keep (n : New w W)).row'.2.2.2.2))
  clear h
  by_cases hg : 40 < l.length
  · rw [decide_eq_true hg] at KG
    go_enter Tryz.func4, Tryz.ntmps4
    go_wp2_with fail
    refine (KG.out _).mono ?_
    rintro e w1 ⟨rfl, n1⟩
    have hn1 := New.trans (by (repeat (first | (with_reducible exact New.refl _) | (with_reducible assumption) | ((with_reducible refine New.setB ?_ ?_ _); focus (first | omega | (simp; omega) | (simp; done))) | (with_reducible refine New.alloc ?_ _) | (with_reducible refine New.drew ?_) | (with_reducible refine New.drewN ?_ _) | (with_reducible refine New.hat ?_ _) | ((with_reducible apply New.snart); (with_reducible assumption)))) : New w _) n1
    clear n1
    go_wp2_with fail
    refine (KW.out _).mono ?_
    rintro e w2 ⟨rfl, n2⟩
    have hn2 := hn1.trans n2
    clear n2
    go_wp2_with fail
    go_ret
    exact ⟨rfl, hn2⟩
  · rw [decide_eq_false hg] at KG
    by_cases h0 : l.length = 0
    · rw [h0] at KG
      go_enter Tryz.func4, Tryz.ntmps4
      go_wp2_with fail
      refine (KG.out _).mono ?_
      rintro e w1 ⟨rfl, n1⟩
      have hn1 := New.trans (by (repeat (first | (with_reducible exact New.refl _) | (with_reducible assumption) | ((with_reducible refine New.setB ?_ ?_ _); focus (first | omega | (simp; omega) | (simp; done))) | (with_reducible refine New.alloc ?_ _) | (with_reducible refine New.drew ?_) | (with_reducible refine New.drewN ?_ _) | (with_reducible refine New.hat ?_ _) | ((with_reducible apply New.snart); (with_reducible assumption)))) : New w _) n1
      clear n1
      go_wp2_with fail
      refine (KW.out _).mono ?_
      rintro e w2 ⟨rfl, n2⟩
      have hn2 := hn1.trans n2
      clear n2
      go_wp2_with fail
      go_ret
      exact ⟨rfl, hn2⟩
    · go_enter Tryz.func4, Tryz.ntmps4
      go_wp2_with fail
      generalize hW : World.alloc _ _ = W0
      have n0 : New w W0 := by subst hW; (repeat (first | (with_reducible exact New.refl _) | (with_reducible assumption) | ((with_reducible refine New.setB ?_ ?_ _); focus (first | omega | (simp; omega) | (simp; done))) | (with_reducible refine New.alloc ?_ _) | (with_reducible refine New.drew ?_) | (with_reducible refine New.drewN ?_ _) | (with_reducible refine New.hat ?_ _) | ((with_reducible apply New.snart); (with_reducible assumption))))
      have hB : W0.heap[w.heap.size]? = some (.cells (cfgA C) 23 (0, 0)) := by subst hW; exact World.alloc_heap_new w _
      clear hW
      have HB := Lib.hid (And.intro n0 hB)
      clear n0 hB
      refine (KG.out _).mono ?_
      rintro e w1 ⟨rfl, n1⟩
      have hl0 : ((l.length : Int) == 0) = false := by rw [beq_eq_false_iff_ne]; omega
      obtain ⟨c0, c1, c2, c3, c4, c5, c6⟩ := cfg_cs (n1.blk HB.out.2)
      go_wp2_with fail
      clear c0 c1 c2 c3 c4 c5 c6
      refine (KC.out _ (HB.out.1.trans n1)).mono ?_
      rintro e w2 ⟨v, rfl, hs, n2⟩
      have HS1 := Lib.hid hs
      obtain ⟨va, vc, rfl, -⟩ := hs
      have N2 := Lib.hid (n1.trans n2)
      clear n1 n2
      go_wp2_with fail
      obtain ⟨kn, hkn, ek⟩ := mod_in k l.length (by omega) (by omega)
      obtain ⟨jn, hjn, ej⟩ := mod_in j l.length (by omega) (by omega)
      simp only [ek, ej]
      obtain ⟨b0, off, rfl, hA0⟩ := (HS.out w (New.refl _)).row'.2.2.2.2 (by omega)
      have HA := Lib.hid hA0
      clear hA0 ek ej
      obtain ⟨i0, hi0, hz0, hz1, hz2⟩ := info_parts tri_info
      have hcl := (HS.out w (New.refl _)).row'.2.1
      have hcm := (HS.out w (New.refl _)).row'.2.2.1
      refine wp_region_loose 8 (fun i w' v => match i with
        | 0 => ∃ p, v = .slice (some ⟨p, 0, none⟩) 0 0
        | 1 => v = .slice (some ⟨b0, off, none⟩) l.length c
        | 2 => v = .int .i64 kn
        | 3 => v = .slice (some ⟨b0, off + kn * 10, none⟩) (l.length - kn) (c - kn)
        | 4 => ∃ g cap, v = .slice (some ⟨g, 0, none⟩) (l.length - kn) cap ∧ w'.ownsRow w2.heap.size 43 10 (.slice (some ⟨g, 0, none⟩) (l.length - kn) cap) (l.drop kn).length ((l.drop kn).flatMap TriR.enc)
        | 5 => v = .slice (some ⟨b0, off, none⟩) l.length c
        | 6 => v = .int .i64 kn
        | 7 => v = .slice (some ⟨b0, off, none⟩) kn c
        | _ => True) (by kernel_rfl) (by kernel_rfl) ?_ ?_ ?_
      · intro i w1 w2 v h n
        match i, h with
        | 0, h => exact h
        | 1, h => exact h
        | 2, h => exact h
        | 3, h => exact h
        | 4, ⟨g, cap, h1, h2⟩ => exact ⟨g, cap, h1, own_new h2 n⟩
        | 5, h => exact h
        | 6, h => exact h
        | 7, h => exact h
        | i + 8, _ => trivial
      · intro i o hi ho a' w' nn hr hd
        rcases (show i = 0 ∨ i = 1 ∨ i = 2 ∨ i = 3 ∨ i = 4 ∨ i = 5 ∨ i = 6 ∨ i = 7 by omega) with rfl | rfl | rfl | rfl | rfl | rfl | rfl | rfl <;> obtain rfl := Option.some.inj ho
        · exact yields_value (w' := w'.alloc (.cells #[] 43)) (.slice (some ⟨w'.heap.size, 0, none⟩) 0 0) (by go_simp) ⟨(New.refl _).alloc _, _, rfl⟩
        · have r1 : (a'.tmps[1]?).getD undef = .slice (some ⟨b0, off, none⟩) l.length c := (eval_get a' 1).symm.trans (hr 1 (by kernel_rfl))
          exact yields_value (.slice (some ⟨b0, off, none⟩) l.length c) (by go_simp) ⟨New.refl _, rfl⟩
        · have r4 : (a'.tmps[4]?).getD undef = .int .i64 kn := (eval_get a' 4).symm.trans (hr 4 (by kernel_rfl))
          exact yields_value (.int .i64 kn) (by go_simp) ⟨New.refl _, rfl⟩
        · have r55 : (a'.tmps[55]?).getD undef = .slice (some ⟨b0, off, none⟩) l.length c := (eval_get a' 55).symm.trans (hd 1 55 (by omega) (by kernel_rfl) (by kernel_rfl))
          have r56 : (a'.tmps[56]?).getD undef = .int .i64 kn := (eval_get a' 56).symm.trans (hd 2 56 (by omega) (by kernel_rfl) (by kernel_rfl))
          refine yields_value (.slice (some ⟨b0, off + kn * 10, none⟩) (l.length - kn) (c - kn)) ?_ ⟨New.refl _, rfl⟩
          go_simp
          rw [if_pos (by omega), if_neg (by omega)]
        · obtain ⟨p, e54⟩ := hd 0 54 (by omega) (by kernel_rfl) (by kernel_rfl)
          have e57 := hd 3 57 (by omega) (by kernel_rfl) (by kernel_rfl)
          simp only [] at e57
          have hSd : Sl TriR.enc 10 w' (.slice (some ⟨b0, off + kn * 10, none⟩) (l.drop kn).length (c - kn)) (l.drop kn) := ⟨_, _, rfl, by rw [List.length_drop]; omega, by omega, fun h => (by cases h), fun _ => ⟨b0, off + kn * 10, rfl, (HA.out.keep (HB.out.1.trans (N2.out.trans nn))).drop kn⟩⟩
          obtain ⟨g, cap, w3, hrun, hown, hn3⟩ := run_append_first (P := Tryz.prog) (w := w') 24 24 43 i0 (.agg #[.int .i64 0, .int .i64 0, .int .i64 0, .int .i64 0, .int .i64 0, .int .i64 0, .int .i64 0, .int .i64 0, .int .i64 0, .int .i64 0]) 10 80 Tryz.underlying24 hi0 hz0 hz1 hz2 rfl ⟨p, 0, none⟩ ⟨b0, off + kn * 10, none⟩ (l.length - kn) (c - kn) ((l.drop kn).flatMap TriR.enc) (by rw [flatMap_len TriR.enc_len, List.length_drop]) (sl_news TriR.enc_len hSd) (by omega) (by unfold maxLen; omega) (by omega)
          refine yields_value (.slice (some ⟨g, 0, none⟩) (l.length - kn) cap) (by simp [execOp, resolve, invoke, builtin, e54, e57, hrun, Result.andThen]) ⟨hn3, g, cap, rfl, ?_⟩
          have hlt := nn.size
          rw [List.length_drop]
          refine ⟨hown.1, ?_⟩
          rcases hown.2 with ⟨h, -⟩ | ⟨g', cap', cur, e1, hb, hr⟩
          · cases h
          · exact .inr ⟨g', cap', cur, e1, by omega, hr⟩
        · have r1 : (a'.tmps[1]?).getD undef = .slice (some ⟨b0, off, none⟩) l.length c := (eval_get a' 1).symm.trans (hr 1 (by kernel_rfl))
          exact yields_value (.slice (some ⟨b0, off, none⟩) l.length c) (by go_simp) ⟨New.refl _, rfl⟩
        · have r4 : (a'.tmps[4]?).getD undef = .int .i64 kn := (eval_get a' 4).symm.trans (hr 4 (by kernel_rfl))
          exact yields_value (.int .i64 kn) (by go_simp) ⟨New.refl _, rfl⟩
        · have r59 : (a'.tmps[59]?).getD undef = .slice (some ⟨b0, off, none⟩) l.length c := (eval_get a' 59).symm.trans (hd 5 59 (by omega) (by kernel_rfl) (by kernel_rfl))
          have r60 : (a'.tmps[60]?).getD undef = .int .i64 kn := (eval_get a' 60).symm.trans (hd 6 60 (by omega) (by kernel_rfl) (by kernel_rfl))
          refine yields_value (.slice (some ⟨b0, off, none⟩) kn c) ?_ ⟨New.refl _, rfl⟩
          go_simp
          exact fun h => absurd h (by omega)
      · intro vs w' nn hv
        obtain ⟨g, cap, e4, hown⟩ := hv 4 (by omega)
        have e7 := hv 7 (by omega)
        simp only [] at e7
        clear hv
        simp only [List.take_succ_cons, List.take_zero, List.drop_succ_cons, List.drop_zero, putL, Act.put, List.setIfInBounds_toArray, List.set_cons_zero, List.set_cons_succ, Nat.reduceAdd, Nat.zero_add]
        rw [e4, e7]
        have hSt : Sl TriR.enc 10 w' (.slice (some ⟨b0, off, none⟩) kn c) (l.take kn) := ⟨some ⟨b0, off, none⟩, c, by rw [List.length_take]; congr 1; omega, by rw [List.length_take]; omega, hcm, fun h => (by cases h), fun _ => ⟨b0, off, rfl, (HA.out.keep (HB.out.1.trans (N2.out.trans nn))).take kn⟩⟩
        have hlt := nn.size
        have hdl : (l.drop kn).length = l.length - kn := List.length_drop
        have htl : (l.take kn).length ≤ 40 := by rw [List.length_take]; omega
        go_wp2_with (at_builtin; refine wpList_append_sl rfl _ _ 24 rfl TriR.enc_len TriR.enc_one w2.heap.size 43 i0 (.agg #[.int .i64 0, .int .i64 0, .int .i64 0, .int .i64 0, .int .i64 0, .int .i64 0, .int .i64 0, .int .i64 0, .int .i64 0, .int .i64 0]) 80 Tryz.underlying24 hi0 hz0 hz1 hz2 rfl (by decide) _ (l.drop kn) rfl hown _ (l.take kn) rfl hSt (by unfold maxLen; omega) (by omega) hlt ?_; intro v3 w3 hown3 hnew3 _; have n3 := hnew3 w2 nn (Nat.le_refl _); clear hnew3)
        have HM3 := Lib.hid (And.intro n3 hown3)
        clear hown hSt hown3 n3 nn e4 e7
        have hmem : ∀ T, T ∈ (l.drop kn ++ l.take kn) ++ [l[jn]] ↔ T ∈ l := fun T => by
          constructor
          · intro h
            rcases List.mem_append.1 h with h | h
            · rcases List.mem_append.1 h with h | h
              · exact List.mem_of_mem_drop h
              · exact List.mem_of_mem_take h
            · rw [List.mem_singleton] at h
              rw [h]
              exact List.getElem_mem hjn
          · intro h
            refine List.mem_append_left _ ?_
            rw [← List.take_append_drop kn l] at h
            rcases List.mem_append.1 h with h | h
            · exact List.mem_append_right _ h
            · exact List.mem_append_left _ h
        have hml : (l.drop kn ++ l.take kn).length ≤ 40 := by rw [List.length_append, List.length_drop, List.length_take]; omega
        have hl2 : ((l.drop kn ++ l.take kn) ++ [l[jn]]).length ≤ 41 := by rw [List.length_append]; simp only [List.length_singleton]; omega
        have KC2 := Lib.hid (fun at1 c1 W (h : RowIn TriR.enc 10 W at1 ((l.drop kn ++ l.take kn) ++ [l[jn]])) => r_column C at1 ((l.drop kn ++ l.take kn) ++ [l[jn]]) c1 (by unfold maxLen; omega) x z hx hz W h)
        rw [cE_congr hmem (by omega) (by omega), cR_congr hmem (by omega) (by omega)] at KC2
        have hT2 : (((l.drop kn ++ l.take kn) ++ [l[jn]]).length = (l.drop kn ++ l.take kn).length + 1) := by rw [List.length_append]; rfl
        have hF2 : ((l.drop kn ++ l.take kn) ++ [l[jn]]).flatMap TriR.enc = (l.drop kn ++ l.take kn).flatMap TriR.enc ++ l[jn].enc := by rw [List.flatMap_append]; simp
        generalize (l.drop kn ++ l.take kn) ++ [l[jn]] = l2 at *
        generalize l.drop kn ++ l.take kn = m at *
        clear hmem
        have hR8 : (cR C l x z).length ≤ 1000 := cR_len (by omega)
        have RS := Lib.hid (fun a1 c1 a2 c2 W h1 h2 => rs_same a1 a2 (cR C l x z) (cR C l x z) c1 c2 hR8 hR8 W h1 h2)
        simp only [allEq_self] at RS
        obtain ⟨EE, hEE⟩ : ∃ E, E = cE C l x z := ⟨_, rfl⟩
        obtain ⟨RR, hRR⟩ : ∃ R, R = cR C l x z := ⟨_, rfl⟩
        rw [← hRR] at RS HS1 hR8
        rw [← hEE, ← hRR] at KC2
        rw [← hEE, ← hRR]
        clear hEE hRR
        refine wp_region_ploose 15 (fun j w1 w' => if j = 7 then w1.grownBy w' v3.ownBlock else New w1 w') (fun listed w' => New w2 w' ∧ (listed.getD 7 false = false → New w3 w') ∧ w3.heap.size ≤ w'.heap.size) (fun i w' v => match i with
          | 0 => v = .agg (cfgA C)
          | 1 => v = v3
          | 2 => v = .slice (some ⟨b0, off, none⟩) l.length c
          | 3 => v = .int .i64 jn
          | 4 => v = .pointer (some ⟨b0, off + jn * 10, none⟩)
          | 5 => v = .agg (triA l[jn])
          | 6 => ∃ p, v = .slice (some ⟨p, 0, none⟩) 1 1 ∧ some p ≠ v3.ownBlock ∧ ∀ q u, l[jn].enc[q]? = some u → w'.cell? ((⟨p, 0, none⟩ : Addr).add q) = some u
          | 7 => ∃ a cap, v = .slice a l2.length cap ∧ RowIn TriR.enc 10 w' a l2
          | 8 => v = .int .i64 x
          | 9 => v = .int .i64 z
          | 10 => ∃ a c', v = .tuple #[.slice a RR.length c', .int .i64 EE] ∧ Sl Sn.enc 3 w' (.slice a RR.length c') RR
          | 11 => ∃ a c', v = .tuple #[.slice a RR.length c', .int .i64 EE] ∧ Sl Sn.enc 3 w' (.slice a RR.length c') RR
          | 12 => ∃ a c', v = .slice a RR.length c' ∧ Sl Sn.enc 3 w' (.slice a RR.length c') RR
          | 13 => v = .int .i64 EE
          | 14 => ∃ a c', v = .slice a RR.length c' ∧ Sl Sn.enc 3 w' (.slice a RR.length c') RR
          | _ => True) (by kernel_rfl) (by kernel_rfl) ?_ ?_ ?_ ?_ ?_
        · intro i j' w1 w' v hij hdp h n
          match i, h with
          | 0, h => exact h
          | 1, h => exact h
          | 2, h => exact h
          | 3, h => exact h
          | 4, h => exact h
          | 5, h => exact h
          | 6, ⟨p, h1, h2, h3⟩ =>
            refine ⟨p, h1, h2, fun q u hq => ?_⟩
            by_cases e8 : j' = 7
            · rw [if_pos e8] at n
              exact n.cell (h3 q u hq) (by unfold Addr.add; split <;> exact h2)
            · rw [if_neg e8] at n
              exact (new_gro n).cell (h3 q u hq) (by simp)
          | 7, ⟨a, cap, h1, h2⟩ =>
            rw [if_neg (fun h => hij h.symm)] at n
            exact ⟨a, cap, h1, h2.keep n⟩
          | 8, h => exact h
          | 9, h => exact h
          | 10, ⟨a, c', h1, h2⟩ =>
            by_cases e8 : j' = 7
            · subst e8
              have := hdp.symm.trans (by kernel_rfl : _ = true)
              cases this
            · rw [if_neg e8] at n
              exact ⟨a, c', h1, h2.keep n⟩
          | 11, ⟨a, c', h1, h2⟩ =>
            by_cases e8 : j' = 7
            · subst e8
              have := hdp.symm.trans (by kernel_rfl : _ = true)
              cases this
            · rw [if_neg e8] at n
              exact ⟨a, c', h1, h2.keep n⟩
          | 12, ⟨a, c', h1, h2⟩ =>
            by_cases e8 : j' = 7
            · subst e8
              have := hdp.symm.trans (by kernel_rfl : _ = true)
              cases this
            · rw [if_neg e8] at n
              exact ⟨a, c', h1, h2.keep n⟩
          | 13, h => exact h
          | 14, ⟨a, c', h1, h2⟩ =>
            by_cases e8 : j' = 7
            · subst e8
              have := hdp.symm.trans (by kernel_rfl : _ = true)
              cases this
            · rw [if_neg e8] at n
              exact ⟨a, c', h1, h2.keep n⟩
          | i + 15, _ => trivial
        · exact ⟨(HM3.out.1).trans (Below.drew (Below.refl _ _)), fun _ => Below.drew (Below.refl _ _), Nat.le_refl _⟩
        · intro listed j' w1 w' hj' hs ⟨h1, h2, h3⟩ n
          by_cases e8 : j' = 7
          · rw [if_pos e8] at n
            refine ⟨newGrown h1 n (fun k hk => (HM3.out.2.lt k hk).1), fun h => ?_, Nat.le_trans h3 n.size⟩
            subst e8
            simp [Array.getD_eq_getD_getElem?, hs] at h
          · rw [if_neg e8] at n
            refine ⟨h1.trans n, fun h => ?_, Nat.le_trans h3 n.size⟩
            rw [getD_set_ne false e8] at h
            exact (h2 h).trans n
        · intro i o listed hi ho hls a' w' hKK hr hd
          rcases (show i = 0 ∨ i = 1 ∨ i = 2 ∨ i = 3 ∨ i = 4 ∨ i = 5 ∨ i = 6 ∨ i = 7 ∨ i = 8 ∨ i = 9 ∨ i = 10 ∨ i = 11 ∨ i = 12 ∨ i = 13 ∨ i = 14 by omega) with rfl | rfl | rfl | rfl | rfl | rfl | rfl | rfl | rfl | rfl | rfl | rfl | rfl | rfl | rfl <;> obtain rfl := Option.some.inj ho
          · have r6 : (a'.tmps[6]?).getD undef = .pointer (some ⟨w.heap.size, 0, none⟩) := (eval_get a' 6).symm.trans (hr 6 (by kernel_rfl))
            obtain ⟨c0, c1, c2, c3, c4, c5, c6⟩ := cfg_cs ((N2.out.trans hKK.1).blk HB.out.2)
            exact yields_value (.agg (cfgA C)) (by unfold cfgA; go_simp) ⟨New.refl _, rfl⟩
          · have r15 : (a'.tmps[15]?).getD undef = v3 := (eval_get a' 15).symm.trans (hr 15 (by kernel_rfl))
            exact yields_value (v3) (by go_simp) ⟨New.refl _, rfl⟩
          · have r1 : (a'.tmps[1]?).getD undef = .slice (some ⟨b0, off, none⟩) l.length c := (eval_get a' 1).symm.trans (hr 1 (by kernel_rfl))
            exact yields_value (.slice (some ⟨b0, off, none⟩) l.length c) (by go_simp) ⟨New.refl _, rfl⟩
          · have r5 : (a'.tmps[5]?).getD undef = .int .i64 jn := (eval_get a' 5).symm.trans (hr 5 (by kernel_rfl))
            exact yields_value (.int .i64 jn) (by go_simp) ⟨New.refl _, rfl⟩
          · have r66 : (a'.tmps[66]?).getD undef = .slice (some ⟨b0, off, none⟩) l.length c := (eval_get a' 66).symm.trans (hd 2 66 (by omega) (by kernel_rfl) (by kernel_rfl))
            have r67 : (a'.tmps[67]?).getD undef = .int .i64 jn := (eval_get a' 67).symm.trans (hd 3 67 (by omega) (by kernel_rfl) (by kernel_rfl))
            exact yields_value (.pointer (some ⟨b0, off + jn * 10, none⟩)) (by go_simp) ⟨New.refl _, rfl⟩
          · have r68 : (a'.tmps[68]?).getD undef = .pointer (some ⟨b0, off + jn * 10, none⟩) := (eval_get a' 68).symm.trans (hd 4 68 (by omega) (by kernel_rfl) (by kernel_rfl))
            obtain ⟨d0, d1, d2, d3, d4, d5, d6, d7, d8, d9⟩ := TriR.cells (HA.out.keep (HB.out.1.trans (N2.out.trans hKK.1))) jn hjn
            exact yields_value (.agg (triA l[jn])) (by unfold triA; go_simp) ⟨New.refl _, rfl⟩
          · have r69 : (a'.tmps[69]?).getD undef = .agg (triA l[jn]) := (eval_get a' 69).symm.trans (hd 5 69 (by omega) (by kernel_rfl) (by kernel_rfl))
            unfold triA at r69
            refine yields_value (w' := w'.alloc (.cells (triA l[jn]) 43)) (.slice (some ⟨w'.heap.size, 0, none⟩) 1 1) (by unfold triA; go_simp) ⟨(New.refl _).alloc _, _, rfl, fun h => ?_, fun q u hq => new_add w' (triA l[jn]) 43 q u hq⟩
            have h1 := (HM3.out.2.lt _ h.symm).2
            have h2 := hKK.2.2
            omega
          · have e65 := hd 1 65 (by omega) (by kernel_rfl) (by kernel_rfl)
            simp only [] at e65
            obtain ⟨p, e70, hp2, hp3⟩ := hd 6 70 (by omega) (by kernel_rfl) (by kernel_rfl)
            have nw := hKK.2.1 hls
            have hz3 := hKK.1.size
            obtain ⟨v', w5, hrun, hown, hgrow, -, hat⟩ := run_append_own_at (P := Tryz.prog) (w := w') w2.heap.size 24 24 43 i0 (.agg #[.int .i64 0, .int .i64 0, .int .i64 0, .int .i64 0, .int .i64 0, .int .i64 0, .int .i64 0, .int .i64 0, .int .i64 0, .int .i64 0]) 10 80 Tryz.underlying24 hi0 hz0 hz1 hz2 rfl (by decide) v3 _ _ (own_new HM3.out.2 nw) ⟨p, 0, none⟩ 1 1 l[jn].enc rfl hp3 (TriR.enc_one _) (by unfold maxLen; omega) (by omega) hz3
            rw [← hF2, ← hT2] at hown
            obtain ⟨a1, cap1, e1, -, -, -, hrow⟩ := own_sl TriR.enc_len hown
            exact yields_value v' (by simp [execOp, resolve, invoke, builtin, e65, e70, hrun, Result.andThen]) ⟨hgrow, a1, cap1, e1, hrow⟩
          · have r2 : (a'.tmps[2]?).getD undef = .int .i64 x := (eval_get a' 2).symm.trans (hr 2 (by kernel_rfl))
            exact yields_value (.int .i64 x) (by go_simp) ⟨New.refl _, rfl⟩
          · have r3 : (a'.tmps[3]?).getD undef = .int .i64 z := (eval_get a' 3).symm.trans (hr 3 (by kernel_rfl))
            exact yields_value (.int .i64 z) (by go_simp) ⟨New.refl _, rfl⟩
          · have r64 : (a'.tmps[64]?).getD undef = .agg (cfgA C) := (eval_get a' 64).symm.trans (hd 0 64 (by omega) (by kernel_rfl) (by kernel_rfl))
            obtain ⟨a1, cap1, e71, hrow⟩ := hd 7 71 (by omega) (by kernel_rfl) (by kernel_rfl)
            have r71 : (a'.tmps[71]?).getD undef = .slice a1 l2.length cap1 := (eval_get a' 71).symm.trans e71
            have r72 : (a'.tmps[72]?).getD undef = .int .i64 x := (eval_get a' 72).symm.trans (hd 8 72 (by omega) (by kernel_rfl) (by kernel_rfl))
            have r73 : (a'.tmps[73]?).getD undef = .int .i64 z := (eval_get a' 73).symm.trans (hd 9 73 (by omega) (by kernel_rfl) (by kernel_rfl))
            refine yields_enter 8 #[.agg (cfgA C), .slice a1 l2.length cap1, .int .i64 x, .int .i64 z] (by go_simp) ((KC2.out a1 cap1 w' hrow).mono ?_)
            rintro e w'' ⟨v, rfl, hs, n⟩
            have hs' := hs
            obtain ⟨a, c', rfl, -⟩ := hs
            exact ⟨_, rfl, n, a, c', rfl, hs'⟩
          · obtain ⟨a, c', e74, hs⟩ := hd 10 74 (by omega) (by kernel_rfl) (by kernel_rfl)
            have r74 : (a'.tmps[74]?).getD undef = _ := (eval_get a' 74).symm.trans e74
            exact yields_value (.tuple #[.slice a RR.length c', .int .i64 EE]) (by go_simp) ⟨New.refl _, a, c', rfl, hs⟩
          · obtain ⟨a, c', e63, hs⟩ := hd 11 63 (by omega) (by kernel_rfl) (by kernel_rfl)
            have r63 : (a'.tmps[63]?).getD undef = _ := (eval_get a' 63).symm.trans e63
            exact yields_value (.slice a RR.length c') (by go_simp) ⟨New.refl _, a, c', rfl, hs⟩
          · obtain ⟨a, c', e63, hs⟩ := hd 11 63 (by omega) (by kernel_rfl) (by kernel_rfl)
            have r63 : (a'.tmps[63]?).getD undef = _ := (eval_get a' 63).symm.trans e63
            exact yields_value (.int .i64 EE) (by go_simp) ⟨New.refl _, rfl⟩
          · obtain ⟨a, c', e75, hs⟩ := hd 12 75 (by omega) (by kernel_rfl) (by kernel_rfl)
            have r75 : (a'.tmps[75]?).getD undef = _ := (eval_get a' 75).symm.trans e75
            exact yields_value (.slice a RR.length c') (by go_simp) ⟨New.refl _, a, c', rfl, hs⟩
        · intro vs w4 listed hKK hv
          obtain ⟨a2, c2, e14, hs2⟩ := hv 14 (by omega)
          have e13 := hv 13 (by omega)
          simp only [] at e13
          clear hv
          simp only [List.take_succ_cons, List.take_zero, List.drop_succ_cons, List.drop_zero, putL, Act.put, List.setIfInBounds_toArray, List.set_cons_zero, List.set_cons_succ, Nat.reduceAdd, Nat.zero_add]
          rw [e13, e14]
          have HE := Lib.hid (And.intro hKK.1 hs2)
          clear hKK hs2 e13 e14
          go_wp2_with fail
          refine (RS.out _ _ _ _ _ (HS1.out.keep HE.out.1) HE.out.2).mono ?_
          rintro e w5 ⟨rfl, n5⟩
          have N5 := Lib.hid (HB.out.1.trans (N2.out.trans (HE.out.1.trans n5)))
          clear n5
          go_wp2_with fail
          refine (KW.out _).mono ?_
          rintro e w6 ⟨rfl, n6⟩
          have N6 := Lib.hid (N5.out.trans n6)
          clear n6
          go_wp2_with fail
          go_ret
          exact ⟨rfl, N6.out⟩

end Go.Proofs.YtccikeagbillgaaGreat
