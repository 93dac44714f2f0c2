import Derived.Test.YtlpdfnkfknbopaaSoQZ
import Derived.Test.YtlpdfnkfknbopaaSoTT
import Derived.Test.YtlpdfnkfknbopaaSoUT
import Derived.Test.YtlpdfnkfknbopaaSoZT
import Derived.Test.YtlpdfnkfknbopaaSoOZ
import Derived.Test.YtlpdfnkfknbopaaSoYZ
import Derived.Test.YtlpdfnkfknbopaaLoose
import Derived.Test.YtlpdfnkfknbopaaSoS
import Derived.Test.YtlpdfnkfknbopaaSoHT
import Derived.Test.YtlpdfnkfknbopaaSoG
import Derived.Test.YtlpdfnkfknbopaaSoR
import Derived.Test.YtlpdfnkfknbopaaTriN
import Derived.Test.YtlpdfnkfknbopaaRows
import Derived.WalkKit
import Derived.ProofKit
import Derived.OpenShut
import Derived.ShutString
import Derived.ChangeOld
import Derived.Below
import Derived.Carry
import Derived.Outline
import Derived.Deep.DeepCutAuto
import Derived.Deep.LoopGhost

/- Package soup: what AddTri and Drop come to, whatever is asked. -/
namespace Go.Proofs.Ytlpdfnkfknbopaa
open Go.RowKit
set_option linter.unusedVariables false

/-- What AddTri answers: the lists, and the error. -/
inductive AddT (C : CfgR) (S : SoupV) (x : TriR) : List TriR → List BoxR → List HopR → Int → Prop
  | err (h : S.err C ≠ 0) : AddT C S x [] [] [] (S.err C)
  | wrong (h : S.err C = 0) (hm : x.may C = false) : AddT C S x [] [] [] 40
  | twice (h : S.err C = 0) (hm : x.may C = true) (p : Nat) (hp : TriR.Place S.ts x.i p) (hh : TriR.hit S.ts x.i p = true) : AddT C S x [] [] [] 50
  | full (h : S.err C = 0) (hm : x.may C = true) (p : Nat) (hp : TriR.Place S.ts x.i p) (hh : TriR.hit S.ts x.i p = false) (hf : S.ts.length = 200) : AddT C S x [] [] [] 51
  | ok (h : S.err C = 0) (hm : x.may C = true) (p : Nat) (hp : TriR.Place S.ts x.i p) (hh : TriR.hit S.ts x.i p = false) (hf : S.ts.length ≠ 200) : AddT C S x (TriR.put S.ts p x) S.bs S.hs 0

theorem SoupV.err_zero {C : CfgR} {S : SoupV} (h : S.err C = 0) : C.err = 0 ∧ TriR.listB C S.ts = true ∧ BoxR.listB C S.bs = true ∧ HopR.listB C S.hs = true := by
  unfold SoupV.err at h
  by_cases hc : C.err ≠ 0
  · rw [if_pos hc] at h; cases h
  · rw [if_neg hc] at h
    split at h
    · exact ⟨by simpa using hc, ‹_›⟩
    · cases h
theorem SoupV.err_mk {C : CfgR} {S : SoupV} (h : C.err = 0 ∧ TriR.listB C S.ts = true ∧ BoxR.listB C S.bs = true ∧ HopR.listB C S.hs = true) : S.err C = 0 := by
  unfold SoupV.err
  rw [if_neg (by simp [h.1]), if_pos h.2]
theorem SoupV.err_two (C : CfgR) (S : SoupV) : S.err C = 0 ∨ S.err C = 2 ∨ S.err C = 20 := by
  unfold SoupV.err
  split
  · exact Or.inr (Or.inr rfl)
  · split
    · exact Or.inl rfl
    · exact Or.inr (Or.inl rfl)

theorem addT_any (C : CfgR) (S : SoupV) (x : TriR) (hf : S.few) : ∃ T B H er, AddT C S x T B H er ∧ ∀ w, S.ok w →
    Calls Try.prog 8 #[.agg #[.int .i64 C.cl, .int .i64 C.cb, .int .i64 C.ht, .int .i64 C.ri, .int .i64 C.ru, .int .i64 C.wd, .int .i64 C.dp], .agg #[.slice S.a0 S.ts.length S.c0, .slice S.a1 S.bs.length S.c1, .slice S.a2 S.hs.length S.c2], .agg #[.int .i64 x.i, .int .i64 x.x0, .int .i64 x.y0, .int .i64 x.z0, .int .i64 x.x1, .int .i64 x.y1, .int .i64 x.z1, .int .i64 x.x2, .int .i64 x.y2, .int .i64 x.z2]] w (SoupE T B H er w) := by
  by_cases he : S.err C = 0
  rotate_left
  · exact ⟨_, _, _, _, .err he, fun w hS => t_Add C S x _ _ _ _ w fun W n => t_add_err C S x W (hS.keep n) _ rfl he⟩
  cases hm : x.may C
  · exact ⟨_, _, _, _, .wrong he hm, fun w hS => t_Add C S x _ _ _ _ w fun W n => t_add_wrong C S x W (hS.keep n) he hm⟩
  obtain ⟨p, hp⟩ := TriR.place (TriR.listB_iff.1 (SoupV.err_zero he).2.1).2.2 x.i
  cases hh : TriR.hit S.ts x.i p
  · by_cases hl : S.ts.length = 200
    · exact ⟨_, _, _, _, .full he hm p hp hh hl, fun w hS => t_Add C S x _ _ _ _ w fun W n => t_add_full C S x W (hS.keep n) he hm (by have := hf.t; omega) p hp hh hl⟩
    · exact ⟨_, _, _, _, .ok he hm p hp hh hl, fun w hS => t_Add C S x _ _ _ _ w fun W n => t_add_ok C S x W (hS.keep n) he hm hf.t hf.b hf.h p hp hh hl⟩
  · exact ⟨_, _, _, _, .twice he hm p hp hh, fun w hS => t_Add C S x _ _ _ _ w fun W n => t_add_twice C S x W (hS.keep n) he hm (by have := hf.t; omega) p hp hh⟩

/-- What Drop answers. -/
inductive DropS (S : SoupV) (kind id : Int) : List TriR → List BoxR → List HopR → Int → Prop
  | arg (h0 : kind ≠ 0) (h1 : kind ≠ 1) (h2 : kind ≠ 2) : DropS S kind id [] [] [] 2
  | none0 (h : kind = 0) (hz : TriR.IsFirst S.ts id (-1)) : DropS S kind id [] [] [] 4
  | none1 (h : kind = 1) (hz : BoxR.IsFirst S.bs id (-1)) : DropS S kind id [] [] [] 4
  | none2 (h : kind = 2) (hz : HopR.IsFirst S.hs id (-1)) : DropS S kind id [] [] [] 4
  | some0 (h : kind = 0) (j : Nat) (hj : j < S.ts.length) (hz : TriR.IsFirst S.ts id j) : DropS S kind id (S.ts.take j ++ S.ts.drop (j + 1)) S.bs S.hs 0
  | some1 (h : kind = 1) (j : Nat) (hj : j < S.bs.length) (hz : BoxR.IsFirst S.bs id j) : DropS S kind id S.ts (S.bs.take j ++ S.bs.drop (j + 1)) S.hs 0
  | some2 (h : kind = 2) (j : Nat) (hj : j < S.hs.length) (hz : HopR.IsFirst S.hs id j) : DropS S kind id S.ts S.bs (S.hs.take j ++ S.hs.drop (j + 1)) 0

theorem drop_any (S : SoupV) (kind id : Int) (hf : S.few) : ∃ T B H er, DropS S kind id T B H er ∧ ∀ w, S.ok w →
    Calls Try.prog 16 #[.agg #[.slice S.a0 S.ts.length S.c0, .slice S.a1 S.bs.length S.c1, .slice S.a2 S.hs.length S.c2], .int .i64 kind, .int .i64 id] w (SoupE T B H er w) := by
  have f1 := hf.t
  have f2 := hf.b
  have f3 := hf.h
  by_cases h0 : kind = 0
  · subst h0
    obtain ⟨z, hz⟩ := TriR.isFirst S.ts id
    have hz0 := hz
    rcases hz0 with ⟨rfl, _⟩ | ⟨j, hj, rfl, _⟩
    · exact ⟨_, _, _, _, .none0 rfl hz, fun w hS => t_Drop S _ _ _ _ _ w fun W n => t_drop_none S _ hz W (hS.keep n)⟩
    · exact ⟨_, _, _, _, .some0 rfl j hj hz, fun w hS => t_Drop S _ _ _ _ _ w fun W n => t_drop_some S _ j hj hz W (hS.keep n) (by omega) (by omega) (by omega)⟩
  by_cases h1 : kind = 1
  · subst h1
    obtain ⟨z, hz⟩ := BoxR.isFirst S.bs id
    have hz0 := hz
    rcases hz0 with ⟨rfl, _⟩ | ⟨j, hj, rfl, _⟩
    · exact ⟨_, _, _, _, .none1 rfl hz, fun w hS => b_Drop S _ _ _ _ _ w fun W n => b_drop_none S _ hz W (hS.keep n)⟩
    · exact ⟨_, _, _, _, .some1 rfl j hj hz, fun w hS => b_Drop S _ _ _ _ _ w fun W n => b_drop_some S _ j hj hz W (hS.keep n) (by omega) (by omega) (by omega)⟩
  by_cases h2 : kind = 2
  · subst h2
    obtain ⟨z, hz⟩ := HopR.isFirst S.hs id
    have hz0 := hz
    rcases hz0 with ⟨rfl, _⟩ | ⟨j, hj, rfl, _⟩
    · exact ⟨_, _, _, _, .none2 rfl hz, fun w hS => h_Drop S _ _ _ _ _ w fun W n => h_drop_none S _ hz W (hS.keep n)⟩
    · exact ⟨_, _, _, _, .some2 rfl j hj hz, fun w hS => h_Drop S _ _ _ _ _ w fun W n => h_drop_some S _ j hj hz W (hS.keep n) (by omega) (by omega) (by omega)⟩
  · exact ⟨_, _, _, _, .arg h0 h1 h2, fun w hS => s_Drop_arg S kind id h0 h1 h2 w⟩

end Go.Proofs.Ytlpdfnkfknbopaa

/- The same, where one operation (an extraction: number e) may also come behind the store (number n) that waits for all the others. No function of the program in sight. -/
namespace Go.Proofs.Ytlpdfnkfknbopaa
open Go.RowKit
set_option linter.unusedVariables false

section
variable {P : Program} {ops : Array Oper} {W : World} {n e : Nat}

def sinkE (ops : Array Oper) (n e : Nat) : Bool :=
  (List.range n).all fun i => i == e || (List.range (n + 1)).any fun j => decide (i < j) && j != e && Region.waitsFor .any ops j i

theorem tail_waitsE {listed : Array Bool} (hs : sinkE ops n e = true) (hc : chain2B ops n = true) (hn : n < ops.size) (inv : HeadInv .any ops n listed) (i : Nat) (hi : i < n) (hie : i ≠ e) (hun : listed.getD i true = false) :
    ∀ t, n ≤ t → t ∉ Region.ready .any ops listed := by
  intro t ht hr
  obtain ⟨_, ot, hot, hall⟩ := mem_ready.1 hr
  have htlt : t < ops.size := (Array.getElem?_eq_some_iff.1 hot).1
  by_cases htn : t = n
  · subst htn
    have key : ∀ (d i : Nat), t - i = d → i < t → i ≠ e → listed.getD i true = false → False := by
      intro d
      induction d using Nat.strongRecOn with
      | _ d ih =>
        intro i hd hi hie hun
        have h1 := List.all_eq_true.1 hs i (List.mem_range.2 hi)
        simp only [Bool.or_eq_true, beq_iff_eq, hie, false_or] at h1
        obtain ⟨j, hj, hj2⟩ := List.any_eq_true.1 h1
        simp only [Bool.and_eq_true, decide_eq_true_eq, bne_iff_ne] at hj2
        obtain ⟨oj, hoj, x, he, hb, hon⟩ := Region.waitsFor_spec hj2.2
        have hjle : j ≤ t := by have := List.mem_range.1 hj; omega
        by_cases hjt : j = t
        · subst hjt
          have : oj = ot := Option.some.inj (hoj.symm.trans hot)
          subst this
          have h2 := hall x he hb
          rw [hon, getD_both hun] at h2
          cases h2
        · cases hl : listed.getD j false with
          | true =>
            have h2 := inv.closed j oj hoj hl x he hb
            rw [hon, getD_both hun] at h2
            cases h2
          | false =>
            have hjs : j < listed.size := by rw [inv.size]; omega
            exact ih (t - j) (by omega) j rfl (by omega) hj2.1.2 (getD_in hjs hl)
    exact key _ i rfl hi hie hun
  · have h1 := List.all_eq_true.1 hc t (List.mem_range.2 htlt)
    simp only [Bool.or_eq_true, decide_eq_true_eq] at h1
    rcases h1 with h1 | h1
    · omega
    · obtain ⟨j, hj, hj2⟩ := List.any_eq_true.1 h1
      simp only [Bool.and_eq_true, decide_eq_true_eq] at hj2
      have hjt := List.mem_range.1 hj
      obtain ⟨o', ho', x, he, hb, hon⟩ := Region.waitsFor_spec hj2.2
      have : o' = ot := Option.some.inj (ho'.symm.trans hot)
      subst this
      have h2 := hall x he hb
      rw [hon, getD_both (inv.tail j hj2.1 (by omega))] at h2
      cases h2

/-- What the text's order gives of an operation's step, on the invariant. -/
theorem linv_step {V : Nat → World → Value → Prop} {a a' : Act} {listed : Array Bool} {w' w'' : World} {i d : Nat} {o : Oper} {v : Value} (hV : ∀ i w w' v, V i w v → New w w' → V i w' v) (K : LInv ops W n V a listed a' w') (hin : i < n) (hoi : ops[i]? = some o) (hd : o.dst = some d) (hds : d < a.tmps.size)
    (hdis : ∀ k o', k < n → k ≠ i → ops[k]? = some o' → o'.dst ≠ some d) (hn : New w' w'') (hv : V i w'' v) : LInv ops W n V a (listed.setIfInBounds i true) (a'.put (some d) v) w'' := by
  refine ⟨K.new.trans hn, by rw [put_def]; exact K.defs, by rw [put_size]; exact K.size, fun s h => ?_, fun j oj dj hj hoj hl hdj => ?_⟩
  · rw [put_get_ne (by rintro _ ⟨rfl⟩ x; subst x; exact h i o hin hoi hd)]
    exact K.same s h
  · by_cases hji : j = i
    · subst hji
      obtain rfl : oj = o := Option.some.inj (hoj.symm.trans hoi)
      obtain rfl : dj = d := Option.some.inj (hdj.symm.trans hd)
      rw [eval_get, put_get_eq (by rw [K.size]; exact hds)]
      exact hv
    · rw [getD_set_ne false (fun x => hji x.symm)] at hl
      have h1 := hdis j oj hj hji hoj
      rw [eval_get, put_get_ne (by rintro _ ⟨rfl⟩ x; subst x; exact h1 hdj), ← eval_get]
      exact hV _ _ _ _ (K.held j oj dj hj hoj hl hdj) hn

/-- All listed: the frame is the text's, with values of which all is true that was told. -/
theorem linv_putL {l : List Oper} {V : Nat → World → Value → Prop} {a a' : Act} {listed : Array Bool} {w' : World} (ho : ∀ j, j < n → opB l.toArray n a.tmps.size j = true) (hall : ∀ j, j < n → listed.getD j false = true) (K : LInv l.toArray W n V a listed a' w') :
    ∃ vs : Nat → Value, (∀ j, j < n → V j w' (vs j)) ∧ putL (l.take n) vs 0 a = a' := by
  refine ⟨fun j => a'.eval (.tmp (((l.toArray[j]?).bind (·.dst)).getD 0)), fun j hj => ?_, ?_⟩
  · obtain ⟨o, d, hoj, _, hd, _⟩ := opB_spec (ho j hj)
    have := K.held j o d hj hoj (hall j hj) hd
    show V j w' (a'.eval (.tmp (((l.toArray[j]?).bind (·.dst)).getD 0)))
    rw [hoj]
    show V j w' (a'.eval (.tmp (o.dst.getD 0)))
    rw [hd]
    exact this
  · have hta : ∀ i o, (l.take n)[i]? = some o → i < n ∧ l.toArray[i]? = some o := fun i o h => by
      have h1 : i < (l.take n).length := (List.getElem?_eq_some_iff.1 h).1
      have h2 : i < n := by simp at h1; omega
      rw [List.getElem?_take, if_pos h2] at h
      exact ⟨h2, by simpa using h⟩
    refine act_eq (by rw [putL_def, K.defs]) fun s => ?_
    by_cases hw : ∃ j oj, j < n ∧ l.toArray[j]? = some oj ∧ oj.dst = some s
    · obtain ⟨j, oj, hj, hoj, hd⟩ := hw
      obtain ⟨o, d, hoj', _, hd', hds, hdis, _⟩ := opB_spec (ho j hj)
      obtain rfl : oj = o := Option.some.inj (hoj.symm.trans hoj')
      obtain rfl : s = d := Option.some.inj (hd.symm.trans hd')
      rw [putL_some (l.take n) _ 0 a j oj (by rw [List.getElem?_take, if_pos hj]; simpa using hoj) hd hds fun i o' hi hij hd2 => hdis i o' (hta i o' hi).1 hij (hta i o' hi).2 hd2]
      rw [Nat.zero_add, hoj]
      show some (a'.eval (.tmp ((oj.dst).getD 0))) = _
      rw [hd]
      show some (a'.eval (.tmp s)) = _
      rw [eval_get, Array.getElem?_eq_getElem (by rw [K.size]; exact hds)]
      rfl
    · rw [putL_none _ _ _ _ fun o ho' hd => by
        obtain ⟨i, hi, he⟩ := List.getElem_of_mem ho'
        have := hta i o (by rw [List.getElem?_eq_getElem hi, he])
        exact hw ⟨i, o, this.1, this.2, hd⟩]
      exact (K.same s fun j oj hj hoj hd => hw ⟨j, oj, hj, hoj, hd⟩).symm

/-- The operations' loop, but for the end. -/
theorem wpAny_looseE {V : Nat → World → Value → Prop} {a : Act} {Q : Exit → Act → World → Prop} {g : Nat} (he : e < n) (hs : sinkE ops n e = true) (hc : chain2B ops n = true) (hlt : n < ops.size) (ho : ∀ j, j < n → opB ops n a.tmps.size j = true)
    (hV : ∀ i w w' v, V i w v → New w w' → V i w' v)
    (hstep : ∀ i o, i < n → ops[i]? = some o → ∀ a' w', New W w' → (∀ t, restsB ops n t = true → a'.eval (.tmp t) = a.eval (.tmp t)) → (∀ j d, j < n → waitsB o j = true → (ops[j]?).bind (·.dst) = some d → V j w' (a'.eval (.tmp d))) → Yields P o a' w' fun v w'' => New w' w'' ∧ V i w'' v)
    (hL : ∀ listed a' w', (∀ j, j < n → listed.getD j false = true) → HeadInv .any ops n listed → LInv ops W n V a listed a' w' → wpAny P .any ops Q g listed a' w')
    (hE : ∀ listed a' w', (∀ j, j < n → j ≠ e → listed.getD j false = true) → listed.getD e false = false → HeadInv .any ops n listed → LInv ops W n V a listed a' w' → wpAny P .any ops Q (g + 1) listed a' w') :
    ∀ (f : Nat) (listed : Array Bool) (a' : Act) (w' : World), HeadInv .any ops n listed → toCome listed n = f → LInv ops W n V a listed a' w' → wpAny P .any ops Q (f + g) listed a' w'
  | 0, listed, a', w', inv, hf, K => by rw [Nat.zero_add]; exact hL _ _ _ (toCome_zero n hf) inv K
  | f + 1, listed, a', w', inv, hf, K => by
    by_cases hH : ∃ i, i < n ∧ i ≠ e ∧ listed.getD i false = false
    rotate_left
    · have hall : ∀ j, j < n → j ≠ e → listed.getD j false = true := fun j hj hje => by
        cases h : listed.getD j false with
        | true => rfl
        | false => exact absurd ⟨j, hj, hje, h⟩ hH
      obtain ⟨i0, hi0, hf0⟩ := toCome_some (listed := listed) n (by omega)
      have h0e : i0 = e := by
        by_cases h : i0 = e
        · exact h
        · rw [hall i0 hi0 h] at hf0; cases hf0
      subst h0e
      have hse := toCome_set (i := i0) (listed := listed) (by rw [inv.size]; omega) hf0 n hi0
      have hz : toCome (listed.setIfInBounds i0 true) n = 0 := by
        rcases Nat.eq_zero_or_pos (toCome (listed.setIfInBounds i0 true) n) with q | q
        · exact q
        · obtain ⟨j, hj, hjf⟩ := toCome_some n q
          by_cases hji : j = i0
          · subst hji
            have : (listed.setIfInBounds j true).getD j false = true := by simp [Array.getD_eq_getD_getElem?, show j < listed.size by rw [inv.size]; omega]
            rw [this] at hjf; cases hjf
          · rw [getD_set_ne false (fun x => hji x.symm), hall j hj hji] at hjf; cases hjf
      have hf1 : f = 0 := by omega
      subst hf1
      rw [show 0 + 1 + g = g + 1 by omega]
      exact hE _ _ _ hall hf0 inv K
    obtain ⟨ih, hih1, hih2, hih3⟩ := hH
    rw [show f + 1 + g = (f + g) + 1 by omega]
    obtain ⟨i0, hi0, hm0⟩ := exists_least (toCome_some n (by omega : 0 < toCome listed n))
    obtain ⟨o0, d0, ho0, _, _, _, _, haf⟩ := opB_spec (ho i0 hi0.1)
    have hsz : i0 < listed.size := by rw [inv.size]; omega
    have hr0 : i0 ∈ Region.ready .any ops listed := mem_ready.2 ⟨getD_in hsz hi0.2, o0, ho0, fun x he hb => by
      have h1 := haf x he hb
      cases hl : listed.getD x.on false with
      | true => rfl
      | false => have := hm0 x.on ⟨by omega, hl⟩; omega⟩
    refine ⟨fun h0 => absurd hr0 (by rw [h0]; simp), fun i hi => ?_⟩
    have hin : i < n := Nat.lt_of_not_le fun h => tail_waitsE hs hc hlt inv ih hih1 hih2 (getD_in (by rw [inv.size]; omega) hih3) i h hi
    obtain ⟨hun, o', ho', hall⟩ := mem_ready.1 hi
    obtain ⟨o, d, hoi, hg, hd, hds, hdis, _⟩ := opB_spec (ho i hin)
    obtain rfl : o' = o := Option.some.inj (ho'.symm.trans hoi)
    unfold wpOp
    simp only [hoi]
    have hw : Region.wanted o' (yielded ops a'.tmps) = true := by unfold Region.wanted; rw [hg]
    rw [if_pos hw]
    refine .inl (yields_wp (hstep i o' hin hoi a' w' K.new (fun t ht => ?_) (fun j dj hj hwj hdj => ?_)) fun v w'' ⟨hn, hv⟩ => ?_)
    · rw [eval_get, eval_get, K.same t fun j oj hj hoj hd' => by
        have h1 := List.all_eq_true.1 ht j (List.mem_range.2 hj)
        simp only [hoj, bne_iff_ne] at h1
        exact h1 hd']
    · obtain ⟨x, he, hb⟩ := Array.any_eq_true'.1 hwj
      simp only [Bool.and_eq_true, beq_iff_eq] at hb
      have h1 := hall x he hb.1
      rw [hb.2] at h1
      cases hoj : ops[j]? with
      | none => rw [hoj] at hdj; cases hdj
      | some oj =>
        rw [hoj] at hdj
        exact K.held j oj dj hj hoj h1 hdj
    · rw [hd]
      exact wpAny_looseE he hs hc hlt ho hV hstep hL hE f _ _ _ (inv.set hi hin) (by have := toCome_set (by rw [inv.size]; omega) (getD_both hun) n hin; omega) (linv_step hV K hin hoi hd hds hdis hn hv)

def looseE (ops : Array Oper) (n e sz : Nat) : Bool :=
  sinkE ops n e && chain2B ops n && decide (n < ops.size) && decide (e < n) && (List.range n).all (opB ops n sz) && Region.seqB .any ops (ops.size - n) n (heads ops.size n) &&
  (Region.ready .any ops ((heads ops.size n).setIfInBounds e false)).all (fun j => j == e || j == n) && (Region.ready .any ops ((heads ops.size n).setIfInBounds e false)).contains e &&
  decide (Region.ready .any ops (((heads ops.size n).setIfInBounds e false).setIfInBounds n true) = [e]) && Region.seqB .any ops (ops.size - (n + 1)) (n + 1) ((((heads ops.size n).setIfInBounds e false).setIfInBounds n true).setIfInBounds e true)

theorem wp_region_loose_e {id : Nat} {Q : Exit → Act → World → Prop} {a : Act} {w : World} {l : List Oper} (n e : Nat) (V : Nat → World → Value → Prop) {oe os : Oper} {de : Nat} (hm : P.follows .mixedOrders = true) (hB : looseE l.toArray n e a.tmps.size = true)
    (hoe : l.toArray[e]? = some oe) (hde : oe.dst = some de) (hos : l.toArray[n]? = some os) (hod : os.dst = none) (hog : os.guard = none) (hlook : de ∉ os.looksAt l.toArray) (hsel : ∀ cs b, os.op ≠ .select cs b)
    (hV : ∀ i w w' v, V i w v → New w w' → V i w' v)
    (hstep : ∀ i o, i < n → l.toArray[i]? = some o → ∀ a' w', New w w' → (∀ t, restsB l.toArray n t = true → a'.eval (.tmp t) = a.eval (.tmp t)) → (∀ j d, j < n → waitsB o j = true → (l.toArray[j]?).bind (·.dst) = some d → V j w' (a'.eval (.tmp d))) → Yields P o a' w' fun v w'' => New w' w'' ∧ V i w'' v)
    (hpure : ∀ (a' : Act) (w' : World), New w w' → (∀ j d, j < n → waitsB oe j = true → (l.toArray[j]?).bind (·.dst) = some d → V j w' (a'.eval (.tmp d))) → ∃ v, ∀ W, (execOp a'.eval oe).run P W = .ok (.value v) W)
    (htail : ∀ vs w', New w w' → (∀ j, j < n → V j w' (vs j)) → ∃ w2, (execOp (putL (l.take n) vs 0 a).eval os).run P w' = .ok .skip w2 ∧ wpList P l.toArray Q (l.drop (n + 1)) (putL (l.take n) vs 0 a) w2) : (Code.region id l.toArray true).wp P Q a w := by
  simp only [looseE, Bool.and_eq_true, decide_eq_true_eq] at hB
  obtain ⟨⟨⟨⟨⟨⟨⟨⟨⟨hs, hc⟩, hlt⟩, hen⟩, hops⟩, hseq⟩, hr1⟩, hr2⟩, hr3⟩, hseq2⟩ := hB
  have ho : ∀ j, j < n → opB l.toArray n a.tmps.size j = true := fun j hj => List.all_eq_true.1 hops j (List.mem_range.2 hj)
  have hll : l.toArray.size = l.length := by simp
  have inv0 : HeadInv .any l.toArray n (Array.replicate l.toArray.size false) :=
    ⟨by simp, fun j oj _ hl => (by rw [getD_replicate_false] at hl; cases hl), fun t _ ht => getD_in (by simpa using ht) (getD_replicate_false _ _)⟩
  have h0 : ∀ k, toCome (Array.replicate l.toArray.size false) k = k := by
    intro k
    induction k with
    | zero => rfl
    | succ k ih =>
      unfold toCome
      rw [ih, getD_replicate_false]
      simp
      omega
  have hdrop : l.drop n = os :: l.drop (n + 1) := by
    have hn' : n < l.length := by omega
    rw [List.drop_eq_getElem_cons hn']
    have : l.toArray[n]? = some l[n] := by simp [hn']
    rw [this] at hos
    rw [Option.some.inj hos]
  have hwant : ∀ ts, Region.wanted os (yielded l.toArray ts) = true := fun ts => by unfold Region.wanted; rw [hog]
  have hLall : ∀ listed a' w', (∀ j, j < n → listed.getD j false = true) → HeadInv .any l.toArray n listed → LInv l.toArray w n V a listed a' w' → wpAny P .any l.toArray Q (l.toArray.size - n) listed a' w' := fun listed a' w' hall inv K => by
    have hlist : listed = heads l.toArray.size n := by
      refine Array.ext (by rw [inv.size]; simp [heads]) fun j h1 h2 => ?_
      have hj : j < l.toArray.size := by rw [← inv.size]; exact h1
      have e2 : (heads l.toArray.size n)[j] = decide (j < n) := by simp [heads]
      rw [e2]
      by_cases hjn : j < n
      · have := hall j hjn
        rw [Array.getD_eq_getD_getElem?, Array.getElem?_eq_getElem h1] at this
        simpa [hjn] using this
      · have := inv.tail j (by omega) hj
        rw [Array.getD_eq_getD_getElem?, Array.getElem?_eq_getElem h1] at this
        simpa [hjn] using this
    have hdl : (l.drop n).length = l.toArray.size - n := by simp
    obtain ⟨vs, hvs, hput⟩ := linv_putL ho hall K
    obtain ⟨w2, hrun, hrest⟩ := htail vs w' K.new hvs
    rw [hput] at hrun hrest
    have hw := wpAny_of_seq (P := P) (md := .any) (ops := l.toArray) (Q' := Q) (l.drop n) n listed a' w' (fun j => by simp [List.getElem?_drop]) (by rw [hdl, hlist]; exact hseq) (by
      rw [hdrop]
      unfold wpList
      rw [if_pos (hwant _)]
      refine .inl ?_
      unfold Oper.wp
      rw [hrun, Oper.upon_skip, hod]
      exact hrest)
    rwa [hdl] at hw
  refine wp_region_any hm ?_
  have := wpAny_looseE (P := P) (W := w) (V := V) (Q := Q) (g := l.toArray.size - n) (a := a) hen hs hc hlt ho hV hstep hLall (fun listed a' w' hall hef inv K => by
    have hlist : listed = (heads l.toArray.size n).setIfInBounds e false := by
      refine Array.ext (by rw [inv.size]; simp [heads]) fun j h1 h2 => ?_
      have hj : j < l.toArray.size := by rw [← inv.size]; exact h1
      have e2 : ((heads l.toArray.size n).setIfInBounds e false)[j] = if e = j then false else decide (j < n) := by
        rw [Array.getElem_setIfInBounds (by simpa [heads] using hj)]
        simp [heads]
      rw [e2]
      by_cases hej : e = j
      · subst hej
        rw [Array.getD_eq_getD_getElem?, Array.getElem?_eq_getElem h1] at hef
        simpa using hef
      · rw [if_neg hej]
        by_cases hjn : j < n
        · have := hall j hjn (fun x => hej x.symm)
          rw [Array.getD_eq_getD_getElem?, Array.getElem?_eq_getElem h1] at this
          simpa [hjn] using this
        · have := inv.tail j (by omega) hj
          rw [Array.getD_eq_getD_getElem?, Array.getElem?_eq_getElem h1] at this
          simpa [hjn] using this
    rw [← hlist] at hr1 hr2 hr3 hseq2
    have hre : e ∈ Region.ready .any l.toArray listed := by simpa using hr2
    obtain ⟨oe', de', hoe', hge, hde', hdes, hdise, _⟩ := opB_spec (ho e hen)
    obtain rfl : oe' = oe := Option.some.inj (hoe'.symm.trans hoe)
    obtain rfl : de' = de := Option.some.inj (hde'.symm.trans hde)
    have hwe : ∀ ts, Region.wanted oe' (yielded l.toArray ts) = true := fun ts => by unfold Region.wanted; rw [hge]
    obtain ⟨_, o1, ho1, haft⟩ := mem_ready.1 hre
    obtain rfl : o1 = oe' := Option.some.inj (ho1.symm.trans hoe)
    have hdep : ∀ j d, j < n → waitsB o1 j = true → (l.toArray[j]?).bind (·.dst) = some d → V j w' (a'.eval (.tmp d)) := fun j dj hj hwj hdj => by
      obtain ⟨x, he, hb⟩ := Array.any_eq_true'.1 hwj
      simp only [Bool.and_eq_true, beq_iff_eq] at hb
      have h1 := haft x he hb.1
      rw [hb.2] at h1
      cases hoj : l.toArray[j]? with
      | none => rw [hoj] at hdj; cases hdj
      | some oj =>
        rw [hoj] at hdj
        exact K.held j oj dj hj hoj h1 hdj
    obtain ⟨v, hv⟩ := hpure a' w' K.new hdep
    have hY := hstep e o1 hen hoe a' w' K.new (fun t ht => by
      rw [eval_get, eval_get, K.same t fun j oj hj hoj hd' => by
        have h1 := List.all_eq_true.1 ht j (List.mem_range.2 hj)
        simp only [hoj, bne_iff_ne] at h1
        exact h1 hd']) hdep
    unfold Yields at hY
    rw [hv w'] at hY
    have hVe : V e w' v := hY.2
    have hall2 : ∀ j, j < n → (listed.setIfInBounds e true).getD j false = true := fun j hj => by
      by_cases hje : j = e
      · subst hje
        simp [Array.getD_eq_getD_getElem?, show j < listed.size by rw [inv.size]; omega]
      · rw [getD_set_ne false (fun x => hje x.symm)]
        exact hall j hj hje
    have K2 := linv_step hV K hen hoe hde hdes hdise (New.refl _) hVe
    refine ⟨fun h => absurd hre (by rw [h]; simp), fun i hi => ?_⟩
    have hie := List.all_eq_true.1 hr1 i hi
    simp only [Bool.or_eq_true, beq_iff_eq] at hie
    rcases hie with rfl | rfl
    · unfold wpOp
      simp only [hoe]
      rw [if_pos (hwe _)]
      refine .inl ?_
      unfold Oper.wp
      rw [hv w', Oper.upon_value, hde]
      exact hLall _ _ _ hall2 (inv.set hre hen) K2
    · obtain ⟨vs, hvs, hput⟩ := linv_putL ho hall2 K2
      obtain ⟨w2, hrun, hrest⟩ := htail vs w' K2.new hvs
      rw [hput] at hrun hrest
      rw [execOp_put os hsel a' (some de') v (by rintro t ⟨rfl⟩; exact hlook)] at hrun
      unfold wpOp
      simp only [hos]
      rw [if_pos (hwant _)]
      refine .inl ?_
      unfold Oper.wp
      rw [hrun, Oper.upon_skip, hod]
      show wpAny P .any l.toArray Q (l.toArray.size - i) (listed.setIfInBounds i true) a' w2
      rw [show l.toArray.size - i = (l.toArray.size - (i + 1)) + 1 by omega]
      refine ⟨fun h => (by rw [hr3] at h; cases h), fun i2 hi2 => ?_⟩
      rw [hr3] at hi2
      obtain rfl : i2 = e := by simpa using hi2
      unfold wpOp
      simp only [hoe]
      rw [if_pos (hwe _)]
      refine .inl ?_
      unfold Oper.wp
      rw [hv w2, Oper.upon_value, hde]
      have hdl : (l.drop (i + 1)).length = l.toArray.size - (i + 1) := by simp
      have hw := wpAny_of_seq (P := P) (md := .any) (ops := l.toArray) (Q' := Q) (l.drop (i + 1)) (i + 1) ((listed.setIfInBounds i true).setIfInBounds i2 true) (a'.put (some de') v) w2 (fun j => by simp [List.getElem?_drop]) (by rw [hdl]; exact hseq2) hrest
      rwa [hdl] at hw) n _ a { w with drawn := w.drawn + 1 } inv0 (h0 n) ⟨Below.drew (Below.refl _ w), rfl, rfl, fun _ _ => rfl, fun j oj d _ _ hl => by rw [getD_replicate_false] at hl; cases hl⟩
  rwa [show n + (l.toArray.size - n) = l.toArray.size by omega] at this

/-- The store, run: what becomes of the world. -/
theorem store_row_run {op : Oper} {a : Act} {w : World} (ty : TypeId) (x y : Operand) (ho : op.op = .store ty x y)
    (b : Nat) (cells : Array Value) (hx : a.eval x = .pointer (some ⟨b, 0, none⟩)) (hy : a.eval y = .agg cells)
    (ht : Thr w b cells.size) (hi : (P.info? ty).map (·.size) = some cells.size) (h1 : ∀ v ∈ cells.toList, v.oneCell' = true) :
    ∃ W, (execOp a.eval op).run P w = .ok .skip W ∧ (∀ a0, New a0 w → a0.heap.size ≤ b → New a0 W) ∧ (∀ b' o v, b' ≠ b → w.cell? ⟨b', o, none⟩ = some v → W.cell? ⟨b', o, none⟩ = some v) ∧ CellsAt W b 0 cells.toList := by
  have ht' : w.there b 0 cells.size := fun j hj => by
    obtain ⟨⟨v, hv⟩, hf⟩ := ht j hj
    rw [Nat.zero_add]
    exact ⟨by rw [hv]; rfl, hf⟩
  refine ⟨w.setCells b 0 cells.toList, ?_, fun a0 h0 hb => new_setCells h0 hb _ _, fun b' o v hne hv => by rw [World.cell?_setCells_out b _ 0 w ⟨b', o, none⟩ (fun e => absurd e hne)]; exact hv, fun j hj => ?_⟩
  · unfold execOp
    simp only [ho, hx, hy, Instr.storeAt, Instr.sureAddr, Sem.run_bind, Sem.run_pure, Result.andThen_ok, run_storeVar_mid w b 0 ty cells ht' hi (all_oneCell_toArray h1)]
  · have := World.rangeAt_setCells_same w b 0 cells.toList (by simpa using ht')
    exact this j _ (List.getElem?_eq_getElem hj)

end
end Go.Proofs.Ytlpdfnkfknbopaa

/- Package soup: the laws' first look. -/
namespace Go.Proofs.Ytlpdfnkfknbopaa
open Go.RowKit
set_option linter.unusedVariables false

theorem row_of_cells {α : Type} {enc : α → List Value} {k : Nat} (hk : ∀ a, (enc a).length = k) {w : World} {b : Nat} {l : List α} (h : CellsAt w b 0 (l.flatMap enc)) : RowAt enc k w b 0 l := fun j hj i hi => by
  have hik : i < k := by rw [← hk l[j]]; exact hi
  have hlt : j * k + i < (l.flatMap enc).length := by
    rw [flatMap_len hk]
    have := Nat.mul_le_mul_right k (show j + 1 ≤ l.length from hj)
    rw [Nat.add_mul] at this
    omega
  have h1 := h (j * k + i) hlt
  have h2 := flatMap_get hk l j hj i hik
  rw [List.getElem?_eq_getElem hlt, List.getElem?_eq_getElem hi] at h2
  rw [show 0 + j * k + i = 0 + (j * k + i) by omega, h1, Option.some.inj h2]

theorem w_list2 : TriR.listB cfg0 [one0 1, one0 5] = true := by kernel_rfl
theorem w_list3 : TriR.listB cfg0 [one0 1, one0 3, one0 5] = true := by kernel_rfl
theorem w_may : (one0 3).may cfg0 = true := by kernel_rfl
theorem w_err {S : SoupV} (h : TriR.listB cfg0 S.ts = true) (hb : S.bs = []) (hh : S.hs = []) : S.err cfg0 = 0 := SoupV.err_mk ⟨by kernel_rfl, h, by rw [hb]; kernel_rfl, by rw [hh]; kernel_rfl⟩
theorem w_place2 : TriR.Place [one0 1, one0 5] 3 1 := by
  refine ⟨by simp, fun j hj h => ?_, fun j hj h => ?_⟩
  · obtain rfl : j = 0 := by omega
    show (1 : Int) < 3
    omega
  · obtain rfl : j = 1 := by simp at hj; omega
    show (3 : Int) ≤ 5
    omega
theorem w_place3 : TriR.Place [one0 1, one0 3, one0 5] 3 1 := by
  refine ⟨by simp, fun j hj h => ?_, fun j hj h => ?_⟩
  · obtain rfl : j = 0 := by omega
    show (1 : Int) < 3
    omega
  · have hj' : j = 1 ∨ j = 2 := by simp at hj; omega
    rcases hj' with rfl | rfl
    · show (3 : Int) ≤ 3
      omega
    · show (3 : Int) ≤ 5
      omega

theorem w_first (S : SoupV) (w : World) (hS : S.ok w) (ht : S.ts = [one0 1, one0 5]) (hb : S.bs = []) (hh : S.hs = []) :
    Calls Try.prog 8 #[.agg #[.int .i64 0, .int .i64 1, .int .i64 3, .int .i64 1, .int .i64 1, .int .i64 8, .int .i64 8], .agg #[.slice S.a0 S.ts.length S.c0, .slice S.a1 S.bs.length S.c1, .slice S.a2 S.hs.length S.c2], .agg #[.int .i64 3, .int .i64 0, .int .i64 0, .int .i64 0, .int .i64 2, .int .i64 0, .int .i64 0, .int .i64 0, .int .i64 0, .int .i64 2]] w (SoupE [one0 1, one0 3, one0 5] [] [] 0 w) := by
  have h := t_Add cfg0 S (one0 3) 0 (S.ts.take 1 ++ [one0 3] ++ S.ts.drop 1) S.bs S.hs w fun W n => t_add_ok cfg0 S (one0 3) W (hS.keep n) (w_err (by rw [ht]; exact w_list2) hb hh) w_may (by rw [ht]; simp) (by rw [hb]; simp) (by rw [hh]; simp) 1 (by rw [ht]; exact w_place2) (by rw [ht]; kernel_rfl) (by rw [ht]; simp)
  have e : S.ts.take 1 ++ [one0 3] ++ S.ts.drop 1 = [one0 1, one0 3, one0 5] := by rw [ht]; rfl
  rw [e, hb, hh] at h
  rw [hb, hh]
  exact h
theorem w_second (S : SoupV) (w : World) (hS : S.ok w) (ht : S.ts = [one0 1, one0 3, one0 5]) (hb : S.bs = []) (hh : S.hs = []) :
    Calls Try.prog 8 #[.agg #[.int .i64 0, .int .i64 1, .int .i64 3, .int .i64 1, .int .i64 1, .int .i64 8, .int .i64 8], .agg #[.slice S.a0 S.ts.length S.c0, .slice S.a1 S.bs.length S.c1, .slice S.a2 S.hs.length S.c2], .agg #[.int .i64 3, .int .i64 0, .int .i64 0, .int .i64 0, .int .i64 2, .int .i64 0, .int .i64 0, .int .i64 0, .int .i64 0, .int .i64 2]] w (SoupE [] [] [] 50 w) :=
  t_Add cfg0 S (one0 3) 50 [] [] [] w fun W n => t_add_twice cfg0 S (one0 3) W (hS.keep n) (w_err (by rw [ht]; exact w_list3) hb hh) w_may (by rw [ht]; simp) 1 (by rw [ht]; exact w_place3) (by rw [ht]; kernel_rfl)

def wkV (S : SoupV) (b : Nat) : Nat → World → Value → Prop
  | 0, _, v => v = .agg #[.int .i64 0, .int .i64 1, .int .i64 3, .int .i64 1, .int .i64 1, .int .i64 8, .int .i64 8]
  | 1, _, v => v = .agg #[.slice S.a0 S.ts.length S.c0, .slice S.a1 S.bs.length S.c1, .slice S.a2 S.hs.length S.c2]
  | 2, _, v => v = .agg #[.int .i64 3, .int .i64 0, .int .i64 0, .int .i64 0, .int .i64 2, .int .i64 0, .int .i64 0, .int .i64 0, .int .i64 0, .int .i64 2]
  | 3, w, v => ∃ S' : SoupV, v = .tuple #[.agg #[.slice S'.a0 S'.ts.length S'.c0, .slice S'.a1 S'.bs.length S'.c1, .slice S'.a2 S'.hs.length S'.c2], .int .i64 50]
  | 4, w, v => ∃ S' : SoupV, v = .tuple #[.agg #[.slice S'.a0 S'.ts.length S'.c0, .slice S'.a1 S'.bs.length S'.c1, .slice S'.a2 S'.hs.length S'.c2], .int .i64 50]
  | 5, w, v => ∃ S' : SoupV, v = .agg #[.slice S'.a0 S'.ts.length S'.c0, .slice S'.a1 S'.bs.length S'.c1, .slice S'.a2 S'.hs.length S'.c2]
  | 6, _, v => v = .int .i64 50
  | _, w, v => ∃ g, v = .pointer (some ⟨g, 0, none⟩) ∧ Thr w g 3 ∧ b ≤ g
theorem wkV_keep {S : SoupV} {b : Nat} : ∀ i w w' v, wkV S b i w v → New w w' → wkV S b i w' v := by
  intro i w w' v h hn
  rcases (show i = 0 ∨ i = 1 ∨ i = 2 ∨ i = 3 ∨ i = 4 ∨ i = 5 ∨ i = 6 ∨ 7 ≤ i by omega) with rfl | rfl | rfl | rfl | rfl | rfl | rfl | hi
  · exact h
  · exact h
  · exact h
  · exact h
  · exact h
  · exact h
  · exact h
  · obtain ⟨k, rfl⟩ : ∃ k, i = k + 7 := ⟨i - 7, by omega⟩
    obtain ⟨g, e, h1, h2⟩ := h
    exact ⟨g, e, h1.keep hn, h2⟩

set_option maxHeartbeats 4000000 in
set_option maxRecDepth 100000 in
theorem s_wakes (w : World) : Calls Try.prog 7 #[] w fun e w' => e = .returned (.bool true) ∧ New w w' := by
  have HC := Lib.hid s_config
  have HO := Lib.hid s_one
  go_enter Try.func7, Try.ntmps7
  go_wp2_with fail
  refine (HC.out _).mono ?_
  rintro e W1 ⟨rfl, hn⟩
  go_wp2_with fail
  refine (HO.out _ _).mono ?_
  rintro e W2 ⟨rfl, n1⟩
  replace hn := hn.trans n1
  clear n1
  go_wp2_with fail
  refine (HO.out _ _).mono ?_
  rintro e W3 ⟨rfl, n1⟩
  replace hn := hn.trans n1
  clear n1
  go_wp2_with fail
  generalize hW : World.alloc _ _ = W
  have hc : CellsAt W W3.heap.size 0 ([one0 1, one0 5].flatMap TriR.enc) := by subst hW; exact cells_new _ _ _
  have n1 : New W3 W := by subst hW; (repeat (first | (with_reducible exact New.refl _) | (with_reducible assumption) | ((with_reducible refine New.setB ?_ ?_ _); focus (first | omega | (simp; omega) | (simp; done))) | (with_reducible refine New.alloc ?_ _) | (with_reducible refine New.drew ?_) | (with_reducible refine New.drewN ?_ _) | (with_reducible refine New.hat ?_ _) | ((with_reducible apply New.snart); (with_reducible assumption))))
  replace hn := hn.trans n1
  clear n1 hW
  refine (HO.out _ _).mono ?_
  rintro e W4 ⟨rfl, n1⟩
  have hrow := (row_of_cells TriR.enc_len hc).keep n1
  replace hn := hn.trans n1
  obtain ⟨S0, hS0⟩ : ∃ S0 : SoupV, S0 = ⟨[one0 1, one0 5], [], [], some ⟨W3.heap.size, 0, none⟩, none, none, 2, 0, 0⟩ := ⟨_, rfl⟩
  have ok0 : S0.ok W4 := by subst hS0; exact ⟨⟨_, _, rfl, by simp, by show 2 ≤ maxLen; unfold maxLen; omega, fun h => (by cases h), fun _ => ⟨_, _, rfl, hrow⟩⟩, Sl.nil, Sl.nil⟩
  have H1 := Lib.hid (w_first S0 W4 ok0 (by subst hS0; rfl) (by subst hS0; rfl) (by subst hS0; rfl))
  subst hS0
  clear n1 hc hrow ok0
  go_wp2_with fail
  refine H1.out.mono ?_
  clear H1
  rintro e W5 ⟨⟨ts, bs, hs, a0, a1, a2, c0, c1, c2⟩, rfl, ok1, ht, hb, hh, -, n1⟩
  simp only at ht hb hh
  subst ht hb hh
  replace hn := hn.trans n1
  clear n1
  have OK := Lib.hid ok1
  obtain ⟨b, off, e0, hA⟩ := ok1.t.row.2.2.2.2 (by simp)
  simp only at e0
  subst e0
  have r3 := (TriR.cells hA 1 (by simp)).1
  clear ok1 hA
  go_upto_region 2 with fail
  generalize hZ : World.alloc _ _ = Z
  have nz : New W5 Z := by subst hZ; (repeat (first | (with_reducible exact New.refl _) | (with_reducible assumption) | ((with_reducible refine New.setB ?_ ?_ _); focus (first | omega | (simp; omega) | (simp; done))) | (with_reducible refine New.alloc ?_ _) | (with_reducible refine New.drew ?_) | (with_reducible refine New.drewN ?_ _) | (with_reducible refine New.hat ?_ _) | ((with_reducible apply New.snart); (with_reducible assumption))))
  have q0 : Z.cell? ⟨W5.heap.size, 0, none⟩ = some (.slice (some ⟨b, off, none⟩) 3 c0) := by subst hZ; go_simp
  have q1 : Z.cell? ⟨W5.heap.size, 1, none⟩ = some (.slice a1 0 c1) := by subst hZ; go_simp
  have q2 : Z.cell? ⟨W5.heap.size, 2, none⟩ = some (.slice a2 0 c2) := by subst hZ; go_simp
  replace r3 := nz.keep r3
  replace hn := hn.trans nz
  replace OK := Lib.hid (OK.out.keep nz)
  clear hZ nz
  refine wp_region_loose_e 8 6 (wkV ⟨[one0 1, one0 3, one0 5], [], [], some ⟨b, off, none⟩, a1, a2, c0, c1, c2⟩ Z.heap.size) (by kernel_rfl) (by kernel_rfl) rfl rfl rfl rfl rfl (by decide) (fun _ _ h => by cases h) wkV_keep ?_ ?_ ?_
  · intro i o hi ho a' w' nn hr hd
    rcases (show i = 0 ∨ i = 1 ∨ i = 2 ∨ i = 3 ∨ i = 4 ∨ i = 5 ∨ i = 6 ∨ i = 7 by omega) with rfl | rfl | rfl | rfl | rfl | rfl | rfl | rfl <;> obtain rfl := Option.some.inj ho
    · exact yields_enter 20 #[] (by go_simp) ((HC.out _).mono fun e w'' ⟨he, hn⟩ => ⟨_, he, hn, rfl⟩)
    · have r : (a'.tmps[1]?).getD undef = .pointer (some ⟨W5.heap.size, 0, none⟩) := (eval_get a' 1).symm.trans (hr 1 (by kernel_rfl))
      replace q0 := nn.keep q0
      replace q1 := nn.keep q1
      replace q2 := nn.keep q2
      exact yields_value (.agg #[.slice (some ⟨b, off, none⟩) 3 c0, .slice a1 0 c1, .slice a2 0 c2]) (by go_simp) ⟨New.refl _, rfl⟩
    · exact yields_enter 21 #[.int .i64 3] (by go_simp) ((HO.out _ _).mono fun e w'' ⟨he, hn⟩ => ⟨_, he, hn, rfl⟩)
    · have e0 : a'.eval (.tmp 16) = .agg #[.int .i64 0, .int .i64 1, .int .i64 3, .int .i64 1, .int .i64 1, .int .i64 8, .int .i64 8] := hd 0 16 (by omega) (by kernel_rfl) (by kernel_rfl)
      have e1 : a'.eval (.tmp 17) = .agg #[.slice (some ⟨b, off, none⟩) 3 c0, .slice a1 0 c1, .slice a2 0 c2] := hd 1 17 (by omega) (by kernel_rfl) (by kernel_rfl)
      have e2 : a'.eval (.tmp 18) = .agg #[.int .i64 3, .int .i64 0, .int .i64 0, .int .i64 0, .int .i64 2, .int .i64 0, .int .i64 0, .int .i64 0, .int .i64 0, .int .i64 2] := hd 2 18 (by omega) (by kernel_rfl) (by kernel_rfl)
      have r0 : (a'.tmps[16]?).getD undef = _ := (eval_get a' 16).symm.trans e0
      have r1 : (a'.tmps[17]?).getD undef = _ := (eval_get a' 17).symm.trans e1
      have r2 : (a'.tmps[18]?).getD undef = _ := (eval_get a' 18).symm.trans e2
      refine yields_enter 8 #[.agg #[.int .i64 0, .int .i64 1, .int .i64 3, .int .i64 1, .int .i64 1, .int .i64 8, .int .i64 8], .agg #[.slice (some ⟨b, off, none⟩) 3 c0, .slice a1 0 c1, .slice a2 0 c2], .agg #[.int .i64 3, .int .i64 0, .int .i64 0, .int .i64 0, .int .i64 2, .int .i64 0, .int .i64 0, .int .i64 0, .int .i64 0, .int .i64 2]] (by go_simp) ((w_second _ w' (OK.out.keep nn) rfl rfl rfl).mono ?_)
      rintro e w'' ⟨S', he, -, -, -, -, -, h6⟩
      exact ⟨_, he, h6, S', rfl⟩
    · obtain ⟨S', e3⟩ : ∃ S' : SoupV, a'.eval (.tmp 19) = .tuple #[.agg #[.slice S'.a0 S'.ts.length S'.c0, .slice S'.a1 S'.bs.length S'.c1, .slice S'.a2 S'.hs.length S'.c2], .int .i64 50] := hd 3 19 (by omega) (by kernel_rfl) (by kernel_rfl)
      have r : (a'.tmps[19]?).getD undef = _ := (eval_get a' 19).symm.trans e3
      exact yields_value (.tuple #[.agg #[.slice S'.a0 S'.ts.length S'.c0, .slice S'.a1 S'.bs.length S'.c1, .slice S'.a2 S'.hs.length S'.c2], .int .i64 50]) (by go_simp) ⟨New.refl _, S', rfl⟩
    · obtain ⟨S', e3⟩ : ∃ S' : SoupV, a'.eval (.tmp 15) = .tuple #[.agg #[.slice S'.a0 S'.ts.length S'.c0, .slice S'.a1 S'.bs.length S'.c1, .slice S'.a2 S'.hs.length S'.c2], .int .i64 50] := hd 4 15 (by omega) (by kernel_rfl) (by kernel_rfl)
      have r : (a'.tmps[15]?).getD undef = _ := (eval_get a' 15).symm.trans e3
      exact yields_value (.agg #[.slice S'.a0 S'.ts.length S'.c0, .slice S'.a1 S'.bs.length S'.c1, .slice S'.a2 S'.hs.length S'.c2]) (by go_simp) ⟨New.refl _, S', rfl⟩
    · obtain ⟨S', e3⟩ : ∃ S' : SoupV, a'.eval (.tmp 15) = .tuple #[.agg #[.slice S'.a0 S'.ts.length S'.c0, .slice S'.a1 S'.bs.length S'.c1, .slice S'.a2 S'.hs.length S'.c2], .int .i64 50] := hd 4 15 (by omega) (by kernel_rfl) (by kernel_rfl)
      have r : (a'.tmps[15]?).getD undef = _ := (eval_get a' 15).symm.trans e3
      exact yields_value (.int .i64 50) (by go_simp) ⟨New.refl _, rfl⟩
    · exact yields_value (w' := w'.alloc (.cells #[.slice none 0 0, .slice none 0 0, .slice none 0 0] 28)) (.pointer (some ⟨w'.heap.size, 0, none⟩)) (by go_simp) ⟨(New.refl _).alloc _, _, rfl, Thr.new _ _ _ _ rfl, nn.size⟩
  · intro a' w' nn hd
    obtain ⟨S', e3⟩ : ∃ S' : SoupV, a'.eval (.tmp 15) = .tuple #[.agg #[.slice S'.a0 S'.ts.length S'.c0, .slice S'.a1 S'.bs.length S'.c1, .slice S'.a2 S'.hs.length S'.c2], .int .i64 50] := hd 4 15 (by omega) (by kernel_rfl) (by kernel_rfl)
    have r : (a'.tmps[15]?).getD undef = _ := (eval_get a' 15).symm.trans e3
    exact ⟨.int .i64 50, fun W => by go_simp⟩
  · intro vs w' nn hv
    obtain ⟨S', e5⟩ : ∃ S' : SoupV, vs 5 = .agg #[.slice S'.a0 S'.ts.length S'.c0, .slice S'.a1 S'.bs.length S'.c1, .slice S'.a2 S'.hs.length S'.c2] := hv 5 (by omega)
    obtain ⟨S2, e4⟩ : ∃ S' : SoupV, vs 4 = .tuple #[.agg #[.slice S'.a0 S'.ts.length S'.c0, .slice S'.a1 S'.bs.length S'.c1, .slice S'.a2 S'.hs.length S'.c2], .int .i64 50] := hv 4 (by omega)
    have e6 : vs 6 = .int .i64 50 := hv 6 (by omega)
    obtain ⟨g, e7, fz, hg⟩ : ∃ g, vs 7 = .pointer (some ⟨g, 0, none⟩) ∧ Thr w' g 3 ∧ Z.heap.size ≤ g := hv 7 (by omega)
    simp only [List.take_succ_cons, List.take_zero, List.drop_succ_cons, List.drop_zero, putL, Act.put, List.setIfInBounds_toArray, List.set_cons_zero, List.set_cons_succ, Nat.reduceAdd, Nat.zero_add]
    rw [e5, e6, e7, e4]
    have key : ∀ (op : Oper) (a : Act), op.op = .store 28 (.tmp 3) (.tmp 20) → a.eval (.tmp 3) = .pointer (some ⟨g, 0, none⟩) → a.eval (.tmp 20) = .agg #[.slice S'.a0 S'.ts.length S'.c0, .slice S'.a1 S'.bs.length S'.c1, .slice S'.a2 S'.hs.length S'.c2] → ∃ W, (execOp a.eval op).run Try.prog w' = .ok .skip W ∧ New Z W := fun op a ho hx hy => by
      obtain ⟨Y, hrun, nY, -, -⟩ := store_row_run (P := Try.prog) (w := w') 28 _ _ ho g #[.slice S'.a0 S'.ts.length S'.c0, .slice S'.a1 S'.bs.length S'.c1, .slice S'.a2 S'.hs.length S'.c2] hx hy fz (by kernel_rfl) (by intro v hv; simp at hv; rcases hv with rfl | rfl | rfl <;> rfl)
      exact ⟨Y, hrun, nY _ nn hg⟩
    refine Exists.elim (key _ _ ?_ ?_ ?_) (fun Y hY => ⟨Y, hY.1, ?_⟩)
    · rfl
    · rfl
    · rfl
    have nz := hY.2
    have p0 := nz.keep q0
    have p3 := nz.keep r3
    have hY' := hn.trans nz
    clear hv e4 e5 e6 e7 OK HC HO hY q0 q1 q2 r3 nz key
    go_wp2_with fail
    go_ret
    exact ⟨rfl, hY'⟩

end Go.Proofs.Ytlpdfnkfknbopaa

/- Package soup: one found. -/
namespace Go.Proofs.Ytlpdfnkfknbopaa
open Go.RowKit
set_option linter.unusedVariables false

/-- What is found: the one at z, or the zero one. -/
def TriR.got (l : List TriR) (z : Int) : TriR := if z < 0 then TriR.zero else l[z.toNat]!
theorem TriR.first_cases {l : List TriR} {id z : Int} (hz : TriR.IsFirst l id z) : z = -1 ∨ ∃ j : Nat, ∃ h : j < l.length, z = j ∧ TriR.got l z = l[j] := by
  rcases hz with ⟨h, _⟩ | ⟨j, hj, rfl, _⟩
  · exact Or.inl h
  · refine Or.inr ⟨j, hj, rfl, ?_⟩
    unfold TriR.got
    rw [if_neg (by omega), Int.toNat_natCast, getElem!_pos l j hj]

set_option maxHeartbeats 4000000 in
set_option maxRecDepth 100000 in
theorem t_find (S : SoupV) (id z : Int) (hz : TriR.IsFirst S.ts id z) (w : World) (hS : S.ok w) :
    Calls Try.prog 51 #[.agg #[.slice S.a0 S.ts.length S.c0, .slice S.a1 S.bs.length S.c1, .slice S.a2 S.hs.length S.c2], .int .i64 id, .agg #[.func (.func 58) #[] #[], .func (.func 59) #[] #[], .int .i64 200, .int .i64 40, .func (.func 60) #[] #[]]] w fun e w' => e = .returned (.tuple #[.agg #[.int .i64 (TriR.got S.ts z).i, .int .i64 (TriR.got S.ts z).x0, .int .i64 (TriR.got S.ts z).y0, .int .i64 (TriR.got S.ts z).z0, .int .i64 (TriR.got S.ts z).x1, .int .i64 (TriR.got S.ts z).y1, .int .i64 (TriR.got S.ts z).z1, .int .i64 (TriR.got S.ts z).x2, .int .i64 (TriR.got S.ts z).y2, .int .i64 (TriR.got S.ts z).z2], .bool (decide (0 ≤ z))]) ∧ New w w' := by
  have hL := Lib.hid (fun b W => t_list b W)
  have hR := hS.t
  obtain ⟨ts, bs, hs, a0, a1, a2, c0, c1, c2⟩ := S
  simp only at hR hz ⊢
  obtain ⟨-, hc1, hc2, -, HR⟩ := hR.row
  have HF := Lib.hid (fun W (n : New w W) => t_first a0 ts c0 (by omega) id z hz W (HR.keep n))
  have HR' := Lib.hid HR
  unfold maxLen at hc2
  clear hR hS HR
  rcases TriR.first_cases hz with rfl | ⟨j, hj, rfl, hg⟩
  · have e1 : TriR.got ts (-1) = TriR.zero := rfl
    rw [e1]
    clear e1 hz hc1 hc2
    go_enter Try.func51, Try.ntmps51
    go_wp2_with fail
    generalize hW : World.alloc _ _ = W
    have hn : New w W := by subst hW; (repeat (first | (with_reducible exact New.refl _) | (with_reducible assumption) | ((with_reducible refine New.setB ?_ ?_ _); focus (first | omega | (simp; omega) | (simp; done))) | (with_reducible refine New.alloc ?_ _) | (with_reducible refine New.drew ?_) | (with_reducible refine New.drewN ?_ _) | (with_reducible refine New.hat ?_ _) | ((with_reducible apply New.snart); (with_reducible assumption))))
    have q0 : W.cell? ⟨w.heap.size, 0, none⟩ = some (.slice a0 ts.length c0) := by subst hW; go_simp
    have k0 : W.cell? ⟨w.heap.size + 1, 0, none⟩ = some (.func (.func 58) #[] #[]) := by subst hW; go_simp
    have k1 : W.cell? ⟨w.heap.size + 1, 1, none⟩ = some (.func (.func 59) #[] #[]) := by subst hW; go_simp
    have fz : Thr W (w.heap.size + 1 + 1) 10 := by subst hW; exact Thr.new _ _ _ _ (by simp)
    clear hW
    refine (hL.out _ _).mono ?_
    rintro e w' ⟨rfl, rfl⟩
    go_wp2_with fail
    refine (HF.out _ hn).mono ?_
    rintro e W1 ⟨rfl, n1⟩
    replace fz := fz.keep n1
    have hz1 : w.heap.size + 1 + 1 < W1.heap.size := fz.lt (by omega)
    replace hn := hn.trans n1
    clear n1 HF hL q0 k0 k1
    go_wp2_with (refine wpList_store_row rfl 33 _ _ rfl _ _ rfl rfl (fz.keep (by (repeat (first | (with_reducible exact New.refl _) | (with_reducible assumption) | ((with_reducible refine New.setB ?_ ?_ _); focus (first | omega | (simp; omega) | (simp; done))) | (with_reducible refine New.alloc ?_ _) | (with_reducible refine New.drew ?_) | (with_reducible refine New.drewN ?_ _) | (with_reducible refine New.hat ?_ _) | ((with_reducible apply New.snart); (with_reducible assumption)))))) (by kernel_rfl) (TriR.enc_one TriR.zero) (fun Z nZ kZ cZ => ?_))
    have nz := nZ w (by (repeat (first | (with_reducible exact New.refl _) | (with_reducible assumption) | ((with_reducible refine New.setB ?_ ?_ _); focus (first | omega | (simp; omega) | (simp; done))) | (with_reducible refine New.alloc ?_ _) | (with_reducible refine New.drew ?_) | (with_reducible refine New.drewN ?_ _) | (with_reducible refine New.hat ?_ _) | ((with_reducible apply New.snart); (with_reducible assumption))))) (by omega)
    obtain ⟨r0, r1, r2, r3, r4, r5, r6, r7, r8, r9⟩ := TriR.at (x := TriR.zero) cZ
    clear nZ kZ cZ
    refine bodyPost_ret (v := .tuple #[.agg #[.int .i64 TriR.zero.i, .int .i64 TriR.zero.x0, .int .i64 TriR.zero.y0, .int .i64 TriR.zero.z0, .int .i64 TriR.zero.x1, .int .i64 TriR.zero.y1, .int .i64 TriR.zero.z1, .int .i64 TriR.zero.x2, .int .i64 TriR.zero.y2, .int .i64 TriR.zero.z2], .bool false]) (by simp [results, Try.results51, go_sem, r0, r1, r2, r3, r4, r5, r6, r7, r8, r9]) rfl ?_
    exact ⟨rfl, nz⟩
  · rw [hg]
    have hd : decide ((0 : Int) ≤ (j : Int)) = true := by simp
    rw [hd]
    clear hd hz hg
    go_enter Try.func51, Try.ntmps51
    go_wp2_with fail
    generalize hW : World.alloc _ _ = W
    have hn : New w W := by subst hW; (repeat (first | (with_reducible exact New.refl _) | (with_reducible assumption) | ((with_reducible refine New.setB ?_ ?_ _); focus (first | omega | (simp; omega) | (simp; done))) | (with_reducible refine New.alloc ?_ _) | (with_reducible refine New.drew ?_) | (with_reducible refine New.drewN ?_ _) | (with_reducible refine New.hat ?_ _) | ((with_reducible apply New.snart); (with_reducible assumption))))
    have q0 : W.cell? ⟨w.heap.size, 0, none⟩ = some (.slice a0 ts.length c0) := by subst hW; go_simp
    have k0 : W.cell? ⟨w.heap.size + 1, 0, none⟩ = some (.func (.func 58) #[] #[]) := by subst hW; go_simp
    have k1 : W.cell? ⟨w.heap.size + 1, 1, none⟩ = some (.func (.func 59) #[] #[]) := by subst hW; go_simp
    have fz : Thr W (w.heap.size + 1 + 1) 10 := by subst hW; exact Thr.new _ _ _ _ (by simp)
    clear hW
    refine (hL.out _ _).mono ?_
    rintro e w' ⟨rfl, rfl⟩
    go_wp2_with fail
    refine (HF.out _ hn).mono ?_
    rintro e W1 ⟨rfl, n1⟩
    replace fz := fz.keep n1
    have hz1 : w.heap.size + 1 + 1 < W1.heap.size := fz.lt (by omega)
    replace hn := hn.trans n1
    clear n1 HF hL q0 k0 k1
    obtain ⟨b, off, rfl, hA⟩ := HR'.out (by omega)
    have hA' := hA.keep hn
    obtain ⟨d0, d1, d2, d3, d4, d5, d6, d7, d8, d9⟩ := TriR.cells hA' j hj
    clear hA hA'
    go_wp2_with (refine wpList_store_row rfl 33 _ _ rfl _ _ rfl rfl (fz.keep (by (repeat (first | (with_reducible exact New.refl _) | (with_reducible assumption) | ((with_reducible refine New.setB ?_ ?_ _); focus (first | omega | (simp; omega) | (simp; done))) | (with_reducible refine New.alloc ?_ _) | (with_reducible refine New.drew ?_) | (with_reducible refine New.drewN ?_ _) | (with_reducible refine New.hat ?_ _) | ((with_reducible apply New.snart); (with_reducible assumption)))))) (by kernel_rfl) (TriR.enc_one ts[j]) (fun Z nZ kZ cZ => ?_))
    have nz := nZ w (by (repeat (first | (with_reducible exact New.refl _) | (with_reducible assumption) | ((with_reducible refine New.setB ?_ ?_ _); focus (first | omega | (simp; omega) | (simp; done))) | (with_reducible refine New.alloc ?_ _) | (with_reducible refine New.drew ?_) | (with_reducible refine New.drewN ?_ _) | (with_reducible refine New.hat ?_ _) | ((with_reducible apply New.snart); (with_reducible assumption))))) (by omega)
    obtain ⟨r0, r1, r2, r3, r4, r5, r6, r7, r8, r9⟩ := TriR.at (x := ts[j]) cZ
    clear nZ kZ cZ
    refine bodyPost_ret (v := .tuple #[.agg #[.int .i64 ts[j].i, .int .i64 ts[j].x0, .int .i64 ts[j].y0, .int .i64 ts[j].z0, .int .i64 ts[j].x1, .int .i64 ts[j].y1, .int .i64 ts[j].z1, .int .i64 ts[j].x2, .int .i64 ts[j].y2, .int .i64 ts[j].z2], .bool true]) (by simp [results, Try.results51, go_sem, r0, r1, r2, r3, r4, r5, r6, r7, r8, r9]) rfl ?_
    exact ⟨rfl, nz⟩

end Go.Proofs.Ytlpdfnkfknbopaa

/- Package soup: Tri, Box, Hop. -/
namespace Go.Proofs.Ytlpdfnkfknbopaa
open Go.RowKit
set_option linter.unusedVariables false

def t_gotV (S : SoupV) (id z : Int) : Nat → Value
  | 0 => .agg #[.slice S.a0 S.ts.length S.c0, .slice S.a1 S.bs.length S.c1, .slice S.a2 S.hs.length S.c2]
  | 1 => .int .i64 id
  | 2 => .agg #[.func (.func 58) #[] #[], .func (.func 59) #[] #[], .int .i64 200, .int .i64 40, .func (.func 60) #[] #[]]
  | 3 => .tuple #[.agg #[.int .i64 (TriR.got S.ts z).i, .int .i64 (TriR.got S.ts z).x0, .int .i64 (TriR.got S.ts z).y0, .int .i64 (TriR.got S.ts z).z0, .int .i64 (TriR.got S.ts z).x1, .int .i64 (TriR.got S.ts z).y1, .int .i64 (TriR.got S.ts z).z1, .int .i64 (TriR.got S.ts z).x2, .int .i64 (TriR.got S.ts z).y2, .int .i64 (TriR.got S.ts z).z2], .bool (decide (0 ≤ z))]
  | 4 => .agg #[.int .i64 (TriR.got S.ts z).i, .int .i64 (TriR.got S.ts z).x0, .int .i64 (TriR.got S.ts z).y0, .int .i64 (TriR.got S.ts z).z0, .int .i64 (TriR.got S.ts z).x1, .int .i64 (TriR.got S.ts z).y1, .int .i64 (TriR.got S.ts z).z1, .int .i64 (TriR.got S.ts z).x2, .int .i64 (TriR.got S.ts z).y2, .int .i64 (TriR.got S.ts z).z2]
  | _ => .bool (decide (0 ≤ z))

set_option maxHeartbeats 4000000 in
set_option maxRecDepth 100000 in
theorem t_get (S : SoupV) (id z : Int) (hz : TriR.IsFirst S.ts id z) (w : World) (hS : S.ok w) :
    Calls Try.prog 19 #[.agg #[.slice S.a0 S.ts.length S.c0, .slice S.a1 S.bs.length S.c1, .slice S.a2 S.hs.length S.c2], .int .i64 id] w fun e w' => e = .returned (.tuple #[.agg #[.int .i64 (TriR.got S.ts z).i, .int .i64 (TriR.got S.ts z).x0, .int .i64 (TriR.got S.ts z).y0, .int .i64 (TriR.got S.ts z).z0, .int .i64 (TriR.got S.ts z).x1, .int .i64 (TriR.got S.ts z).y1, .int .i64 (TriR.got S.ts z).z1, .int .i64 (TriR.got S.ts z).x2, .int .i64 (TriR.got S.ts z).y2, .int .i64 (TriR.got S.ts z).z2], .bool (decide (0 ≤ z))]) ∧ New w w' := by
  have HF := Lib.hid (fun W (n : New w W) => t_find S id z hz W (hS.keep n))
  have HK := Lib.hid (fun W => t_kind W)
  obtain ⟨V, hVV⟩ : ∃ V, V = t_gotV S id z := ⟨_, rfl⟩
  have E0 := congrFun hVV 0
  have E1 := congrFun hVV 1
  have E2 := congrFun hVV 2
  have E3 := congrFun hVV 3
  have E4 := congrFun hVV 4
  have E5 := congrFun hVV 5
  simp only [t_gotV] at E0 E1 E2 E3 E4 E5
  clear hVV hS hz
  generalize hg : TriR.got S.ts z = r at *
  generalize hb : decide (0 ≤ z) = b at *
  clear hg hb
  go_enter Try.func19, Try.ntmps19
  go_upto_region 1 with fail
  generalize hW : World.alloc _ _ = W
  have hn : New w W := by subst hW; (repeat (first | (with_reducible exact New.refl _) | (with_reducible assumption) | ((with_reducible refine New.setB ?_ ?_ _); focus (first | omega | (simp; omega) | (simp; done))) | (with_reducible refine New.alloc ?_ _) | (with_reducible refine New.drew ?_) | (with_reducible refine New.drewN ?_ _) | (with_reducible refine New.hat ?_ _) | ((with_reducible apply New.snart); (with_reducible assumption))))
  have q0 : W.cell? ⟨w.heap.size, 0, none⟩ = some (.slice S.a0 S.ts.length S.c0) := by subst hW; go_simp
  have q1 : W.cell? ⟨w.heap.size, 1, none⟩ = some (.slice S.a1 S.bs.length S.c1) := by subst hW; go_simp
  have q2 : W.cell? ⟨w.heap.size, 2, none⟩ = some (.slice S.a2 S.hs.length S.c2) := by subst hW; go_simp
  have fz : Thr W (w.heap.size + 1) 10 := by subst hW; exact Thr.new _ _ _ _ (by simp)
  clear hW
  refine wp_region_loose 6 (fun i _ v => v = V i) (by kernel_rfl) (by kernel_rfl) (fun _ _ _ _ h _ => h) ?_ ?_
  · intro i o hi ho a' w' nn hr hd
    rcases (show i = 0 ∨ i = 1 ∨ i = 2 ∨ i = 3 ∨ i = 4 ∨ i = 5 by omega) with rfl | rfl | rfl | rfl | rfl | rfl <;> obtain rfl := Option.some.inj ho
    · have r2 : (a'.tmps[2]?).getD undef = .pointer (some ⟨w.heap.size, 0, none⟩) := (eval_get a' 2).symm.trans (hr 2 (by kernel_rfl))
      have x0 := nn.keep q0
      have x1 := nn.keep q1
      have x2 := nn.keep q2
      exact yields_value (V 0) (by rw [E0]; go_simp) ⟨New.refl _, rfl⟩
    · have r2 : (a'.tmps[1]?).getD undef = .int .i64 id := (eval_get a' 1).symm.trans (hr 1 (by kernel_rfl))
      exact yields_value (V 1) (by rw [E1]; go_simp) ⟨New.refl _, rfl⟩
    · exact yields_enter 23 #[] (by go_simp) ((HK.out _).mono fun e w'' ⟨he, hn⟩ => ⟨_, he, hn, E2.symm⟩)
    · have r6 : (a'.tmps[6]?).getD undef = _ := (eval_get a' 6).symm.trans <| (hd 0 6 (by omega) (by kernel_rfl) (by kernel_rfl)).trans E0
      have r7 : (a'.tmps[7]?).getD undef = _ := (eval_get a' 7).symm.trans <| (hd 1 7 (by omega) (by kernel_rfl) (by kernel_rfl)).trans E1
      have r8 : (a'.tmps[8]?).getD undef = _ := (eval_get a' 8).symm.trans <| (hd 2 8 (by omega) (by kernel_rfl) (by kernel_rfl)).trans E2
      exact yields_enter 51 #[.agg #[.slice S.a0 S.ts.length S.c0, .slice S.a1 S.bs.length S.c1, .slice S.a2 S.hs.length S.c2], .int .i64 id, .agg #[.func (.func 58) #[] #[], .func (.func 59) #[] #[], .int .i64 200, .int .i64 40, .func (.func 60) #[] #[]]] (by go_simp) ((HF.out _ (hn.trans nn)).mono fun e w'' ⟨he, hn⟩ => ⟨_, he, hn, E3.symm⟩)
    · have r9 : (a'.tmps[9]?).getD undef = _ := (eval_get a' 9).symm.trans <| (hd 3 9 (by omega) (by kernel_rfl) (by kernel_rfl)).trans E3
      exact yields_value (V 4) (by rw [E4]; go_simp) ⟨New.refl _, rfl⟩
    · have r9 : (a'.tmps[9]?).getD undef = _ := (eval_get a' 9).symm.trans <| (hd 3 9 (by omega) (by kernel_rfl) (by kernel_rfl)).trans E3
      exact yields_value (V 5) (by rw [E5]; go_simp) ⟨New.refl _, rfl⟩
  · intro vs w' nn hv
    have e4 := (hv 4 (by omega)).trans E4
    have e5 := (hv 5 (by omega)).trans E5
    simp only [List.take_succ_cons, List.take_zero, List.drop_succ_cons, List.drop_zero, putL, Act.put, List.setIfInBounds_toArray, List.set_cons_zero, List.set_cons_succ, Nat.reduceAdd, Nat.zero_add]
    rw [e4, e5]
    clear hv e4 e5 HF HK E0 E1 E2 E3 E4 E5 q0 q1 q2
    go_wp2_with (refine wpList_store_row rfl 33 _ _ rfl _ _ rfl rfl (fz.keep nn) (by kernel_rfl) (TriR.enc_one r) (fun Z nZ kZ cZ => ?_))
    have nz := nZ w (hn.trans nn) (by omega)
    obtain ⟨r0, r1, r2, r3, r4, r5, r6, r7, r8, r9⟩ := TriR.at (x := r) cZ
    clear nZ kZ cZ
    refine bodyPost_ret (v := .tuple #[.agg #[.int .i64 r.i, .int .i64 r.x0, .int .i64 r.y0, .int .i64 r.z0, .int .i64 r.x1, .int .i64 r.y1, .int .i64 r.z1, .int .i64 r.x2, .int .i64 r.y2, .int .i64 r.z2], .bool b]) (by simp [results, Try.results19, go_sem, r0, r1, r2, r3, r4, r5, r6, r7, r8, r9]) rfl ?_
    exact ⟨rfl, nz⟩

end Go.Proofs.Ytlpdfnkfknbopaa

/- Package soup: the law of others, over values. -/
namespace Go.Proofs.Ytlpdfnkfknbopaa
open Go.RowKit
set_option linter.unusedVariables false

/-- What Drop answers beside an error is nothing; else it is one less. -/
theorem DropS.sum {S : SoupV} {kind id : Int} {T : List TriR} {B : List BoxR} {H : List HopR} {er : Int} (h : DropS S kind id T B H er) : (er ≠ 0 ∧ T = [] ∧ B = [] ∧ H = []) ∨ (er = 0 ∧ T.length + B.length + H.length + 1 = S.ts.length + S.bs.length + S.hs.length ∧ T.length ≤ S.ts.length ∧ B.length ≤ S.bs.length ∧ H.length ≤ S.hs.length) := by
  cases h
  · exact Or.inl ⟨by omega, rfl, rfl, rfl⟩
  · exact Or.inl ⟨by omega, rfl, rfl, rfl⟩
  · exact Or.inl ⟨by omega, rfl, rfl, rfl⟩
  · exact Or.inl ⟨by omega, rfl, rfl, rfl⟩
  · rename_i j hj hz h
    refine Or.inr ⟨rfl, ?_, ?_, Nat.le_refl _, Nat.le_refl _⟩ <;> simp <;> omega
  · rename_i j hj hz h
    refine Or.inr ⟨rfl, ?_, Nat.le_refl _, ?_, Nat.le_refl _⟩ <;> simp <;> omega
  · rename_i j hj hz h
    refine Or.inr ⟨rfl, ?_, Nat.le_refl _, Nat.le_refl _, ?_⟩ <;> simp <;> omega
theorem AddT.done {C : CfgR} {S : SoupV} {x : TriR} {T : List TriR} {B : List BoxR} {H : List HopR} {er : Int} (h : AddT C S x T B H er) : (er ≠ 0 ∧ T = [] ∧ B = [] ∧ H = []) ∨ (er = 0 ∧ S.err C = 0 ∧ x.may C = true ∧ S.ts.length ≠ 200 ∧ ∃ p, TriR.Place S.ts x.i p ∧ TriR.hit S.ts x.i p = false ∧ T = TriR.put S.ts p x ∧ B = S.bs ∧ H = S.hs) := by
  cases h with
  | err h => exact Or.inl ⟨h, rfl, rfl, rfl⟩
  | wrong h hm => exact Or.inl ⟨by omega, rfl, rfl, rfl⟩
  | twice h hm p hp hh => exact Or.inl ⟨by omega, rfl, rfl, rfl⟩
  | full h hm p hp hh hf => exact Or.inl ⟨by omega, rfl, rfl, rfl⟩
  | ok h hm p hp hh hf => exact Or.inr ⟨rfl, h, hm, hf, p, hp, hh, rfl, rfl, rfl⟩

/-- Each one that was there is found as it was. -/
theorem TriR.put_found {l : List TriR} {p : Nat} {x : TriR} (hl : TriR.Rise l) (hp : TriR.Place l x.i p) (hh : TriR.hit l x.i p = false) {y : TriR} (hy : y = x ∨ y ∈ l) : ∃ z, TriR.IsFirst (TriR.put l p x) y.i z ∧ TriR.got (TriR.put l p x) z = y ∧ 0 ≤ z := by
  obtain ⟨z, hz⟩ := TriR.isFirst (TriR.put l p x) y.i
  have hm : y ∈ TriR.put l p x := TriR.put_mem.2 hy
  refine ⟨z, hz, ?_⟩
  have hr := TriR.put_rise hl hp hh
  rcases hz with ⟨rfl, h⟩ | ⟨j, hj, rfl, h1, h2⟩
  · obtain ⟨k, hk, rfl⟩ := List.getElem_of_mem hm
    exact absurd rfl (h k hk)
  · refine ⟨?_, by omega⟩
    obtain ⟨k, hk, hky⟩ := List.getElem_of_mem hm
    have hjk : j = k := by
      rcases Nat.lt_trichotomy j k with q | q | q
      · unfold TriR.Rise at hr
        rw [List.pairwise_iff_getElem] at hr
        have := hr j k hj hk q
        rw [h1, hky] at this
        omega
      · exact q
      · exact absurd (by rw [hky]) (h2 k q)
    subst hjk
    unfold TriR.got
    rw [if_neg (by omega), Int.toNat_natCast, getElem!_pos _ j hj, hky]

set_option maxHeartbeats 4000000 in
set_option maxRecDepth 100000 in
theorem l_others (C : CfgR) (S : SoupV) (x : TriR) (id kind : Int) (w : World) (hS : S.ok w) :
    Calls Try.prog 5 #[.agg #[.int .i64 C.cl, .int .i64 C.cb, .int .i64 C.ht, .int .i64 C.ri, .int .i64 C.ru, .int .i64 C.wd, .int .i64 C.dp], .agg #[.slice S.a0 S.ts.length S.c0, .slice S.a1 S.bs.length S.c1, .slice S.a2 S.hs.length S.c2], .agg #[.int .i64 x.i, .int .i64 x.x0, .int .i64 x.y0, .int .i64 x.z0, .int .i64 x.x1, .int .i64 x.y1, .int .i64 x.z1, .int .i64 x.x2, .int .i64 x.y2, .int .i64 x.z2], .int .i64 id, .int .i64 kind] w fun e w' => e = .returned (.bool true) ∧ New w w' := by
  have HG := Lib.hid (fun W (n : New w W) => s_great S W (hS.keep n))
  have HW := Lib.hid s_wakes
  cases hg : S.great
  rotate_left
  · rw [hg] at HG
    clear hg hS
    go_enter Try.func5, Try.ntmps5
    go_wp2_with fail
    generalize hW : World.alloc _ _ = W
    have hn : New w W := by subst hW; (repeat (first | (with_reducible exact New.refl _) | (with_reducible assumption) | ((with_reducible refine New.setB ?_ ?_ _); focus (first | omega | (simp; omega) | (simp; done))) | (with_reducible refine New.alloc ?_ _) | (with_reducible refine New.drew ?_) | (with_reducible refine New.drewN ?_ _) | (with_reducible refine New.hat ?_ _) | ((with_reducible apply New.snart); (with_reducible assumption))))
    clear hW
    refine (HG.out _ hn).mono ?_
    rintro e W1 ⟨rfl, n1⟩
    go_wp2_with fail
    refine (HW.out _).mono ?_
    rintro e W2 ⟨rfl, n2⟩
    go_wp2_with fail
    go_ret
    exact ⟨rfl, (hn.trans n1).trans n2⟩
  rw [hg] at HG
  have hf := SoupV.few_of hg
  clear hg
  obtain ⟨T, B, H, er, hadd, hA⟩ := addT_any C S x hf
  obtain ⟨T2, B2, H2, er2, hdrop, hD⟩ := drop_any S kind id hf
  have HA := Lib.hid (fun W (n : New w W) => hA W (hS.keep n))
  have HD := Lib.hid (fun W (n : New w W) => hD W (hS.keep n))
  clear hA hD
  have f1 := hf.t
  have f2 := hf.b
  have f3 := hf.h
  rcases hadd.done with ⟨he, rfl, rfl, rfl⟩ | ⟨rfl, he, hm, hf2, p, hp, hh, rfl, rfl, rfl⟩
  · have hb : (er == 0) = false := by simpa using he
    rcases hdrop.sum with ⟨he2, rfl, rfl, rfl⟩ | ⟨rfl, hs1, hs2, hs3, hs4⟩
    · have hb2 : (er2 != 0) = true := by simpa using he2
      clear hadd hdrop he he2 hS hf
      go_enter Try.func5, Try.ntmps5
      go_wp2_with fail
      generalize hW : World.alloc _ _ = W
      have hn : New w W := by subst hW; (repeat (first | (with_reducible exact New.refl _) | (with_reducible assumption) | ((with_reducible refine New.setB ?_ ?_ _); focus (first | omega | (simp; omega) | (simp; done))) | (with_reducible refine New.alloc ?_ _) | (with_reducible refine New.drew ?_) | (with_reducible refine New.drewN ?_ _) | (with_reducible refine New.hat ?_ _) | ((with_reducible apply New.snart); (with_reducible assumption))))
      ((have g0 : World.cell? (W) ⟨w.heap.size, 0, none⟩ = some (.int .i64 C.cl) := (by subst hW; go_simp)); (have g1 : World.cell? (W) ⟨w.heap.size, 1, none⟩ = some (.int .i64 C.cb) := (by subst hW; go_simp)); (have g2 : World.cell? (W) ⟨w.heap.size, 2, none⟩ = some (.int .i64 C.ht) := (by subst hW; go_simp)); (have g3 : World.cell? (W) ⟨w.heap.size, 3, none⟩ = some (.int .i64 C.ri) := (by subst hW; go_simp)); (have g4 : World.cell? (W) ⟨w.heap.size, 4, none⟩ = some (.int .i64 C.ru) := (by subst hW; go_simp)); (have g5 : World.cell? (W) ⟨w.heap.size, 5, none⟩ = some (.int .i64 C.wd) := (by subst hW; go_simp)); (have g6 : World.cell? (W) ⟨w.heap.size, 6, none⟩ = some (.int .i64 C.dp) := (by subst hW; go_simp)))
      have q0 : W.cell? ⟨w.heap.size + 1, 0, none⟩ = some (.slice S.a0 S.ts.length S.c0) := by subst hW; go_simp
      have q1 : W.cell? ⟨w.heap.size + 1, 1, none⟩ = some (.slice S.a1 S.bs.length S.c1) := by subst hW; go_simp
      have q2 : W.cell? ⟨w.heap.size + 1, 2, none⟩ = some (.slice S.a2 S.hs.length S.c2) := by subst hW; go_simp
      ((have x0 : World.cell? (W) ⟨w.heap.size + 1 + 1, 0, none⟩ = some (.int .i64 x.i) := (by subst hW; go_simp)); (have x1 : World.cell? (W) ⟨w.heap.size + 1 + 1, 1, none⟩ = some (.int .i64 x.x0) := (by subst hW; go_simp)); (have x2 : World.cell? (W) ⟨w.heap.size + 1 + 1, 2, none⟩ = some (.int .i64 x.y0) := (by subst hW; go_simp)); (have x3 : World.cell? (W) ⟨w.heap.size + 1 + 1, 3, none⟩ = some (.int .i64 x.z0) := (by subst hW; go_simp)); (have x4 : World.cell? (W) ⟨w.heap.size + 1 + 1, 4, none⟩ = some (.int .i64 x.x1) := (by subst hW; go_simp)); (have x5 : World.cell? (W) ⟨w.heap.size + 1 + 1, 5, none⟩ = some (.int .i64 x.y1) := (by subst hW; go_simp)); (have x6 : World.cell? (W) ⟨w.heap.size + 1 + 1, 6, none⟩ = some (.int .i64 x.z1) := (by subst hW; go_simp)); (have x7 : World.cell? (W) ⟨w.heap.size + 1 + 1, 7, none⟩ = some (.int .i64 x.x2) := (by subst hW; go_simp)); (have x8 : World.cell? (W) ⟨w.heap.size + 1 + 1, 8, none⟩ = some (.int .i64 x.y2) := (by subst hW; go_simp)); (have x9 : World.cell? (W) ⟨w.heap.size + 1 + 1, 9, none⟩ = some (.int .i64 x.z2) := (by subst hW; go_simp)))
      clear hW
      refine (HG.out _ hn).mono ?_
      rintro e W1 ⟨rfl, n1⟩
      (replace hn := hn.trans n1; replace q0 := n1.keep q0; replace q1 := n1.keep q1; replace q2 := n1.keep q2; replace g0 := New.keep (n1) g0; replace g1 := New.keep (n1) g1; replace g2 := New.keep (n1) g2; replace g3 := New.keep (n1) g3; replace g4 := New.keep (n1) g4; replace g5 := New.keep (n1) g5; replace g6 := New.keep (n1) g6; replace x0 := New.keep (n1) x0; replace x1 := New.keep (n1) x1; replace x2 := New.keep (n1) x2; replace x3 := New.keep (n1) x3; replace x4 := New.keep (n1) x4; replace x5 := New.keep (n1) x5; replace x6 := New.keep (n1) x6; replace x7 := New.keep (n1) x7; replace x8 := New.keep (n1) x8; replace x9 := New.keep (n1) x9; clear n1)
      go_wp2_with fail
      refine (HA.out _ hn).mono ?_
      rintro e W2 ⟨S', rfl, h1, h2, h3, h4, h5, n1⟩
      clear h1 h2 h3 h4 h5
      (replace hn := hn.trans n1; replace q0 := n1.keep q0; replace q1 := n1.keep q1; replace q2 := n1.keep q2; replace g0 := New.keep (n1) g0; replace g1 := New.keep (n1) g1; replace g2 := New.keep (n1) g2; replace g3 := New.keep (n1) g3; replace g4 := New.keep (n1) g4; replace g5 := New.keep (n1) g5; replace g6 := New.keep (n1) g6; replace x0 := New.keep (n1) x0; replace x1 := New.keep (n1) x1; replace x2 := New.keep (n1) x2; replace x3 := New.keep (n1) x3; replace x4 := New.keep (n1) x4; replace x5 := New.keep (n1) x5; replace x6 := New.keep (n1) x6; replace x7 := New.keep (n1) x7; replace x8 := New.keep (n1) x8; replace x9 := New.keep (n1) x9; clear n1)
      have hz0 : w.heap.size < W2.heap.size := World.block_lt_of_cell? _ _ g0
      have hz1 : w.heap.size + 1 < W2.heap.size := World.block_lt_of_cell? _ _ q0
      have hz2 : w.heap.size + 1 + 1 < W2.heap.size := World.block_lt_of_cell? _ _ x0
      go_wp2_with fail
      have hn2 : New w _ := hn.alloc (.cells #[.slice S'.a0 S'.ts.length S'.c0, .slice S'.a1 S'.bs.length S'.c1, .slice S'.a2 S'.hs.length S'.c2] 28)
      have y0 := ((New.refl W2).alloc (.cells #[.slice S'.a0 S'.ts.length S'.c0, .slice S'.a1 S'.bs.length S'.c1, .slice S'.a2 S'.hs.length S'.c2] 28)).keep q0
      have y1 := ((New.refl W2).alloc (.cells #[.slice S'.a0 S'.ts.length S'.c0, .slice S'.a1 S'.bs.length S'.c1, .slice S'.a2 S'.hs.length S'.c2] 28)).keep q1
      have y2 := ((New.refl W2).alloc (.cells #[.slice S'.a0 S'.ts.length S'.c0, .slice S'.a1 S'.bs.length S'.c1, .slice S'.a2 S'.hs.length S'.c2] 28)).keep q2
      clear q0 q1 q2
      clear HA
      refine (HD.out _ hn2).mono ?_
      rintro e W3 ⟨⟨ts, bs, hs, b0, b1, b2, d0, d1, d2⟩, rfl, k1, k2, k3, k4, k5, n2⟩
      simp only at k2 k3 k4
      subst k2 k3 k4
      replace y0 := n2.keep y0
      replace y1 := n2.keep y1
      replace y2 := n2.keep y2
      have hn3 : New w W3 := New.trans hn2 n2
      have hz3 : w.heap.size + 1 < W3.heap.size := World.block_lt_of_cell? _ _ y0
      clear HD HG k1 k5 n2 hn2
      go_wp2_with fail
      refine (HW.out _).mono ?_
      rintro e W4 ⟨rfl, n4⟩
      have hn4 : New w W4 := New.trans (by (repeat (first | (with_reducible exact New.refl _) | (with_reducible assumption) | ((with_reducible refine New.setB ?_ ?_ _); focus (first | omega | (simp; omega) | (simp; done))) | (with_reducible refine New.alloc ?_ _) | (with_reducible refine New.drew ?_) | (with_reducible refine New.drewN ?_ _) | (with_reducible refine New.hat ?_ _) | ((with_reducible apply New.snart); (with_reducible assumption))))) n4
      go_wp2_with fail
      go_ret
      exact ⟨rfl, hn4⟩
    · have hsum : (((T2.length : Int) + (B2.length : Int) + (H2.length : Int)) == ((S.ts.length : Int) + (S.bs.length : Int) + (S.hs.length : Int) - 1)) = true := by rw [beq_iff_eq]; omega
      have m1 : T2.length ≤ 900 := by omega
      have m2 : B2.length ≤ 900 := by omega
      have m3 : H2.length ≤ 900 := by omega
      clear hadd hdrop he hS hf hs1 hs2 hs3 hs4
      go_enter Try.func5, Try.ntmps5
      go_wp2_with fail
      generalize hW : World.alloc _ _ = W
      have hn : New w W := by subst hW; (repeat (first | (with_reducible exact New.refl _) | (with_reducible assumption) | ((with_reducible refine New.setB ?_ ?_ _); focus (first | omega | (simp; omega) | (simp; done))) | (with_reducible refine New.alloc ?_ _) | (with_reducible refine New.drew ?_) | (with_reducible refine New.drewN ?_ _) | (with_reducible refine New.hat ?_ _) | ((with_reducible apply New.snart); (with_reducible assumption))))
      ((have g0 : World.cell? (W) ⟨w.heap.size, 0, none⟩ = some (.int .i64 C.cl) := (by subst hW; go_simp)); (have g1 : World.cell? (W) ⟨w.heap.size, 1, none⟩ = some (.int .i64 C.cb) := (by subst hW; go_simp)); (have g2 : World.cell? (W) ⟨w.heap.size, 2, none⟩ = some (.int .i64 C.ht) := (by subst hW; go_simp)); (have g3 : World.cell? (W) ⟨w.heap.size, 3, none⟩ = some (.int .i64 C.ri) := (by subst hW; go_simp)); (have g4 : World.cell? (W) ⟨w.heap.size, 4, none⟩ = some (.int .i64 C.ru) := (by subst hW; go_simp)); (have g5 : World.cell? (W) ⟨w.heap.size, 5, none⟩ = some (.int .i64 C.wd) := (by subst hW; go_simp)); (have g6 : World.cell? (W) ⟨w.heap.size, 6, none⟩ = some (.int .i64 C.dp) := (by subst hW; go_simp)))
      have q0 : W.cell? ⟨w.heap.size + 1, 0, none⟩ = some (.slice S.a0 S.ts.length S.c0) := by subst hW; go_simp
      have q1 : W.cell? ⟨w.heap.size + 1, 1, none⟩ = some (.slice S.a1 S.bs.length S.c1) := by subst hW; go_simp
      have q2 : W.cell? ⟨w.heap.size + 1, 2, none⟩ = some (.slice S.a2 S.hs.length S.c2) := by subst hW; go_simp
      ((have x0 : World.cell? (W) ⟨w.heap.size + 1 + 1, 0, none⟩ = some (.int .i64 x.i) := (by subst hW; go_simp)); (have x1 : World.cell? (W) ⟨w.heap.size + 1 + 1, 1, none⟩ = some (.int .i64 x.x0) := (by subst hW; go_simp)); (have x2 : World.cell? (W) ⟨w.heap.size + 1 + 1, 2, none⟩ = some (.int .i64 x.y0) := (by subst hW; go_simp)); (have x3 : World.cell? (W) ⟨w.heap.size + 1 + 1, 3, none⟩ = some (.int .i64 x.z0) := (by subst hW; go_simp)); (have x4 : World.cell? (W) ⟨w.heap.size + 1 + 1, 4, none⟩ = some (.int .i64 x.x1) := (by subst hW; go_simp)); (have x5 : World.cell? (W) ⟨w.heap.size + 1 + 1, 5, none⟩ = some (.int .i64 x.y1) := (by subst hW; go_simp)); (have x6 : World.cell? (W) ⟨w.heap.size + 1 + 1, 6, none⟩ = some (.int .i64 x.z1) := (by subst hW; go_simp)); (have x7 : World.cell? (W) ⟨w.heap.size + 1 + 1, 7, none⟩ = some (.int .i64 x.x2) := (by subst hW; go_simp)); (have x8 : World.cell? (W) ⟨w.heap.size + 1 + 1, 8, none⟩ = some (.int .i64 x.y2) := (by subst hW; go_simp)); (have x9 : World.cell? (W) ⟨w.heap.size + 1 + 1, 9, none⟩ = some (.int .i64 x.z2) := (by subst hW; go_simp)))
      clear hW
      refine (HG.out _ hn).mono ?_
      rintro e W1 ⟨rfl, n1⟩
      (replace hn := hn.trans n1; replace q0 := n1.keep q0; replace q1 := n1.keep q1; replace q2 := n1.keep q2; replace g0 := New.keep (n1) g0; replace g1 := New.keep (n1) g1; replace g2 := New.keep (n1) g2; replace g3 := New.keep (n1) g3; replace g4 := New.keep (n1) g4; replace g5 := New.keep (n1) g5; replace g6 := New.keep (n1) g6; replace x0 := New.keep (n1) x0; replace x1 := New.keep (n1) x1; replace x2 := New.keep (n1) x2; replace x3 := New.keep (n1) x3; replace x4 := New.keep (n1) x4; replace x5 := New.keep (n1) x5; replace x6 := New.keep (n1) x6; replace x7 := New.keep (n1) x7; replace x8 := New.keep (n1) x8; replace x9 := New.keep (n1) x9; clear n1)
      go_wp2_with fail
      refine (HA.out _ hn).mono ?_
      rintro e W2 ⟨S', rfl, h1, h2, h3, h4, h5, n1⟩
      clear h1 h2 h3 h4 h5
      (replace hn := hn.trans n1; replace q0 := n1.keep q0; replace q1 := n1.keep q1; replace q2 := n1.keep q2; replace g0 := New.keep (n1) g0; replace g1 := New.keep (n1) g1; replace g2 := New.keep (n1) g2; replace g3 := New.keep (n1) g3; replace g4 := New.keep (n1) g4; replace g5 := New.keep (n1) g5; replace g6 := New.keep (n1) g6; replace x0 := New.keep (n1) x0; replace x1 := New.keep (n1) x1; replace x2 := New.keep (n1) x2; replace x3 := New.keep (n1) x3; replace x4 := New.keep (n1) x4; replace x5 := New.keep (n1) x5; replace x6 := New.keep (n1) x6; replace x7 := New.keep (n1) x7; replace x8 := New.keep (n1) x8; replace x9 := New.keep (n1) x9; clear n1)
      have hz0 : w.heap.size < W2.heap.size := World.block_lt_of_cell? _ _ g0
      have hz1 : w.heap.size + 1 < W2.heap.size := World.block_lt_of_cell? _ _ q0
      have hz2 : w.heap.size + 1 + 1 < W2.heap.size := World.block_lt_of_cell? _ _ x0
      go_wp2_with fail
      have hn2 : New w _ := hn.alloc (.cells #[.slice S'.a0 S'.ts.length S'.c0, .slice S'.a1 S'.bs.length S'.c1, .slice S'.a2 S'.hs.length S'.c2] 28)
      have y0 := ((New.refl W2).alloc (.cells #[.slice S'.a0 S'.ts.length S'.c0, .slice S'.a1 S'.bs.length S'.c1, .slice S'.a2 S'.hs.length S'.c2] 28)).keep q0
      have y1 := ((New.refl W2).alloc (.cells #[.slice S'.a0 S'.ts.length S'.c0, .slice S'.a1 S'.bs.length S'.c1, .slice S'.a2 S'.hs.length S'.c2] 28)).keep q1
      have y2 := ((New.refl W2).alloc (.cells #[.slice S'.a0 S'.ts.length S'.c0, .slice S'.a1 S'.bs.length S'.c1, .slice S'.a2 S'.hs.length S'.c2] 28)).keep q2
      clear q0 q1 q2
      clear HA
      refine (HD.out _ hn2).mono ?_
      rintro e W3 ⟨⟨ts, bs, hs, b0, b1, b2, d0, d1, d2⟩, rfl, k1, k2, k3, k4, k5, n2⟩
      simp only at k2 k3 k4
      subst k2 k3 k4
      replace y0 := n2.keep y0
      replace y1 := n2.keep y1
      replace y2 := n2.keep y2
      have hn3 : New w W3 := New.trans hn2 n2
      have hz3 : w.heap.size + 1 < W3.heap.size := World.block_lt_of_cell? _ _ y0
      clear HD HG k1 k5 n2 hn2
      go_wp2_with fail
      refine (HW.out _).mono ?_
      rintro e W4 ⟨rfl, n4⟩
      have hn4 : New w W4 := New.trans (by (repeat (first | (with_reducible exact New.refl _) | (with_reducible assumption) | ((with_reducible refine New.setB ?_ ?_ _); focus (first | omega | (simp; omega) | (simp; done))) | (with_reducible refine New.alloc ?_ _) | (with_reducible refine New.drew ?_) | (with_reducible refine New.drewN ?_ _) | (with_reducible refine New.hat ?_ _) | ((with_reducible apply New.snart); (with_reducible assumption))))) n4
      go_wp2_with fail
      go_ret
      exact ⟨rfl, hn4⟩
  · have hrise := (TriR.listB_iff.1 (SoupV.err_zero he).2.1).2.2
    have hfound := fun y hy => TriR.put_found (y := y) hrise hp hh hy
    have hulen : (TriR.put S.ts p x).length = S.ts.length + 1 := TriR.put_len hp.le
    obtain ⟨U, hU⟩ : ∃ U, U = TriR.put S.ts p x := ⟨_, rfl⟩
    rw [← hU] at HA hulen hfound
    have hlu : (((U.length : Nat) : Int) != (S.ts.length : Int) + 1) = false := by rw [hulen]; simp
    have HGET : Hid (∀ (SS : SoupV) (W : World), SS.ok W → SS.ts = U → ∀ y, (y = x ∨ y ∈ S.ts) → Calls Try.prog 19 #[.agg #[.slice SS.a0 SS.ts.length SS.c0, .slice SS.a1 SS.bs.length SS.c1, .slice SS.a2 SS.hs.length SS.c2], .int .i64 y.i] W fun e w' => e = .returned (.tuple #[.agg #[.int .i64 y.i, .int .i64 y.x0, .int .i64 y.y0, .int .i64 y.z0, .int .i64 y.x1, .int .i64 y.y1, .int .i64 y.z1, .int .i64 y.x2, .int .i64 y.y2, .int .i64 y.z2], .bool true]) ∧ New W w') := fun SS W hok ht y hy => by
      obtain ⟨z, hz, hgot, h0⟩ := hfound y hy
      have := t_get SS y.i z (by rw [ht]; exact hz) W hok
      rw [ht, hgot, decide_eq_true h0] at this
      rw [ht]
      exact this
    have heq : ∀ y : TriR, y.eqB y = true := fun y => (TriR.eqB_iff y y).2 rfl
    have HNE : Hid (∀ (y : TriR) (W : World), (binOp .neq 33 (.agg #[.int .i64 y.i, .int .i64 y.x0, .int .i64 y.y0, .int .i64 y.z0, .int .i64 y.x1, .int .i64 y.y1, .int .i64 y.z1, .int .i64 y.x2, .int .i64 y.y2, .int .i64 y.z2]) (.agg #[.int .i64 y.i, .int .i64 y.x0, .int .i64 y.y0, .int .i64 y.z0, .int .i64 y.x1, .int .i64 y.y1, .int .i64 y.z1, .int .i64 y.x2, .int .i64 y.y2, .int .i64 y.z2])).run Try.prog W = .ok (.bool false) W) := fun y W => by
      have := t_neq W y y
      rw [heq] at this
      exact this
    have hst := hS.t.row
    have HRS := Lib.hid hst.2.2.2.2
    have HOW := Lib.hid (fun y => (Or.inl : y = x → y = x ∨ y ∈ S.ts))
    have um : U.length ≤ 901 := by omega
    clear hfound hU hst hulen heq
    generalize hSa : S.a0 = A0 at *
    clear hSa
    clear hh hp hm he
    rcases hdrop.sum with ⟨he2, rfl, rfl, rfl⟩ | ⟨rfl, hs1, hs2, hs3, hs4⟩
    · have hb2 : (er2 != 0) = true := by simpa using he2
      clear hadd hdrop he2 hS hf
      go_enter Try.func5, Try.ntmps5
      go_wp2_with fail
      generalize hW : World.alloc _ _ = W
      have hn : New w W := by subst hW; (repeat (first | (with_reducible exact New.refl _) | (with_reducible assumption) | ((with_reducible refine New.setB ?_ ?_ _); focus (first | omega | (simp; omega) | (simp; done))) | (with_reducible refine New.alloc ?_ _) | (with_reducible refine New.drew ?_) | (with_reducible refine New.drewN ?_ _) | (with_reducible refine New.hat ?_ _) | ((with_reducible apply New.snart); (with_reducible assumption))))
      ((have g0 : World.cell? (W) ⟨w.heap.size, 0, none⟩ = some (.int .i64 C.cl) := (by subst hW; go_simp)); (have g1 : World.cell? (W) ⟨w.heap.size, 1, none⟩ = some (.int .i64 C.cb) := (by subst hW; go_simp)); (have g2 : World.cell? (W) ⟨w.heap.size, 2, none⟩ = some (.int .i64 C.ht) := (by subst hW; go_simp)); (have g3 : World.cell? (W) ⟨w.heap.size, 3, none⟩ = some (.int .i64 C.ri) := (by subst hW; go_simp)); (have g4 : World.cell? (W) ⟨w.heap.size, 4, none⟩ = some (.int .i64 C.ru) := (by subst hW; go_simp)); (have g5 : World.cell? (W) ⟨w.heap.size, 5, none⟩ = some (.int .i64 C.wd) := (by subst hW; go_simp)); (have g6 : World.cell? (W) ⟨w.heap.size, 6, none⟩ = some (.int .i64 C.dp) := (by subst hW; go_simp)))
      have q0 : W.cell? ⟨w.heap.size + 1, 0, none⟩ = some (.slice A0 S.ts.length S.c0) := by subst hW; go_simp
      have q1 : W.cell? ⟨w.heap.size + 1, 1, none⟩ = some (.slice S.a1 S.bs.length S.c1) := by subst hW; go_simp
      have q2 : W.cell? ⟨w.heap.size + 1, 2, none⟩ = some (.slice S.a2 S.hs.length S.c2) := by subst hW; go_simp
      ((have x0 : World.cell? (W) ⟨w.heap.size + 1 + 1, 0, none⟩ = some (.int .i64 x.i) := (by subst hW; go_simp)); (have x1 : World.cell? (W) ⟨w.heap.size + 1 + 1, 1, none⟩ = some (.int .i64 x.x0) := (by subst hW; go_simp)); (have x2 : World.cell? (W) ⟨w.heap.size + 1 + 1, 2, none⟩ = some (.int .i64 x.y0) := (by subst hW; go_simp)); (have x3 : World.cell? (W) ⟨w.heap.size + 1 + 1, 3, none⟩ = some (.int .i64 x.z0) := (by subst hW; go_simp)); (have x4 : World.cell? (W) ⟨w.heap.size + 1 + 1, 4, none⟩ = some (.int .i64 x.x1) := (by subst hW; go_simp)); (have x5 : World.cell? (W) ⟨w.heap.size + 1 + 1, 5, none⟩ = some (.int .i64 x.y1) := (by subst hW; go_simp)); (have x6 : World.cell? (W) ⟨w.heap.size + 1 + 1, 6, none⟩ = some (.int .i64 x.z1) := (by subst hW; go_simp)); (have x7 : World.cell? (W) ⟨w.heap.size + 1 + 1, 7, none⟩ = some (.int .i64 x.x2) := (by subst hW; go_simp)); (have x8 : World.cell? (W) ⟨w.heap.size + 1 + 1, 8, none⟩ = some (.int .i64 x.y2) := (by subst hW; go_simp)); (have x9 : World.cell? (W) ⟨w.heap.size + 1 + 1, 9, none⟩ = some (.int .i64 x.z2) := (by subst hW; go_simp)))
      clear hW
      refine (HG.out _ hn).mono ?_
      rintro e W1 ⟨rfl, n1⟩
      (replace hn := hn.trans n1; replace q0 := n1.keep q0; replace q1 := n1.keep q1; replace q2 := n1.keep q2; replace g0 := New.keep (n1) g0; replace g1 := New.keep (n1) g1; replace g2 := New.keep (n1) g2; replace g3 := New.keep (n1) g3; replace g4 := New.keep (n1) g4; replace g5 := New.keep (n1) g5; replace g6 := New.keep (n1) g6; replace x0 := New.keep (n1) x0; replace x1 := New.keep (n1) x1; replace x2 := New.keep (n1) x2; replace x3 := New.keep (n1) x3; replace x4 := New.keep (n1) x4; replace x5 := New.keep (n1) x5; replace x6 := New.keep (n1) x6; replace x7 := New.keep (n1) x7; replace x8 := New.keep (n1) x8; replace x9 := New.keep (n1) x9; clear n1)
      go_wp2_with fail
      refine (HA.out _ hn).mono ?_
      rintro e W2 ⟨⟨us, vs, zs, b0, b1, b2, d0, d1, d2⟩, rfl, h1, h2, h3, h4, h5, n1⟩
      simp only at h2 h3 h4
      subst h2 h3 h4
      have OK := Lib.hid h1
      (replace hn := hn.trans n1; replace q0 := n1.keep q0; replace q1 := n1.keep q1; replace q2 := n1.keep q2; replace g0 := New.keep (n1) g0; replace g1 := New.keep (n1) g1; replace g2 := New.keep (n1) g2; replace g3 := New.keep (n1) g3; replace g4 := New.keep (n1) g4; replace g5 := New.keep (n1) g5; replace g6 := New.keep (n1) g6; replace x0 := New.keep (n1) x0; replace x1 := New.keep (n1) x1; replace x2 := New.keep (n1) x2; replace x3 := New.keep (n1) x3; replace x4 := New.keep (n1) x4; replace x5 := New.keep (n1) x5; replace x6 := New.keep (n1) x6; replace x7 := New.keep (n1) x7; replace x8 := New.keep (n1) x8; replace x9 := New.keep (n1) x9; clear n1)
      have hz0 : w.heap.size < W2.heap.size := World.block_lt_of_cell? _ _ g0
      have hz1 : w.heap.size + 1 < W2.heap.size := World.block_lt_of_cell? _ _ q0
      have hz2 : w.heap.size + 1 + 1 < W2.heap.size := World.block_lt_of_cell? _ _ x0
      clear h1 h5 HA
      go_wp2_with fail
      generalize hX : World.alloc _ _ = X
      have nX : New W2 X := by subst hX; (repeat (first | (with_reducible exact New.refl _) | (with_reducible assumption) | ((with_reducible refine New.setB ?_ ?_ _); focus (first | omega | (simp; omega) | (simp; done))) | (with_reducible refine New.alloc ?_ _) | (with_reducible refine New.drew ?_) | (with_reducible refine New.drewN ?_ _) | (with_reducible refine New.hat ?_ _) | ((with_reducible apply New.snart); (with_reducible assumption))))
      have p0 : X.cell? ⟨W2.heap.size, 0, none⟩ = some (.slice b0 us.length d0) := by subst hX; go_simp
      have p1 : X.cell? ⟨W2.heap.size, 1, none⟩ = some (.slice b1 S.bs.length d1) := by subst hX; go_simp
      have p2 : X.cell? ⟨W2.heap.size, 2, none⟩ = some (.slice b2 S.hs.length d2) := by subst hX; go_simp
      replace q0 := nX.keep q0
      replace q1 := nX.keep q1
      replace q2 := nX.keep q2
      (replace x0 := New.keep (nX) x0; replace x1 := New.keep (nX) x1; replace x2 := New.keep (nX) x2; replace x3 := New.keep (nX) x3; replace x4 := New.keep (nX) x4; replace x5 := New.keep (nX) x5; replace x6 := New.keep (nX) x6; replace x7 := New.keep (nX) x7; replace x8 := New.keep (nX) x8; replace x9 := New.keep (nX) x9)
      replace hn := hn.trans nX
      replace OK := Lib.hid (OK.out.keep nX)
      clear hX nX hz0 hz1 hz2
      refine (HGET.out _ X OK.out rfl x (Or.inl rfl)).mono ?_
      rintro e X2 ⟨rfl, n1⟩
      replace p0 := n1.keep p0
      replace p1 := n1.keep p1
      replace p2 := n1.keep p2
      replace q0 := n1.keep q0
      replace q1 := n1.keep q1
      replace q2 := n1.keep q2
      (replace x0 := New.keep (n1) x0; replace x1 := New.keep (n1) x1; replace x2 := New.keep (n1) x2; replace x3 := New.keep (n1) x3; replace x4 := New.keep (n1) x4; replace x5 := New.keep (n1) x5; replace x6 := New.keep (n1) x6; replace x7 := New.keep (n1) x7; replace x8 := New.keep (n1) x8; replace x9 := New.keep (n1) x9)
      replace hn := hn.trans n1
      replace OK := Lib.hid (OK.out.keep n1)
      have hz0 : w.heap.size + 1 < X2.heap.size := World.block_lt_of_cell? _ _ q0
      have hz1 : w.heap.size + 1 + 1 < X2.heap.size := World.block_lt_of_cell? _ _ x0
      have hz2 : W2.heap.size < X2.heap.size := World.block_lt_of_cell? _ _ p0
      clear n1
      have hne := HNE.out x
      go_wp2_with fail
      go_loopg [78] S.ts.length (fun k s t => ∃ i : Nat, s = .int .i64 i ∧ i + k = S.ts.length ∧ New X2 t)
      case atStart => exact ⟨0, by simp, by omega, by (repeat (first | (with_reducible exact New.refl _) | (with_reducible assumption) | ((with_reducible refine New.setB ?_ ?_ _); focus (first | omega | (simp; omega) | (simp; done))) | (with_reducible refine New.alloc ?_ _) | (with_reducible refine New.drew ?_) | (with_reducible refine New.drewN ?_ _) | (with_reducible refine New.hat ?_ _) | ((with_reducible apply New.snart); (with_reducible assumption))))⟩
      case round =>
        obtain ⟨i, rfl, hik, hnX⟩ := hrel
        clear hne hlu
        replace p0 := hnX.keep p0
        replace p1 := hnX.keep p1
        replace p2 := hnX.keep p2
        replace q0 := hnX.keep q0
        replace q1 := hnX.keep q1
        replace q2 := hnX.keep q2
        have hnw := hn.trans hnX
        have OKw := Lib.hid (OK.out.keep hnX)
        by_cases hlt : i < S.ts.length
        · obtain ⟨rb, roff, rfl, hrA⟩ := HRS.out (by omega)
          obtain ⟨c0, c1, c2, c3, c4, c5, c6, c7, c8, c9⟩ := TriR.cells (hrA.keep hnw) i hlt
          have hne := HNE.out S.ts[i]
          have HGI := Lib.hid (fun W hok => HGET.out ⟨us, S.bs, S.hs, b0, b1, b2, d0, d1, d2⟩ W hok rfl S.ts[i] (Or.inr (List.getElem_mem hlt)))
          clear hrA
          have hz3 : W2.heap.size < wr.heap.size := World.block_lt_of_cell? _ _ p0
          go_wp2_with fail
          generalize hY : World.alloc _ _ = Y
          have nY : New wr Y := by subst hY; (repeat (first | (with_reducible exact New.refl _) | (with_reducible assumption) | ((with_reducible refine New.setB ?_ ?_ _); focus (first | omega | (simp; omega) | (simp; done))) | (with_reducible refine New.alloc ?_ _) | (with_reducible refine New.drew ?_) | (with_reducible refine New.drewN ?_ _) | (with_reducible refine New.hat ?_ _) | ((with_reducible apply New.snart); (with_reducible assumption))))
          ((have o0 : World.cell? (Y) ⟨wr.heap.size, 0, none⟩ = some (.int .i64 S.ts[i].i) := (by subst hY; go_simp)); (have o1 : World.cell? (Y) ⟨wr.heap.size, 1, none⟩ = some (.int .i64 S.ts[i].x0) := (by subst hY; go_simp)); (have o2 : World.cell? (Y) ⟨wr.heap.size, 2, none⟩ = some (.int .i64 S.ts[i].y0) := (by subst hY; go_simp)); (have o3 : World.cell? (Y) ⟨wr.heap.size, 3, none⟩ = some (.int .i64 S.ts[i].z0) := (by subst hY; go_simp)); (have o4 : World.cell? (Y) ⟨wr.heap.size, 4, none⟩ = some (.int .i64 S.ts[i].x1) := (by subst hY; go_simp)); (have o5 : World.cell? (Y) ⟨wr.heap.size, 5, none⟩ = some (.int .i64 S.ts[i].y1) := (by subst hY; go_simp)); (have o6 : World.cell? (Y) ⟨wr.heap.size, 6, none⟩ = some (.int .i64 S.ts[i].z1) := (by subst hY; go_simp)); (have o7 : World.cell? (Y) ⟨wr.heap.size, 7, none⟩ = some (.int .i64 S.ts[i].x2) := (by subst hY; go_simp)); (have o8 : World.cell? (Y) ⟨wr.heap.size, 8, none⟩ = some (.int .i64 S.ts[i].y2) := (by subst hY; go_simp)); (have o9 : World.cell? (Y) ⟨wr.heap.size, 9, none⟩ = some (.int .i64 S.ts[i].z2) := (by subst hY; go_simp)))
          clear hY
          refine (HGI.out Y (OKw.out.keep nY)).mono ?_
          rintro e Y2 ⟨rfl, n1⟩
          (replace o0 := New.keep (n1) o0; replace o1 := New.keep (n1) o1; replace o2 := New.keep (n1) o2; replace o3 := New.keep (n1) o3; replace o4 := New.keep (n1) o4; replace o5 := New.keep (n1) o5; replace o6 := New.keep (n1) o6; replace o7 := New.keep (n1) o7; replace o8 := New.keep (n1) o8; replace o9 := New.keep (n1) o9)
          replace nY := nY.trans n1
          have hz4 : wr.heap.size < Y2.heap.size := World.block_lt_of_cell? _ _ o0
          clear n1 HGI
          go_wp2_with fail
          go_roundg (gk - 1)
          case measure => omega
          case rel => exact ⟨i + 1, by go_num, by omega, by (repeat (first | (with_reducible exact New.refl _) | (with_reducible assumption) | ((with_reducible refine New.setB ?_ ?_ _); focus (first | omega | (simp; omega) | (simp; done))) | (with_reducible refine New.alloc ?_ _) | (with_reducible refine New.drew ?_) | (with_reducible refine New.drewN ?_ _) | (with_reducible refine New.hat ?_ _) | ((with_reducible apply New.snart); (with_reducible assumption))))⟩
        · have hn2 := hnw
          have y0 := q0
          have y1 := q1
          have y2 := q2
          clear p0 p1 p2 HNE HGET HOW OK
          go_wp2_with fail
          refine (HD.out _ hn2).mono ?_
          rintro e W3 ⟨⟨ts, bs, hs, b0, b1, b2, d0, d1, d2⟩, rfl, k1, k2, k3, k4, k5, n2⟩
          simp only at k2 k3 k4
          subst k2 k3 k4
          replace y0 := n2.keep y0
          replace y1 := n2.keep y1
          replace y2 := n2.keep y2
          have hn3 : New w W3 := New.trans hn2 n2
          have hz3 : w.heap.size + 1 < W3.heap.size := World.block_lt_of_cell? _ _ y0
          clear HD HG k1 k5 n2 hn2
          go_wp2_with fail
          refine (HW.out _).mono ?_
          rintro e W4 ⟨rfl, n4⟩
          have hn4 : New w W4 := New.trans (by (repeat (first | (with_reducible exact New.refl _) | (with_reducible assumption) | ((with_reducible refine New.setB ?_ ?_ _); focus (first | omega | (simp; omega) | (simp; done))) | (with_reducible refine New.alloc ?_ _) | (with_reducible refine New.drew ?_) | (with_reducible refine New.drewN ?_ _) | (with_reducible refine New.hat ?_ _) | ((with_reducible apply New.snart); (with_reducible assumption))))) n4
          go_wp2_with fail
          go_ret
          exact ⟨rfl, hn4⟩
    · have hsum : (((T2.length : Int) + (B2.length : Int) + (H2.length : Int)) == ((S.ts.length : Int) + (S.bs.length : Int) + (S.hs.length : Int) - 1)) = true := by rw [beq_iff_eq]; omega
      have m1 : T2.length ≤ 900 := by omega
      have m2 : B2.length ≤ 900 := by omega
      have m3 : H2.length ≤ 900 := by omega
      clear hadd hdrop hS hf hs1 hs2 hs3 hs4
      go_enter Try.func5, Try.ntmps5
      go_wp2_with fail
      generalize hW : World.alloc _ _ = W
      have hn : New w W := by subst hW; (repeat (first | (with_reducible exact New.refl _) | (with_reducible assumption) | ((with_reducible refine New.setB ?_ ?_ _); focus (first | omega | (simp; omega) | (simp; done))) | (with_reducible refine New.alloc ?_ _) | (with_reducible refine New.drew ?_) | (with_reducible refine New.drewN ?_ _) | (with_reducible refine New.hat ?_ _) | ((with_reducible apply New.snart); (with_reducible assumption))))
      ((have g0 : World.cell? (W) ⟨w.heap.size, 0, none⟩ = some (.int .i64 C.cl) := (by subst hW; go_simp)); (have g1 : World.cell? (W) ⟨w.heap.size, 1, none⟩ = some (.int .i64 C.cb) := (by subst hW; go_simp)); (have g2 : World.cell? (W) ⟨w.heap.size, 2, none⟩ = some (.int .i64 C.ht) := (by subst hW; go_simp)); (have g3 : World.cell? (W) ⟨w.heap.size, 3, none⟩ = some (.int .i64 C.ri) := (by subst hW; go_simp)); (have g4 : World.cell? (W) ⟨w.heap.size, 4, none⟩ = some (.int .i64 C.ru) := (by subst hW; go_simp)); (have g5 : World.cell? (W) ⟨w.heap.size, 5, none⟩ = some (.int .i64 C.wd) := (by subst hW; go_simp)); (have g6 : World.cell? (W) ⟨w.heap.size, 6, none⟩ = some (.int .i64 C.dp) := (by subst hW; go_simp)))
      have q0 : W.cell? ⟨w.heap.size + 1, 0, none⟩ = some (.slice A0 S.ts.length S.c0) := by subst hW; go_simp
      have q1 : W.cell? ⟨w.heap.size + 1, 1, none⟩ = some (.slice S.a1 S.bs.length S.c1) := by subst hW; go_simp
      have q2 : W.cell? ⟨w.heap.size + 1, 2, none⟩ = some (.slice S.a2 S.hs.length S.c2) := by subst hW; go_simp
      ((have x0 : World.cell? (W) ⟨w.heap.size + 1 + 1, 0, none⟩ = some (.int .i64 x.i) := (by subst hW; go_simp)); (have x1 : World.cell? (W) ⟨w.heap.size + 1 + 1, 1, none⟩ = some (.int .i64 x.x0) := (by subst hW; go_simp)); (have x2 : World.cell? (W) ⟨w.heap.size + 1 + 1, 2, none⟩ = some (.int .i64 x.y0) := (by subst hW; go_simp)); (have x3 : World.cell? (W) ⟨w.heap.size + 1 + 1, 3, none⟩ = some (.int .i64 x.z0) := (by subst hW; go_simp)); (have x4 : World.cell? (W) ⟨w.heap.size + 1 + 1, 4, none⟩ = some (.int .i64 x.x1) := (by subst hW; go_simp)); (have x5 : World.cell? (W) ⟨w.heap.size + 1 + 1, 5, none⟩ = some (.int .i64 x.y1) := (by subst hW; go_simp)); (have x6 : World.cell? (W) ⟨w.heap.size + 1 + 1, 6, none⟩ = some (.int .i64 x.z1) := (by subst hW; go_simp)); (have x7 : World.cell? (W) ⟨w.heap.size + 1 + 1, 7, none⟩ = some (.int .i64 x.x2) := (by subst hW; go_simp)); (have x8 : World.cell? (W) ⟨w.heap.size + 1 + 1, 8, none⟩ = some (.int .i64 x.y2) := (by subst hW; go_simp)); (have x9 : World.cell? (W) ⟨w.heap.size + 1 + 1, 9, none⟩ = some (.int .i64 x.z2) := (by subst hW; go_simp)))
      clear hW
      refine (HG.out _ hn).mono ?_
      rintro e W1 ⟨rfl, n1⟩
      (replace hn := hn.trans n1; replace q0 := n1.keep q0; replace q1 := n1.keep q1; replace q2 := n1.keep q2; replace g0 := New.keep (n1) g0; replace g1 := New.keep (n1) g1; replace g2 := New.keep (n1) g2; replace g3 := New.keep (n1) g3; replace g4 := New.keep (n1) g4; replace g5 := New.keep (n1) g5; replace g6 := New.keep (n1) g6; replace x0 := New.keep (n1) x0; replace x1 := New.keep (n1) x1; replace x2 := New.keep (n1) x2; replace x3 := New.keep (n1) x3; replace x4 := New.keep (n1) x4; replace x5 := New.keep (n1) x5; replace x6 := New.keep (n1) x6; replace x7 := New.keep (n1) x7; replace x8 := New.keep (n1) x8; replace x9 := New.keep (n1) x9; clear n1)
      go_wp2_with fail
      refine (HA.out _ hn).mono ?_
      rintro e W2 ⟨⟨us, vs, zs, b0, b1, b2, d0, d1, d2⟩, rfl, h1, h2, h3, h4, h5, n1⟩
      simp only at h2 h3 h4
      subst h2 h3 h4
      have OK := Lib.hid h1
      (replace hn := hn.trans n1; replace q0 := n1.keep q0; replace q1 := n1.keep q1; replace q2 := n1.keep q2; replace g0 := New.keep (n1) g0; replace g1 := New.keep (n1) g1; replace g2 := New.keep (n1) g2; replace g3 := New.keep (n1) g3; replace g4 := New.keep (n1) g4; replace g5 := New.keep (n1) g5; replace g6 := New.keep (n1) g6; replace x0 := New.keep (n1) x0; replace x1 := New.keep (n1) x1; replace x2 := New.keep (n1) x2; replace x3 := New.keep (n1) x3; replace x4 := New.keep (n1) x4; replace x5 := New.keep (n1) x5; replace x6 := New.keep (n1) x6; replace x7 := New.keep (n1) x7; replace x8 := New.keep (n1) x8; replace x9 := New.keep (n1) x9; clear n1)
      have hz0 : w.heap.size < W2.heap.size := World.block_lt_of_cell? _ _ g0
      have hz1 : w.heap.size + 1 < W2.heap.size := World.block_lt_of_cell? _ _ q0
      have hz2 : w.heap.size + 1 + 1 < W2.heap.size := World.block_lt_of_cell? _ _ x0
      clear h1 h5 HA
      go_wp2_with fail
      generalize hX : World.alloc _ _ = X
      have nX : New W2 X := by subst hX; (repeat (first | (with_reducible exact New.refl _) | (with_reducible assumption) | ((with_reducible refine New.setB ?_ ?_ _); focus (first | omega | (simp; omega) | (simp; done))) | (with_reducible refine New.alloc ?_ _) | (with_reducible refine New.drew ?_) | (with_reducible refine New.drewN ?_ _) | (with_reducible refine New.hat ?_ _) | ((with_reducible apply New.snart); (with_reducible assumption))))
      have p0 : X.cell? ⟨W2.heap.size, 0, none⟩ = some (.slice b0 us.length d0) := by subst hX; go_simp
      have p1 : X.cell? ⟨W2.heap.size, 1, none⟩ = some (.slice b1 S.bs.length d1) := by subst hX; go_simp
      have p2 : X.cell? ⟨W2.heap.size, 2, none⟩ = some (.slice b2 S.hs.length d2) := by subst hX; go_simp
      replace q0 := nX.keep q0
      replace q1 := nX.keep q1
      replace q2 := nX.keep q2
      (replace x0 := New.keep (nX) x0; replace x1 := New.keep (nX) x1; replace x2 := New.keep (nX) x2; replace x3 := New.keep (nX) x3; replace x4 := New.keep (nX) x4; replace x5 := New.keep (nX) x5; replace x6 := New.keep (nX) x6; replace x7 := New.keep (nX) x7; replace x8 := New.keep (nX) x8; replace x9 := New.keep (nX) x9)
      replace hn := hn.trans nX
      replace OK := Lib.hid (OK.out.keep nX)
      clear hX nX hz0 hz1 hz2
      refine (HGET.out _ X OK.out rfl x (Or.inl rfl)).mono ?_
      rintro e X2 ⟨rfl, n1⟩
      replace p0 := n1.keep p0
      replace p1 := n1.keep p1
      replace p2 := n1.keep p2
      replace q0 := n1.keep q0
      replace q1 := n1.keep q1
      replace q2 := n1.keep q2
      (replace x0 := New.keep (n1) x0; replace x1 := New.keep (n1) x1; replace x2 := New.keep (n1) x2; replace x3 := New.keep (n1) x3; replace x4 := New.keep (n1) x4; replace x5 := New.keep (n1) x5; replace x6 := New.keep (n1) x6; replace x7 := New.keep (n1) x7; replace x8 := New.keep (n1) x8; replace x9 := New.keep (n1) x9)
      replace hn := hn.trans n1
      replace OK := Lib.hid (OK.out.keep n1)
      have hz0 : w.heap.size + 1 < X2.heap.size := World.block_lt_of_cell? _ _ q0
      have hz1 : w.heap.size + 1 + 1 < X2.heap.size := World.block_lt_of_cell? _ _ x0
      have hz2 : W2.heap.size < X2.heap.size := World.block_lt_of_cell? _ _ p0
      clear n1
      have hne := HNE.out x
      go_wp2_with fail
      go_loopg [78] S.ts.length (fun k s t => ∃ i : Nat, s = .int .i64 i ∧ i + k = S.ts.length ∧ New X2 t)
      case atStart => exact ⟨0, by simp, by omega, by (repeat (first | (with_reducible exact New.refl _) | (with_reducible assumption) | ((with_reducible refine New.setB ?_ ?_ _); focus (first | omega | (simp; omega) | (simp; done))) | (with_reducible refine New.alloc ?_ _) | (with_reducible refine New.drew ?_) | (with_reducible refine New.drewN ?_ _) | (with_reducible refine New.hat ?_ _) | ((with_reducible apply New.snart); (with_reducible assumption))))⟩
      case round =>
        obtain ⟨i, rfl, hik, hnX⟩ := hrel
        clear hne hlu
        replace p0 := hnX.keep p0
        replace p1 := hnX.keep p1
        replace p2 := hnX.keep p2
        replace q0 := hnX.keep q0
        replace q1 := hnX.keep q1
        replace q2 := hnX.keep q2
        have hnw := hn.trans hnX
        have OKw := Lib.hid (OK.out.keep hnX)
        by_cases hlt : i < S.ts.length
        · obtain ⟨rb, roff, rfl, hrA⟩ := HRS.out (by omega)
          obtain ⟨c0, c1, c2, c3, c4, c5, c6, c7, c8, c9⟩ := TriR.cells (hrA.keep hnw) i hlt
          have hne := HNE.out S.ts[i]
          have HGI := Lib.hid (fun W hok => HGET.out ⟨us, S.bs, S.hs, b0, b1, b2, d0, d1, d2⟩ W hok rfl S.ts[i] (Or.inr (List.getElem_mem hlt)))
          clear hrA
          have hz3 : W2.heap.size < wr.heap.size := World.block_lt_of_cell? _ _ p0
          go_wp2_with fail
          generalize hY : World.alloc _ _ = Y
          have nY : New wr Y := by subst hY; (repeat (first | (with_reducible exact New.refl _) | (with_reducible assumption) | ((with_reducible refine New.setB ?_ ?_ _); focus (first | omega | (simp; omega) | (simp; done))) | (with_reducible refine New.alloc ?_ _) | (with_reducible refine New.drew ?_) | (with_reducible refine New.drewN ?_ _) | (with_reducible refine New.hat ?_ _) | ((with_reducible apply New.snart); (with_reducible assumption))))
          ((have o0 : World.cell? (Y) ⟨wr.heap.size, 0, none⟩ = some (.int .i64 S.ts[i].i) := (by subst hY; go_simp)); (have o1 : World.cell? (Y) ⟨wr.heap.size, 1, none⟩ = some (.int .i64 S.ts[i].x0) := (by subst hY; go_simp)); (have o2 : World.cell? (Y) ⟨wr.heap.size, 2, none⟩ = some (.int .i64 S.ts[i].y0) := (by subst hY; go_simp)); (have o3 : World.cell? (Y) ⟨wr.heap.size, 3, none⟩ = some (.int .i64 S.ts[i].z0) := (by subst hY; go_simp)); (have o4 : World.cell? (Y) ⟨wr.heap.size, 4, none⟩ = some (.int .i64 S.ts[i].x1) := (by subst hY; go_simp)); (have o5 : World.cell? (Y) ⟨wr.heap.size, 5, none⟩ = some (.int .i64 S.ts[i].y1) := (by subst hY; go_simp)); (have o6 : World.cell? (Y) ⟨wr.heap.size, 6, none⟩ = some (.int .i64 S.ts[i].z1) := (by subst hY; go_simp)); (have o7 : World.cell? (Y) ⟨wr.heap.size, 7, none⟩ = some (.int .i64 S.ts[i].x2) := (by subst hY; go_simp)); (have o8 : World.cell? (Y) ⟨wr.heap.size, 8, none⟩ = some (.int .i64 S.ts[i].y2) := (by subst hY; go_simp)); (have o9 : World.cell? (Y) ⟨wr.heap.size, 9, none⟩ = some (.int .i64 S.ts[i].z2) := (by subst hY; go_simp)))
          clear hY
          refine (HGI.out Y (OKw.out.keep nY)).mono ?_
          rintro e Y2 ⟨rfl, n1⟩
          (replace o0 := New.keep (n1) o0; replace o1 := New.keep (n1) o1; replace o2 := New.keep (n1) o2; replace o3 := New.keep (n1) o3; replace o4 := New.keep (n1) o4; replace o5 := New.keep (n1) o5; replace o6 := New.keep (n1) o6; replace o7 := New.keep (n1) o7; replace o8 := New.keep (n1) o8; replace o9 := New.keep (n1) o9)
          replace nY := nY.trans n1
          have hz4 : wr.heap.size < Y2.heap.size := World.block_lt_of_cell? _ _ o0
          clear n1 HGI
          go_wp2_with fail
          go_roundg (gk - 1)
          case measure => omega
          case rel => exact ⟨i + 1, by go_num, by omega, by (repeat (first | (with_reducible exact New.refl _) | (with_reducible assumption) | ((with_reducible refine New.setB ?_ ?_ _); focus (first | omega | (simp; omega) | (simp; done))) | (with_reducible refine New.alloc ?_ _) | (with_reducible refine New.drew ?_) | (with_reducible refine New.drewN ?_ _) | (with_reducible refine New.hat ?_ _) | ((with_reducible apply New.snart); (with_reducible assumption))))⟩
        · have hn2 := hnw
          have y0 := q0
          have y1 := q1
          have y2 := q2
          clear p0 p1 p2 HNE HGET HOW OK
          go_wp2_with fail
          refine (HD.out _ hn2).mono ?_
          rintro e W3 ⟨⟨ts, bs, hs, b0, b1, b2, d0, d1, d2⟩, rfl, k1, k2, k3, k4, k5, n2⟩
          simp only at k2 k3 k4
          subst k2 k3 k4
          replace y0 := n2.keep y0
          replace y1 := n2.keep y1
          replace y2 := n2.keep y2
          have hn3 : New w W3 := New.trans hn2 n2
          have hz3 : w.heap.size + 1 < W3.heap.size := World.block_lt_of_cell? _ _ y0
          clear HD HG k1 k5 n2 hn2
          go_wp2_with fail
          refine (HW.out _).mono ?_
          rintro e W4 ⟨rfl, n4⟩
          have hn4 : New w W4 := New.trans (by (repeat (first | (with_reducible exact New.refl _) | (with_reducible assumption) | ((with_reducible refine New.setB ?_ ?_ _); focus (first | omega | (simp; omega) | (simp; done))) | (with_reducible refine New.alloc ?_ _) | (with_reducible refine New.drew ?_) | (with_reducible refine New.drewN ?_ _) | (with_reducible refine New.hat ?_ _) | ((with_reducible apply New.snart); (with_reducible assumption))))) n4
          go_wp2_with fail
          go_ret
          exact ⟨rfl, hn4⟩

end Go.Proofs.Ytlpdfnkfknbopaa

/- A soup that came in. -/
namespace Go.Proofs.Ytlpdfnkfknbopaa
open Go.ChangeShapes Go.WideShapes Go.RowKit Go.Deep
set_option linter.unusedVariables false

theorem tri_of (vs : List Value) (h : Fits [.num .i64, .num .i64, .num .i64, .num .i64, .num .i64, .num .i64, .num .i64, .num .i64, .num .i64, .num .i64] vs) : ∃ a : TriR, a.enc = vs := by
  obtain ⟨a0, a1, a2, a3, a4, a5, a6, a7, a8, a9, e⟩ := fits10 (cs := vs.toArray) (by simpa using h)
  exact ⟨⟨a0, a1, a2, a3, a4, a5, a6, a7, a8, a9⟩, by have := congrArg Array.toList e; simpa [TriR.enc] using this.symm⟩
theorem box_of (vs : List Value) (h : Fits [.num .i64, .num .i64, .num .i64, .num .i64, .num .i64, .num .i64, .num .i64, .num .i64] vs) : ∃ a : BoxR, a.enc = vs := by
  obtain ⟨_, _, e0, ⟨a0, rfl, _⟩, h0⟩ := h.cons
  obtain ⟨_, _, e1, ⟨a1, rfl, _⟩, h1⟩ := h0.cons
  obtain ⟨_, _, e2, ⟨a2, rfl, _⟩, h2⟩ := h1.cons
  obtain ⟨_, _, e3, ⟨a3, rfl, _⟩, h3⟩ := h2.cons
  obtain ⟨_, _, e4, ⟨a4, rfl, _⟩, h4⟩ := h3.cons
  obtain ⟨_, _, e5, ⟨a5, rfl, _⟩, h5⟩ := h4.cons
  obtain ⟨_, _, e6, ⟨a6, rfl, _⟩, h6⟩ := h5.cons
  obtain ⟨_, _, e7, ⟨a7, rfl, _⟩, h7⟩ := h6.cons
  have en := h7.nil
  subst en
  subst e7
  subst e6
  subst e5
  subst e4
  subst e3
  subst e2
  subst e1
  subst e0
  exact ⟨⟨a0, a1, a2, a3, a4, a5, a6, a7⟩, rfl⟩
theorem hop_of (vs : List Value) (h : Fits [.num .i64, .num .i64, .num .i64, .num .i64, .num .i64, .num .i64, .num .i64, .yes, .num .i64, .num .i64] vs) : ∃ a : HopR, a.enc = vs := by
  obtain ⟨_, _, e0, ⟨a0, rfl, _⟩, h0⟩ := h.cons
  obtain ⟨_, _, e1, ⟨a1, rfl, _⟩, h1⟩ := h0.cons
  obtain ⟨_, _, e2, ⟨a2, rfl, _⟩, h2⟩ := h1.cons
  obtain ⟨_, _, e3, ⟨a3, rfl, _⟩, h3⟩ := h2.cons
  obtain ⟨_, _, e4, ⟨a4, rfl, _⟩, h4⟩ := h3.cons
  obtain ⟨_, _, e5, ⟨a5, rfl, _⟩, h5⟩ := h4.cons
  obtain ⟨_, _, e6, ⟨a6, rfl, _⟩, h6⟩ := h5.cons
  obtain ⟨_, _, e7, ⟨a7, rfl⟩, h7⟩ := h6.cons
  obtain ⟨_, _, e8, ⟨a8, rfl, _⟩, h8⟩ := h7.cons
  obtain ⟨_, _, e9, ⟨a9, rfl, _⟩, h9⟩ := h8.cons
  have en := h9.nil
  subst en
  subst e9
  subst e8
  subst e7
  subst e6
  subst e5
  subst e4
  subst e3
  subst e2
  subst e1
  subst e0
  exact ⟨⟨a0, a1, a2, a3, a4, a5, a6, a7, a8, a9⟩, rfl⟩

set_option maxRecDepth 100000 in
set_option maxHeartbeats 1000000 in
theorem open_soup {H : Type} {enc : TypeId × Value → H} {w : World} {base : Nat} {spare : Nat → Bool} {held : Bool} {r : Reach} {b0 : Nat} {v : Value} {d : DataW H} {p : List MemPlace}
    (hv : Value.okWide Try.prog w r b0 28 v) (h : DataW.Trod enc Try.prog w base spare held 28 v d p) : ∃ S : SoupV, v = .agg #[.slice S.a0 S.ts.length S.c0, .slice S.a1 S.bs.length S.c1, .slice S.a2 S.hs.length S.c2] ∧ S.ok w := by
  obtain ⟨cs, rfl, _⟩ := okWide_struct Try.underlying28 hv
  obtain ⟨fuel, hf⟩ := h
  obtain ⟨xs, m', _, _, hlen, hxs, hi⟩ := DataW.trod_struct Try.underlying28 hf
  have hx3 : xs.length = 3 := hxs
  have h0 := hi 0 _ rfl
  have h1 := hi 1 _ rfl
  have h2 := hi 2 _ rfl
  rw [List.getElem?_eq_getElem (by omega)] at h0 h1 h2
  obtain ⟨v0, ts, e0, s0⟩ := open_row TriR.enc 10 TriR.enc_len (by omega) Try.underlying24 (by kernel_rfl) (by kernel_rfl) tri_of h0
  obtain ⟨v1, bs, e1, s1⟩ := open_row BoxR.enc 8 BoxR.enc_len (by omega) Try.underlying25 (by kernel_rfl) (by kernel_rfl) box_of h1
  obtain ⟨v2, hs, e2, s2⟩ := open_row HopR.enc 10 HopR.enc_len (by omega) Try.underlying26 (by kernel_rfl) (by kernel_rfl) hop_of h2
  have c0 : Try.prog.cellsOf 24 = 1 := by kernel_rfl
  have c1 : Try.prog.cellsOf 25 = 1 := by kernel_rfl
  have c2 : Try.prog.cellsOf 26 = 1 := by kernel_rfl
  have c3 : Try.prog.cellsOf 28 = 3 := by kernel_rfl
  have hl : cs.toList.length = 3 := by rw [← c3]; exact hlen
  have f0 : (cs.toList.drop 0).take 1 = [v0] := by rw [← c0]; exact e0
  have f1 : (cs.toList.drop 1).take 1 = [v1] := by rw [← c1]; exact e1
  have f2 : (cs.toList.drop 2).take 1 = [v2] := by rw [← c2]; exact e2
  obtain ⟨l⟩ := cs
  simp only at hl f0 f1 f2
  match l, hl with
  | [x, y, z], _ =>
    simp at f0 f1 f2
    subst f0 f1 f2
    obtain ⟨a0, c0, rfl, q0⟩ := id s0
    obtain ⟨a1, c1, rfl, q1⟩ := id s1
    obtain ⟨a2, c2, rfl, q2⟩ := id s2
    exact ⟨⟨ts, bs, hs, a0, a1, a2, c0, c1, c2⟩, rfl, s0, s1, s2⟩

end Go.Proofs.Ytlpdfnkfknbopaa

/-
  Proved here: whatever the input, the call of footpath/footpathlaw05.SoupOthers of the landed code returns true and leaves its arguments as they were. Conditions: none.
-/
namespace Go.Proofs.Ytlpdfnkfknbopaa.soupOthers
open Go.ChangeShapes Go.WideShapes Go.ChangeAt Go.RowKit
set_option linter.unusedVariables false

theorem own : ownKnob Try.prog.godebug = none := by kernel_rfl
theorem laidOut : laidOutB Try.prog = true := by kernel_rfl

/-! The walk: the Go text returns true, and writes nothing that was there. -/
set_option maxRecDepth 100000 in
set_option maxHeartbeats 4000000 in
theorem walk (H : Type) (enc : TypeId × Value → H) (base : Nat) (w : World) (v0 : Value) (d0 : DataW H) (p0 : List MemPlace) (v1 : Value) (d1 : DataW H) (p1 : List MemPlace) (v2 : Value) (d2 : DataW H) (p2 : List MemPlace) (v3 : Value) (d3 : DataW H) (p3 : List MemPlace) (v4 : Value) (d4 : DataW H) (p4 : List MemPlace) (k0 : Value.okWide Try.prog w .any base 23 v0) (h0 : DataW.Trod enc Try.prog w 0 (fun _ => true) true 23 v0 d0 p0) (k1 : Value.okWide Try.prog w .any base 28 v1) (h1 : DataW.Trod enc Try.prog w 0 (fun _ => true) true 28 v1 d1 p1) (k2 : Value.okWide Try.prog w .any base 33 v2) (h2 : DataW.Trod enc Try.prog w 0 (fun _ => true) true 33 v2 d2 p2) (k3 : Value.okWide Try.prog w .any base 3 v3) (h3 : DataW.Trod enc Try.prog w 0 (fun _ => true) true 3 v3 d3 p3) (k4 : Value.okWide Try.prog w .any base 3 v4) (h4 : DataW.Trod enc Try.prog w 0 (fun _ => true) true 3 v4 d4 p4) :
    Calls Try.prog 5 #[v0, v1, v2, v3, v4] w fun e w' => e = .returned (.bool true) ∧ Below w.heap.size w w' := by
  obtain ⟨cs, rfl, hc⟩ := open_flat Try.underlying23 64 (ks := [.num .i64, .num .i64, .num .i64, .num .i64, .num .i64, .num .i64, .num .i64]) (by kernel_rfl) k0 h0
  obtain ⟨cl, cb, ht, ri, ru, wd, dp, rfl⟩ := fits7 hc
  clear hc h0 k0
  obtain ⟨S, rfl, hS⟩ := open_soup k1 h1
  clear h1 k1
  obtain ⟨cs, rfl, hc⟩ := open_flat Try.underlying33 64 (ks := [.num .i64, .num .i64, .num .i64, .num .i64, .num .i64, .num .i64, .num .i64, .num .i64, .num .i64, .num .i64]) (by kernel_rfl) k2 h2
  obtain ⟨i, x0, y0, z0, x1, y1, z1, x2, y2, z2, rfl⟩ := fits10 hc
  clear hc h2 k2
  obtain ⟨id, rfl, -, -, -⟩ := open_int Try.underlying3 k3 h3
  obtain ⟨kind, rfl, -, -, -⟩ := open_int Try.underlying3 k4 h4
  exact (l_others ⟨cl, cb, ht, ri, ru, wd, dp⟩ S ⟨i, x0, y0, z0, x1, y1, z1, x2, y2, z2⟩ id kind w hS).mono fun e w' ⟨he, hn⟩ => ⟨he, hn⟩

/-! The row over the walk: the arguments are read again behind the call. -/
set_option maxRecDepth 100000 in
theorem lifted (os : Os) (started : os.Started) (H : Type) (enc : TypeId × Value → H) :
    ReturnsInHanded {} Try.checked os 5 .any (Rows.soupOthersSpec.pre6 enc Try.prog Try.f5 Rows.soupOthersRow.domain false) (Rows.soupOthersSpec.post enc Try.prog Try.f5 false true false false) := by
  refine returnsInHanded_of_change (C := Try.checked) own started (by kernel_rfl) Try.func5
    (ChangeSpec.witness6 (enc := enc) (C := Try.checked) false ⟨#[], #[.agg #[.int .i64 0, .int .i64 0, .int .i64 0, .int .i64 0, .int .i64 0, .int .i64 0, .int .i64 0], .agg #[.slice none 0 0, .slice none 0 0, .slice none 0 0], .agg #[.int .i64 0, .int .i64 0, .int .i64 0, .int .i64 0, .int .i64 0, .int .i64 0, .int .i64 0, .int .i64 0, .int .i64 0, .int .i64 0], .int .i64 0, .int .i64 0], []⟩ 8 (by kernel_rfl) (by kernel_rfl) (by kernel_rfl) (by kernel_rfl)) ?_
  intro W base args ds gs before hval0 hW hcnd _
  have hval : ∀ (j : Nat) t v, Try.f5.params[j]? = some t → args[j]? = some v → Value.okWide Try.prog W .any base t v := hval0
  have hW' := hW
  obtain ⟨p, q, hA0, hV, rfl, hfz, hnd⟩ := hW
  have hA : DataW.TrodAll enc Try.prog W 0 (fun _ => true) true Try.f5.params.toList args.toList ds p := hA0
  rw [Try.params5] at hA hval
  obtain ⟨v0, vs0, d0, ds0, p0, q0, hargs, rfl, rfl, h0, r0⟩ := trodAll_cons hA
  obtain ⟨v1, vs1, d1, ds1, p1, q1, rfl, rfl, rfl, h1, r1⟩ := trodAll_cons r0
  obtain ⟨v2, vs2, d2, ds2, p2, q2, rfl, rfl, rfl, h2, r2⟩ := trodAll_cons r1
  obtain ⟨v3, vs3, d3, ds3, p3, q3, rfl, rfl, rfl, h3, r3⟩ := trodAll_cons r2
  obtain ⟨v4, vs4, d4, ds4, p4, q4, rfl, rfl, rfl, h4, r4⟩ := trodAll_cons r3
  obtain ⟨rfl, rfl, rfl⟩ := trodAll_nil r4
  obtain rfl : args = #[v0, v1, v2, v3, v4] := by cases args; simp_all
  obtain ⟨rfl, rfl⟩ := trodVars_none hV
  have lt0 : ∀ x ∈ p0, x.block < W.heap.size := by obtain ⟨m, hm⟩ := h0; exact DataW.trod_lt m _ _ _ hm
  have lt1 : ∀ x ∈ p1, x.block < W.heap.size := by obtain ⟨m, hm⟩ := h1; exact DataW.trod_lt m _ _ _ hm
  have lt2 : ∀ x ∈ p2, x.block < W.heap.size := by obtain ⟨m, hm⟩ := h2; exact DataW.trod_lt m _ _ _ hm
  have lt3 : ∀ x ∈ p3, x.block < W.heap.size := by obtain ⟨m, hm⟩ := h3; exact DataW.trod_lt m _ _ _ hm
  have lt4 : ∀ x ∈ p4, x.block < W.heap.size := by obtain ⟨m, hm⟩ := h4; exact DataW.trod_lt m _ _ _ hm
  clear hA0
  refine (walk H enc base W v0 d0 p0 v1 d1 p1 v2 d2 p2 v3 d3 p3 v4 d4 p4 (hval 0 23 v0 rfl rfl) h0 (hval 1 28 v1 rfl rfl) h1 (hval 2 33 v2 rfl rfl) h2 (hval 3 3 v3 rfl rfl) h3 (hval 4 3 v4 rfl rfl) h4).mono fun e W' ⟨he, bel⟩ => ?_
  subst he
  exact ⟨_, rfl, _, _, _, [], _, [], hW', trodAll_mk1 (shut_bool Try.underlying4 _), (trodAll_cons_mk (Below.trod laidOut (by kernel_rfl) (of_decide_eq_true (by kernel_rfl)) h0 bel lt0) (trodAll_cons_mk (Below.trod laidOut (by kernel_rfl) (of_decide_eq_true (by kernel_rfl)) h1 bel lt1) (trodAll_cons_mk (Below.trod laidOut (by kernel_rfl) (of_decide_eq_true (by kernel_rfl)) h2 bel lt2) (trodAll_cons_mk (Below.trod laidOut (by kernel_rfl) (of_decide_eq_true (by kernel_rfl)) h3 bel lt3) (trodAll_cons_mk (Below.trod laidOut (by kernel_rfl) (of_decide_eq_true (by kernel_rfl)) h4 bel lt4) trodAll_mk0))))), rfl, bel.frame _, fun h => by cases h⟩

theorem over : Rows.soupOthersRow.holds Try.pinned (OpenSpec.ofChange Rows.soupOthersSpec) :=
  OpenClaim.holds_of_wide 5 Try.f5 rfl rfl rfl rfl rfl rfl rfl ⟨rfl, rfl, rfl, rfl, rfl⟩ rfl rfl rfl rfl rfl (by kernel_rfl) Try.func5 (by kernel_rfl)
    (of_decide_eq_true (by kernel_rfl)) (by unfold Func.isWrapper; first | (rw [if_pos (by decide +kernel)]; kernel_rfl) | (rw [if_neg (by decide +kernel)]; exact ⟨rfl, rfl⟩))
    (fun os started H enc _ => lifted os started H enc)

/-- The given statement. -/
theorem proved : Rows.SoupOthersSaid := over
#print axioms proved
end Go.Proofs.Ytlpdfnkfknbopaa.soupOthers
