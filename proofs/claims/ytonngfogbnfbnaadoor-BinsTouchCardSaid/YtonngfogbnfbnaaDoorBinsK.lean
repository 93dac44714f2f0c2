/- The law's goes: what going over the tiles told, left behind so many. -/
import Derived.Test.YtonngfogbnfbnaaDoorBinsJ
import Derived.WalkSpells
namespace Go.Proofs.YtonngfogbnfbnaaDoor
open Go.RowKit Go.Shelf
set_option linter.unusedVariables false
set_option maxRecDepth 100000
attribute [local go_sem] Oper.semAt_some

theorem run_equalIn_fn_nil {P : Program} (w : World) (d : Nat) (t : TypeId) (ps rs : Array TypeId) (b : Bool) (f : Fn) (fi ca : Array Value) (h : P.underlying t = some (.func ps rs b)) :
    (Op.equalIn (d + 1) t (.func f fi ca) .nilFunc).run P w = .ok false w := by
  simp [Op.equalIn, run_underlying h]
theorem run_eql_fn_nil {P : Program} (w : World) (t : TypeId) (ps rs : Array TypeId) (b : Bool) (f : Fn) (fi ca : Array Value) (h : P.underlying t = some (.func ps rs b)) :
    (binOp .eql t (.func f fi ca) .nilFunc).run P w = .ok (.bool false) w := by
  simp only [binOp]
  simp [Op.equal, Op.maxDepth, run_equalIn_fn_nil w 9999 t ps rs b f fi ca h]
theorem seq_nil (w : World) (f : Nat) (a : Array Value) : (binOp .eql 49 (.func (.func f) #[] a) .nilFunc).run Tryd.prog w = .ok (.bool false) w :=
  run_eql_fn_nil w _ #[67] #[] false _ _ _ (by kernel_rfl)

theorem New.keepB {w w' : World} (h : New w w') {b : Nat} {t : TypeId} {v : Value} (hb : Boxed w b t v) : Boxed w' b t v := (h.block b hb.lt).trans hb

theorem goes_end {w W : World} {T : Array Value} {D : Nat} (ht : T.getD 14 undef = .bool true) (hK : W.heap[D]? = some (.deferred (some []))) (hD : w.heap.size ≤ D) (hn : New w W) :
    bodyPostM Fence.wide 5 Tryd.prog Tryd.f10 (fun e w' => e = .returned (.bool true) ∧ New w w') .ret { tmps := T, defers := [{ target := .collected D, args := #[] }] } W := by
  refine ⟨by simp, .inl ⟨_, _, rfl, run_takeDeferred hK, ?_⟩⟩
  refine ⟨.bool true, ?_, rfl, Go.RowKit.Below.trans hn (belowK_b (w := w) (Nat.le_refl _) W D _ _ hD hK rfl rfl)⟩
  have ht' : T[14]?.getD undef = .bool true := by simpa using ht
  simp [results, Tryd.results10, go_sem, ht']

set_option maxHeartbeats 8000000 in
theorem goes_any (cl cb ht ri ru wd dp x0 z0 x1 z1 leave : Int) (vw : Value) (w : World) (hl : Nowhere w) (hw : Sl iE 1 w vw (tilesL cl cb ht ri ru wd dp x0 z0 x1 z1)) :
    Calls Tryd.prog 10 #[.agg #[.int .i64 cl, .int .i64 cb, .int .i64 ht, .int .i64 ri, .int .i64 ru, .int .i64 wd, .int .i64 dp], .int .i64 x0, .int .i64 z0, .int .i64 x1, .int .i64 z1, vw, .int .i64 leave] w fun e w' => e = .returned (.bool true) ∧ New w w' := by
  obtain ⟨i0, hi, hz0, hz1, hz2⟩ := info_parts int_info
  have FN := fun w a => seq_nil w 36 a
  have EE := Lib.hid (fun W => bEach_any cl cb ht ri ru wd dp x0 z0 x1 z1 W)
  have hlen := tilesL_len cl cb ht ri ru wd dp x0 z0 x1 z1
  have HL := Lib.hid hl
  have HW := Lib.hid hw
  obtain ⟨at0, cap, rfl, p1, p2, -⟩ := sl_at hw
  clear hl hw
  refine (callsIn_wide (n := 5)).1 ?_
  refine callsIn_of_wp_marks Tryd.func10 rfl trivial ?_ rfl
  simp only [Tryd.ntmps10, List.size_toArray, List.length_cons, List.length_nil, Nat.reduceAdd, Nat.reduceSub, Array.replicate_succ, Array.replicate_zero, List.push_toArray, List.append_toArray, List.nil_append, List.cons_append]
  refine wpIn_wide.2 ?_
  go_wp2_with fail
  refine Calls.at (fun W hW => ?_)
  have hn : New w W := by subst hW; (repeat (first | (with_reducible exact New.refl _) | (with_reducible assumption) | ((with_reducible refine New.setB ?_ ?_ _); focus (first | omega | (simp; omega) | (simp; done))) | (with_reducible refine New.alloc ?_ _) | (with_reducible refine New.drew ?_) | (with_reducible refine New.drewN ?_ _) | (with_reducible refine New.hat ?_ _) | ((with_reducible apply New.snart); (with_reducible assumption))))
  have bw : W.cell? ⟨w.heap.size + 1, 0, none⟩ = some (.slice at0 (tilesL cl cb ht ri ru wd dp x0 z0 x1 z1).length cap) := by subst hW; go_simp
  have bv : W.cell? ⟨w.heap.size + 1 + 1, 0, none⟩ = some (.int .i64 leave) := by subst hW; go_simp
  clear hW
  refine (EE.out _).mono ?_
  rintro e w1 ⟨Bc, rfl, hE, hb1, hb2, n1⟩
  replace bw := n1.keep bw
  replace bv := n1.keep bv
  have hn1 := hn.trans n1
  clear EE hn n1 hb1
  unfold seqV
  go_wp2_with fail
  clear FN
  obtain ⟨W0, hW0⟩ : ∃ W0, W0 = w1.alloc (.cells #[.slice none 0 0] 24) := ⟨_, rfl⟩
  have hs0 : W0.heap.size = w1.heap.size + 1 := by subst hW0; simp
  have bO : Boxed W0 w1.heap.size 24 (.slice none 0 0) := by subst hW0; exact Boxed.new w1 _ _
  have n0 : Below w1.heap.size w1 W0 := by subst hW0; exact (Below.refl _ w1).alloc (Nat.le_refl _) _
  rw [← hW0]
  clear hW0
  refine (wpIn_wide (n := 5)).1 ?_
  generalize hLL : tilesL cl cb ht ri ru wd dp x0 z0 x1 z1 = L at *
  have hIo : OwnFrom W0.heap.size (fun (pre : List Int) W => (∃ v, Boxed W w1.heap.size 24 v ∧ W.ownsRow w1.heap.size 3 1 v pre.length (pre.flatMap iE) ∧ True) ∧ Below w1.heap.size w1 W) :=
    OwnFrom.and (Own.from (holdsRow_own w1.heap.size w1.heap.size 24 3 1 (fun (pre : List Int) => pre.length) (fun (pre : List Int) => pre.flatMap iE) (fun _ _ => True)) _) (ownFrom_below (Nat.le_refl _) (by omega))
  have hst := b_stops cl cb ht ri ru wd dp x0 z0 x1 z1 4 (by omega) Bc w1.heap.size W0 (hE.new n0) ((HL.out.new hn1).new n0) hb2 (by omega)
  rw [hLL] at hst
  refine wpIn_rangeFunc_ownH rfl (by omega) (gf := 36) (lb := #[.pointer (some ⟨Bc, 0, none⟩), .pointer (some ⟨Bc + 1, 0, none⟩), .pointer (some ⟨Bc + 1 + 1, 0, none⟩), .pointer (some ⟨Bc + 1 + 1 + 1, 0, none⟩), .pointer (some ⟨Bc + 1 + 1 + 1 + 1, 0, none⟩)]) rfl trivial (enters_of Tryd.func36 (by kernel_rfl) rfl)
    hst
    (fun h k => fun b hb => (k b hb).trans (h b hb)) (fun W l o o' hl _ _ _ => fun b hb => World.putObj_heap_other (by omega)) (Below.refl _ _) (fun _ => rfl)
    (fun pre W => (∃ v, Boxed W w1.heap.size 24 v ∧ W.ownsRow w1.heap.size 3 1 v pre.length (pre.flatMap iE) ∧ True) ∧ Below w1.heap.size w1 W)
    (fun c pre W => (c = .exit 0 ∧ 0 < pre.length ∧ ((pre.length : Int) = leave ∨ L.length < pre.length)) ∧ ((∃ v, Boxed W w1.heap.size 24 v ∧ W.ownsRow w1.heap.size 3 1 v pre.length (pre.flatMap iE) ∧ True) ∧ Below w1.heap.size w1 W))
    hIo
    (fun c s W W' row hs hg hr => ⟨hs.1, hIo s W W' row hs.2 hg hr⟩)
    ⟨⟨_, bO, World.ownsRow_nil _ _ _ _, trivial⟩, n0⟩
    (fun t a' _ => a' = { tmps := #[.agg #[.int .i64 cl, .int .i64 cb, .int .i64 ht, .int .i64 ri, .int .i64 ru, .int .i64 wd, .int .i64 dp], .int .i64 x0, .int .i64 z0, .int .i64 x1, .int .i64 z1, .slice at0 L.length cap, .int .i64 leave, .pointer (some ⟨w.heap.size, 0, none⟩), undef, undef, undef, undef, .pointer (some ⟨w.heap.size + 1, 0, none⟩), .pointer (some ⟨w.heap.size + 1 + 1, 0, none⟩), .bool false, .func (.func 36) #[] #[.pointer (some ⟨Bc, 0, none⟩), .pointer (some ⟨Bc + 1, 0, none⟩), .pointer (some ⟨Bc + 1 + 1, 0, none⟩), .pointer (some ⟨Bc + 1 + 1 + 1, 0, none⟩), .pointer (some ⟨Bc + 1 + 1 + 1 + 1, 0, none⟩)], .pointer (some ⟨w1.heap.size, 0, none⟩), .int .i64 t, .agg #[.int .i64 cl, .int .i64 cb, .int .i64 ht, .int .i64 ri, .int .i64 ru, .int .i64 wd, .int .i64 dp], .int .i64 x0, .int .i64 z0, .int .i64 x1, .int .i64 z1, .func (.func 36) #[] #[.pointer (some ⟨Bc, 0, none⟩), .pointer (some ⟨Bc + 1, 0, none⟩), .pointer (some ⟨Bc + 1 + 1, 0, none⟩), .pointer (some ⟨Bc + 1 + 1 + 1, 0, none⟩), .pointer (some ⟨Bc + 1 + 1 + 1 + 1, 0, none⟩)], .func (.func 36) #[] #[.pointer (some ⟨Bc, 0, none⟩), .pointer (some ⟨Bc + 1, 0, none⟩), .pointer (some ⟨Bc + 1 + 1, 0, none⟩), .pointer (some ⟨Bc + 1 + 1 + 1, 0, none⟩), .pointer (some ⟨Bc + 1 + 1 + 1 + 1, 0, none⟩)], .bool false, .func (.func 36) #[] #[.pointer (some ⟨Bc, 0, none⟩), .pointer (some ⟨Bc + 1, 0, none⟩), .pointer (some ⟨Bc + 1 + 1, 0, none⟩), .pointer (some ⟨Bc + 1 + 1 + 1, 0, none⟩), .pointer (some ⟨Bc + 1 + 1 + 1 + 1, 0, none⟩)], .int .i64 t, undef, undef, undef, undef, undef, undef, undef, undef, undef, undef, undef, undef, undef, undef, undef, undef, undef, undef, undef, undef, undef, undef, undef, undef, undef, undef, undef, undef, undef, undef, undef, undef, undef, undef, undef], defers := [] })
    (fun _ _ _ _ _ _ hs _ _ => hs) ?assign ?body ?done ?stop
  case assign =>
    intro l pre t W K hi' hK
    simp only [List.zip_toArray, List.zip_cons_cons, List.zip_nil_right, List.foldl_toArray', List.foldl_cons, List.foldl_nil, List.setIfInBounds_toArray, List.set_cons_succ, List.set_cons_zero, List.size_toArray, List.length_cons, List.length_nil]
    gi_wp2
    exact hK _ _ ((KeepsOthers.refl _).from _) (fun _ _ => rfl) hi' rfl
  case body =>
    rintro l pre t a' W hl' ⟨r, hr⟩ ⟨⟨v, hv, hrow, _⟩, hB⟩ rfl hlt
    have hc := hv.cell
    have hBs := hB.size
    have hlw : w.heap.size + 1 + 1 < w1.heap.size := World.block_lt_of_cell? _ _ bv
    by_cases hq : (pre.length : Int) + 1 = leave
    · have q1 : ((pre.length : Int) + 1 == leave) = true := by simpa using hq
      have HQ := Lib.hid hq
      clear hq
      gi_wp2_with (gi_at_builtin; refine wpListIn_append_own _ rfl _ _ 24 rfl w1.heap.size 3 i0 (.int .i64 0) 1 8 Tryd.underlying24 hi hz0 hz1 hz2 rfl (by decide) _ _ _ rfl (hrow.alloc _) ⟨W.heap.size, 0, none⟩ 1 1 (iE t) rfl rfl (cells_int _ _ _) (by intro u hu; simp at hu; subst hu; rfl) (by unfold maxLen; omega) (by omega) (by simp; omega) ?_; intro v' w2 hown' hgrow _; obtain ⟨g', cap', rfl⟩ := ownsRow_succ hown'; obtain ⟨hv1, hv2, hr2, hk2, hbb⟩ := hv.appended (by decide) hrow hB.size (Nat.le_refl _) hown' hgrow; have hc1 := hv1.cell; have hf1 := hv1.frozen; have hc2 := hv2.cell; have bv2 := New.keep (Go.RowKit.Below.trans hB hbb) bv; have bw2 := New.keep (Go.RowKit.Below.trans hB hbb) bw)
      have row : (w2.setCell ⟨w1.heap.size, 0, none⟩ (.slice (some ⟨g', 0, none⟩) (pre.length + 1) cap')).ownsRow w1.heap.size 3 1 (.slice (some ⟨g', 0, none⟩) (pre.length + 1) cap') (pre ++ [t]).length ((pre ++ [t]).flatMap iE) := by rw [List.flatMap_append, List.length_append]; simpa using hr2
      first | (exact ⟨hk2.from _, ⟨rfl, by simp, Or.inl (by simpa using HQ.out)⟩, ⟨⟨_, hv2, row, trivial⟩, hB.trans hbb⟩⟩) | (exact ⟨hk2.from _, ⟨rfl, by simp, Or.inl (by simpa using HQ.out)⟩, ⟨⟨_, hv2, row⟩, hB.trans hbb⟩⟩)
    · have q1 : ((pre.length : Int) + 1 == leave) = false := by simpa using hq
      by_cases hq2 : (L.length : Int) < (pre.length : Int) + 1
      · have q2 : decide ((L.length : Int) < (pre.length : Int) + 1) = true := decide_eq_true hq2
        gi_wp2_with (gi_at_builtin; refine wpListIn_append_own _ rfl _ _ 24 rfl w1.heap.size 3 i0 (.int .i64 0) 1 8 Tryd.underlying24 hi hz0 hz1 hz2 rfl (by decide) _ _ _ rfl (hrow.alloc _) ⟨W.heap.size, 0, none⟩ 1 1 (iE t) rfl rfl (cells_int _ _ _) (by intro u hu; simp at hu; subst hu; rfl) (by unfold maxLen; omega) (by omega) (by simp; omega) ?_; intro v' w2 hown' hgrow _; obtain ⟨g', cap', rfl⟩ := ownsRow_succ hown'; obtain ⟨hv1, hv2, hr2, hk2, hbb⟩ := hv.appended (by decide) hrow hB.size (Nat.le_refl _) hown' hgrow; have hc1 := hv1.cell; have hf1 := hv1.frozen; have hc2 := hv2.cell; have bv2 := New.keep (Go.RowKit.Below.trans hB hbb) bv; have bw2 := New.keep (Go.RowKit.Below.trans hB hbb) bw)
        have row : (w2.setCell ⟨w1.heap.size, 0, none⟩ (.slice (some ⟨g', 0, none⟩) (pre.length + 1) cap')).ownsRow w1.heap.size 3 1 (.slice (some ⟨g', 0, none⟩) (pre.length + 1) cap') (pre ++ [t]).length ((pre ++ [t]).flatMap iE) := by rw [List.flatMap_append, List.length_append]; simpa using hr2
        first | (exact ⟨hk2.from _, ⟨rfl, by simp, Or.inr (by simp; omega)⟩, ⟨⟨_, hv2, row, trivial⟩, hB.trans hbb⟩⟩) | (exact ⟨hk2.from _, ⟨rfl, by simp, Or.inr (by simp; omega)⟩, ⟨⟨_, hv2, row⟩, hB.trans hbb⟩⟩)
      · have q2 : decide ((L.length : Int) < (pre.length : Int) + 1) = false := decide_eq_false hq2
        gi_wp2_with (gi_at_builtin; refine wpListIn_append_own _ rfl _ _ 24 rfl w1.heap.size 3 i0 (.int .i64 0) 1 8 Tryd.underlying24 hi hz0 hz1 hz2 rfl (by decide) _ _ _ rfl (hrow.alloc _) ⟨W.heap.size, 0, none⟩ 1 1 (iE t) rfl rfl (cells_int _ _ _) (by intro u hu; simp at hu; subst hu; rfl) (by unfold maxLen; omega) (by omega) (by simp; omega) ?_; intro v' w2 hown' hgrow _; obtain ⟨g', cap', rfl⟩ := ownsRow_succ hown'; obtain ⟨hv1, hv2, hr2, hk2, hbb⟩ := hv.appended (by decide) hrow hB.size (Nat.le_refl _) hown' hgrow; have hc1 := hv1.cell; have hf1 := hv1.frozen; have hc2 := hv2.cell; have bv2 := New.keep (Go.RowKit.Below.trans hB hbb) bv; have bw2 := New.keep (Go.RowKit.Below.trans hB hbb) bw)
        have row : (w2.setCell ⟨w1.heap.size, 0, none⟩ (.slice (some ⟨g', 0, none⟩) (pre.length + 1) cap')).ownsRow w1.heap.size 3 1 (.slice (some ⟨g', 0, none⟩) (pre.length + 1) cap') (pre ++ [t]).length ((pre ++ [t]).flatMap iE) := by rw [List.flatMap_append, List.length_append]; simpa using hr2
        first | (exact ⟨hk2.from _, fun b hb => hbb.block b hb, ⟨⟨_, hv2, row, trivial⟩, hB.trans hbb⟩⟩) | (exact ⟨hk2.from _, fun b hb => hbb.block b hb, ⟨⟨_, hv2, row⟩, hB.trans hbb⟩⟩)
  case done =>
    rintro D ys W hD rfl ⟨⟨v, hv, hrow, _⟩, hB⟩ hK
    have hc := hv.cell
    have bw2 := New.keep hB bw
    have bv2 := New.keep hB bv
    have I1 := Lib.hid (fun x : Hat W => ints_any v _ _ _ x.w ((own_sl iE_len hrow).keep x.h) ((HW.out.keep (hn1.trans hB)).keep x.h))
    rw [decide_eq_true rfl] at I1
    clear hc
    have hc := hv.cell
    have hBs : W0.heap.size ≤ D := hD
    go_wp2_with fail
    (refine wp_region_hat (by kernel_rfl) (by kernel_rfl) ?_; intro hatc hatf; (repeat (go_big_quiet_step ((go_at_call 18; exact Calls.hat (I1.out _))))); refine wpQuiet_nil ?_; rintro _ ⟨x, rfl⟩)
    go_wp2_with fail
    have hKx := (Go.RowKit.Below.block x.h D (Array.getElem?_eq_some_iff.1 hK).1).trans hK
    have hsz := hn1.size
    exact goes_end rfl hKx (by omega) (hn1.trans (New.trans hB x.h))
  case stop =>
    rintro D c pre W hD hpre ⟨⟨rfl, hp0, hst⟩, ⟨v, hv, hrow, _⟩, hB⟩ hK
    have hle := hpre.length_le
    obtain rfl : leave = (pre.length : Int) := by omega
    have hc := hv.cell
    have bw2 := New.keep hB bw
    have bv2 := New.keep hB bv
    have I1 := Lib.hid (fun x : Hat W => ints_any v _ _ _ x.w ((own_sl iE_len hrow).keep x.h) ((HW.out.keep (hn1.trans hB)).keep x.h))
    by_cases hpl : pre = L
    · rw [decide_eq_true hpl] at I1
      refine wpIn_wide.2 ?_
      go_wp2_with fail
      (refine wp_region_hat (by kernel_rfl) (by kernel_rfl) ?_; intro hatc hatf; (repeat (go_big_quiet_step ((go_at_call 18; exact Calls.hat (I1.out _))))); refine wpQuiet_nil ?_; rintro _ ⟨x, rfl⟩)
      go_wp2_with fail
      have hKx := (Go.RowKit.Below.block x.h D (Array.getElem?_eq_some_iff.1 hK).1).trans hK
      have hsz := hn1.size
      exact goes_end rfl hKx (by omega) (hn1.trans (New.trans hB x.h))
    · rw [decide_eq_false hpl] at I1
      have htk : pre = L.take pre.length := List.prefix_iff_eq_take.1 hpre
      have S2 : Sl iE 1 W (.slice at0 pre.length cap) (L.take pre.length) := by
        obtain ⟨b0, c0, e, s1, s2, s3, s4⟩ := HW.out.keep (hn1.trans hB)
        injection e with e1 e2 e3
        subst e1 e3
        exact ⟨at0, cap, by rw [← htk], by rw [← htk]; omega, s2, s3, s4.take _⟩
      have I2 := Lib.hid (fun x : Hat W => ints_any v _ _ _ x.w ((own_sl iE_len hrow).keep x.h) (S2.keep x.h))
      rw [decide_eq_true htk] at I2
      have q1 : decide ((0 : Int) < (pre.length : Int)) = true := decide_eq_true (by omega)
      have q2 : decide ((pre.length : Int) ≤ (L.length : Int)) = true := decide_eq_true (by omega)
      clear htk S2
      refine wpIn_wide.2 ?_
      go_wp2_with fail
      refine wp_region_hat (by kernel_rfl) (by kernel_rfl) ?_
      intro hatc hatf
      (repeat (go_big_quiet_step ((go_at_call 18; first | exact Calls.hat (I1.out _) | exact Calls.hat (I2.out _)))))
      refine wpQuiet_nil ?_
      rintro _ ⟨x, rfl⟩
      go_wp2_with fail
      have hKx := (Go.RowKit.Below.block x.h D (Array.getElem?_eq_some_iff.1 hK).1).trans hK
      have hsz := hn1.size
      exact goes_end rfl hKx (by omega) (hn1.trans (New.trans hB x.h))

end Go.Proofs.YtonngfogbnfbnaaDoor
