import Derived.Test.YtccikeagbillgaaGreatRaC0Z3
import Derived.Test.YtccikeagbillgaaGreatTriDZ3
import Derived.Test.YtccikeagbillgaaGreatWholeIZ3
import Derived.Deep.LoopGhost
import Derived.Test.YtccikeagbillgaaGreatRaKZ3

/- Package raster: the checks ahead. -/
namespace Go.Proofs.YtccikeagbillgaaGreat
open Go.RowKit Go.Sort
set_option linter.unusedVariables false

set_option maxHeartbeats 1000000 in
theorem c_check_bad (C : CfgR) (v : Value) (hE : C.err ≠ 0) (w : World) :
    Calls Tryz.prog 20 #[.agg #[.int .i64 C.cl, .int .i64 C.cb, .int .i64 C.ht, .int .i64 C.ri, .int .i64 C.ru, .int .i64 C.wd, .int .i64 C.dp], v] w fun e w' => e = .returned (.int .i64 C.err) ∧ New w w' := by
  have K := Lib.hid (fun W => check_any C.cl C.cb C.ht C.ri C.ru C.wd C.dp W)
  have e : C.err = 20 := (err_two C).resolve_left hE
  have e' : checkE C.cl C.cb C.ht C.ri C.ru C.wd C.dp = 20 := e
  rw [e] at hE ⊢
  rw [e'] at K
  clear e e' hE
  go_enter Tryz.func20, Tryz.ntmps20
  go_wp2_with fail
  refine (K.out _).mono ?_
  rintro e w1 ⟨rfl, n1⟩
  have hn : New w w1 := New.trans (by (repeat (first | (with_reducible exact New.refl _) | (with_reducible assumption) | ((with_reducible refine New.setB ?_ ?_ _); focus (first | omega | (simp; omega) | (simp; done))) | (with_reducible refine New.alloc ?_ _) | (with_reducible refine New.drew ?_) | (with_reducible refine New.drewN ?_ _) | (with_reducible refine New.hat ?_ _) | ((with_reducible apply New.snart); (with_reducible assumption))))) n1.1
  clear n1
  go_wp2_with fail
  go_ret
  exact ⟨rfl, hn⟩

set_option maxHeartbeats 1000000 in
theorem c_check_long (C : CfgR) (hE : C.err = 0) (at0 : Option Addr) (n cap : Nat) (hn : 200 < n) (hc : n ≤ maxLen) (w : World) :
    Calls Tryz.prog 20 #[.agg #[.int .i64 C.cl, .int .i64 C.cb, .int .i64 C.ht, .int .i64 C.ri, .int .i64 C.ru, .int .i64 C.wd, .int .i64 C.dp], .slice at0 n cap] w fun e w' => e = .returned (.int .i64 2) ∧ New w w' := by
  have K := Lib.hid (fun W => check_any C.cl C.cb C.ht C.ri C.ru C.wd C.dp W)
  have e' : checkE C.cl C.cb C.ht C.ri C.ru C.wd C.dp = 0 := hE
  rw [e'] at K
  clear e' hE
  go_enter Tryz.func20, Tryz.ntmps20
  go_wp2_with fail
  refine (K.out _).mono ?_
  rintro e w1 ⟨rfl, n1⟩
  have hn : New w w1 := New.trans (by (repeat (first | (with_reducible exact New.refl _) | (with_reducible assumption) | ((with_reducible refine New.setB ?_ ?_ _); focus (first | omega | (simp; omega) | (simp; done))) | (with_reducible refine New.alloc ?_ _) | (with_reducible refine New.drew ?_) | (with_reducible refine New.drewN ?_ _) | (with_reducible refine New.hat ?_ _) | ((with_reducible apply New.snart); (with_reducible assumption))))) n1.1
  clear n1
  have hd : ((n : Int) > 200) := by omega
  go_wp2_with fail
  go_ret
  exact ⟨rfl, hn⟩

set_option maxHeartbeats 2000000 in
set_option maxRecDepth 100000 in
theorem c_check_fine (C : CfgR) (hC : C.fine) (at0 : Option Addr) (l : List TriR) (cap : Nat) (hl : l.length ≤ 200) (w : World) (H : RowIn TriR.enc 10 w at0 l) :
    Calls Tryz.prog 20 #[.agg #[.int .i64 C.cl, .int .i64 C.cb, .int .i64 C.ht, .int .i64 C.ri, .int .i64 C.ru, .int .i64 C.wd, .int .i64 C.dp], .slice at0 l.length cap] w fun e w' => e = .returned (.int .i64 (if l.all (mayTB C.wd C.dp) then 0 else 2)) ∧ New w w' := by
  have K := Lib.hid (fun W => check_any C.cl C.cb C.ht C.ri C.ru C.wd C.dp W)
  have e' : checkE C.cl C.cb C.ht C.ri C.ru C.wd C.dp = 0 := hC.err
  rw [e'] at K
  have KT := Lib.hid (fun (T : TriR) W => t_check C.cl C.cb C.ht C.ri C.ru C.wd C.dp 1 T.x0 T.y0 T.z0 T.x1 T.y1 T.z1 T.x2 T.y2 T.z2 W)
  have MC := Lib.hid (fun T => mayT_check hC T)
  clear e'
  obtain ⟨v, hv⟩ : ∃ v : Int, v = if l.all (mayTB C.wd C.dp) then 0 else 2 := ⟨_, rfl⟩
  rw [← hv]
  have HV := Lib.hid hv
  have HH := Lib.hid H
  clear hv H
  go_enter Tryz.func20, Tryz.ntmps20
  go_wp2_with fail
  generalize hW : World.alloc _ _ = W
  have hn : New w W := by subst hW; (repeat (first | (with_reducible exact New.refl _) | (with_reducible assumption) | ((with_reducible refine New.setB ?_ ?_ _); focus (first | omega | (simp; omega) | (simp; done))) | (with_reducible refine New.alloc ?_ _) | (with_reducible refine New.drew ?_) | (with_reducible refine New.drewN ?_ _) | (with_reducible refine New.hat ?_ _) | ((with_reducible apply New.snart); (with_reducible assumption))))
  have hB : W.heap[w.heap.size]? = some (.cells (cfgA C) 23 (0, 0)) := by subst hW; exact World.alloc_heap_new w _
  clear hW
  refine (K.out _).mono ?_
  rintro e w1 ⟨rfl, n1⟩
  replace hn : New w w1 := New.trans hn n1.1
  replace hB := New.blk n1.1 hB
  clear n1
  have hd : ¬ ((l.length : Int) > 200) := by omega
  go_wp2_with fail
  clear hd
  have HN := Lib.hid (And.intro hn hB)
  clear hn hB
  go_loopg [18] l.length (fun k s wr => ∃ i : Nat, s = .int .i64 i ∧ i + k = l.length ∧ Hid (∀ j (hj : j < l.length), j < i → mayTB C.wd C.dp l[j] = true) ∧ Hid (New w wr ∧ wr.heap[w.heap.size]? = some (.cells (cfgA C) 23 (0, 0))))
  case atStart => exact ⟨0, by simp, by omega, Lib.hid (fun _ _ h => absurd h (by omega)), HN⟩
  case round =>
    obtain ⟨i, rfl, hik, HNO, HN⟩ := hrel
    by_cases hlt : i < l.length
    · obtain ⟨b0, off, rfl, hA⟩ := HH.out (by omega)
      have hA' := hA.keep HN.out.1
      obtain ⟨d0, d1, d2, d3, d4, d5, d6, d7, d8, d9⟩ := TriR.cells hA' i hlt
      obtain ⟨c0, c1, c2, c3, c4, c5, c6⟩ := cfg_cs HN.out.2
      have hz0 : w.heap.size < wr.heap.size := World.block_lt_of_cell? _ _ c0
      have KC := fun W => KT.out l[i] W
      rw [MC.out l[i]] at KC
      clear hA hA'
      cases he : mayTB C.wd C.dp l[i]
      · rw [he] at KC
        simp only [Bool.false_eq_true, if_false] at KC
        replace KC := Lib.hid KC
        have HE : Hid (v = 2) := Lib.hid (by
          rw [HV.out, if_neg]
          rw [List.all_eq_true]
          intro h
          have := h _ (List.getElem_mem hlt)
          rw [he] at this
          cases this)
        clear he
        go_wp2_with fail
        generalize hW : World.alloc _ _ = W2
        have n2 : New wr W2 := by subst hW; (repeat (first | (with_reducible exact New.refl _) | (with_reducible assumption) | ((with_reducible refine New.setB ?_ ?_ _); focus (first | omega | (simp; omega) | (simp; done))) | (with_reducible refine New.alloc ?_ _) | (with_reducible refine New.drew ?_) | (with_reducible refine New.drewN ?_ _) | (with_reducible refine New.hat ?_ _) | ((with_reducible apply New.snart); (with_reducible assumption))))
        clear hW
        refine (KC.out _).mono ?_
        rintro e w3 ⟨rfl, n3⟩
        have n4 := (HN.out.1.trans n2).trans n3
        clear n2 n3
        go_wp2_with fail
        go_ret
        rw [HE.out]
        exact ⟨rfl, n4⟩
      · rw [he] at KC
        simp only [if_true] at KC
        replace KC := Lib.hid KC
        have HE := Lib.hid he
        clear he
        go_wp2_with fail
        generalize hW : World.alloc _ _ = W2
        have n2 : New wr W2 := by subst hW; (repeat (first | (with_reducible exact New.refl _) | (with_reducible assumption) | ((with_reducible refine New.setB ?_ ?_ _); focus (first | omega | (simp; omega) | (simp; done))) | (with_reducible refine New.alloc ?_ _) | (with_reducible refine New.drew ?_) | (with_reducible refine New.drewN ?_ _) | (with_reducible refine New.hat ?_ _) | ((with_reducible apply New.snart); (with_reducible assumption))))
        clear hW
        refine (KC.out _).mono ?_
        rintro e w3 ⟨rfl, n3⟩
        have n4 := n2.trans n3
        clear n2 n3
        go_wp2_with fail
        go_roundg (gk - 1)
        case measure => omega
        case rel =>
          refine ⟨i + 1, by go_num, by omega, Lib.hid (fun j hj hji => ?_), Lib.hid ⟨HN.out.1.trans n4, n4.blk HN.out.2⟩⟩
          by_cases h : j < i
          · exact HNO.out j hj h
          · obtain rfl : j = i := by omega
            exact HE.out
    · have HE : Hid (v = 0) := Lib.hid (by
        rw [HV.out, if_pos]
        rw [List.all_eq_true]
        intro x hx
        obtain ⟨j, hj, rfl⟩ := List.getElem_of_mem hx
        exact HNO.out j hj (by omega))
      go_wp2_with fail
      go_ret
      rw [HE.out]
      exact ⟨rfl, HN.out.1⟩

theorem c_check (C : CfgR) (at0 : Option Addr) (l : List TriR) (cap : Nat) (hl : l.length ≤ maxLen) (w : World) (H : RowIn TriR.enc 10 w at0 l) :
    Calls Tryz.prog 20 #[.agg #[.int .i64 C.cl, .int .i64 C.cb, .int .i64 C.ht, .int .i64 C.ri, .int .i64 C.ru, .int .i64 C.wd, .int .i64 C.dp], .slice at0 l.length cap] w fun e w' => e = .returned (.int .i64 (rchk C l)) ∧ New w w' := by
  by_cases hE : C.err = 0
  · by_cases hn : 200 < l.length
    · have e : rchk C l = 2 := by
        unfold rchk mayL
        rw [if_neg (by simpa using hE), decide_eq_false (by omega)]; rfl
      rw [e]
      exact c_check_long C hE at0 l.length cap hn hl w
    · have e : rchk C l = if l.all (mayTB C.wd C.dp) then 0 else 2 := by
        unfold rchk mayL
        rw [if_neg (by simpa using hE), decide_eq_true (by omega : l.length ≤ 200), Bool.true_and]
      rw [e]
      exact c_check_fine C (CfgR.fine_of hE) at0 l cap (by omega) w H
  · have e : rchk C l = C.err := by unfold rchk; rw [if_pos hE]
    rw [e]
    exact c_check_bad C _ hE w

end Go.Proofs.YtccikeagbillgaaGreat

/- Package raster: is a triangle over a box of columns? -/
namespace Go.Proofs.YtccikeagbillgaaGreat
open Go.RowKit Go.Shelf Go.Sort
set_option linter.unusedVariables false
attribute [local go_sem] Oper.semAt_some

theorem over_end {w W : World} {T : Array Value} {D rb : Nat} (v : Bool) (ht : T.getD 6 undef = .pointer (some ⟨rb, 0, none⟩)) (hb : Boxed W rb 4 (.bool v)) (hK : W.heap[D]? = some (.deferred (some []))) (hD : w.heap.size ≤ D) (hn : New w W) (R : Ending → World → Prop) (hR : ∀ w', New w w' → R (.returned (.bool v)) w') :
    bodyPostM Fence.wide 5 Tryz.prog Tryz.f28 R .ret { tmps := T, defers := [{ target := .collected D, args := #[] }] } W := by
  have hne : rb ≠ D := fun e => by
    subst e
    have h2 := (show W.heap[rb]? = _ from hb).symm.trans hK
    cases h2
  have hb2 : ∀ o, Boxed (W.putObj D o) rb 4 (.bool v) := fun o => (World.putObj_heap_other hne).trans hb
  have hc := fun o => (hb2 o).cell
  refine ⟨by simp, .inl ⟨_, _, rfl, run_takeDeferred hK, ?_⟩⟩
  refine ⟨.bool v, ?_, hR _ (Go.RowKit.Below.trans hn (belowK_b (w := w) (Nat.le_refl _) W D _ _ hD hK rfl rfl))⟩
  have ht' : T[6]?.getD undef = .pointer (some ⟨rb, 0, none⟩) := by simpa using ht
  simp [results, Tryz.results28, go_sem, ht', hc]

set_option maxHeartbeats 1000000 in
set_option maxRecDepth 100000 in
theorem o_over (C : CfgR) (hC : C.fine) (T : TriR) (hT : okT T = true) (b : Bx) (hb : b.ok) (w : World) :
    CallsIn Fence.wide 5 Tryz.prog 28 #[.agg #[.int .i64 C.cl, .int .i64 C.cb, .int .i64 C.ht, .int .i64 C.ri, .int .i64 C.ru, .int .i64 C.wd, .int .i64 C.dp], .agg #[.int .i64 T.i, .int .i64 T.x0, .int .i64 T.y0, .int .i64 T.z0, .int .i64 T.x1, .int .i64 T.y1, .int .i64 T.z1, .int .i64 T.x2, .int .i64 T.y2, .int .i64 T.z2], .agg #[.int .i64 b.x, .int .i64 b.z, .int .i64 b.w, .int .i64 b.d]] w fun e w' =>
      e = .returned (.bool (!(elAll C T b).isEmpty)) ∧ New w w' := by
  refine callsIn_of_wp_marks Tryz.func28 rfl trivial ?_ rfl
  simp only [Tryz.ntmps28, List.size_toArray, List.length_cons, List.length_nil, Nat.reduceAdd, Nat.reduceSub, Array.replicate_succ, Array.replicate_zero, List.push_toArray, List.append_toArray, List.nil_append, List.cons_append]
  gi_wp2_with (refine ⟨trivial, ?_⟩; gi_at_call 36; refine (p_pieces C T b _ _).mono ?_; rintro e W2 ⟨rfl, n2, h3, s2⟩)
  simp only [World.size_alloc] at s2 h3
  have hrb : Boxed W2 (w.heap.size + 1 + 1 + 1) 4 (.bool false) := by
    have h := World.alloc_heap_new (((w.alloc (.cells (cfgA C) 23)).alloc (.cells (triA T) 43)).alloc (.cells (boxA b) 54)) (.cells #[.bool false] 4)
    rw [World.size_alloc, World.size_alloc, World.size_alloc] at h
    exact New.blk n2 h
  have hn : New w W2 := New.trans (by (repeat (first | (with_reducible exact New.refl _) | (with_reducible assumption) | ((with_reducible refine New.setB ?_ ?_ _); focus (first | omega | (simp; omega) | (simp; done))) | (with_reducible refine New.alloc ?_ _) | (with_reducible refine New.drew ?_) | (with_reducible refine New.drewN ?_ _) | (with_reducible refine New.hat ?_ _) | ((with_reducible apply New.snart); (with_reducible assumption))))) n2
  have hz := hn.size
  clear n2
  refine wpIn_rangeFunc_ownH rfl (by omega) (gf := 55) (lb := #[.pointer (some ⟨w.heap.size + 1 + 1 + 1 + 1, 0, none⟩), .pointer (some ⟨w.heap.size + 1 + 1 + 1 + 1 + 1, 0, none⟩), .pointer (some ⟨w.heap.size + 1 + 1 + 1 + 1 + 2, 0, none⟩)]) rfl trivial (enters_of Tryz.func55 (by kernel_rfl) rfl)
    (p_stops C T b hC hT hb 4 (by omega) (w.heap.size + 1 + 1 + 1 + 1) (w.heap.size + 1 + 1 + 1 + 1 + 1) (w.heap.size + 1 + 1 + 1 + 1 + 2) W2 h3)
    (fun h k => h.trans k) (fun W l o o' hl _ _ _ => ⟨World.putObj_heap_other (by omega), World.putObj_heap_other (by omega), World.putObj_heap_other (by omega)⟩) (Below.refl _ _) (fun _ => rfl)
    (fun pre W => pre = [] ∧ Below w.heap.size w W ∧ W.heap[w.heap.size + 1 + 1 + 1]? = some (.cells #[.bool false] 4 (0, 0)))
    (fun c pre W => c = Code.ret ∧ Below w.heap.size w W ∧ W.heap[w.heap.size + 1 + 1 + 1]? = some (.cells #[.bool true] 4 (0, 0)))
    (OwnFrom.and (ownFrom_pure _ (fun pre => pre = [])) (OwnFrom.and (ownFrom_below (Nat.le_refl _) hz) (blk_own _ _)))
    (fun c => OwnFrom.and (ownFrom_pure _ (fun _ => c = Code.ret)) (OwnFrom.and (ownFrom_below (Nat.le_refl _) hz) (blk_own _ _)))
    ⟨rfl, hn, hrb⟩
    (fun (e : El b.n) a' _ => a' = { tmps := #[.agg #[.int .i64 C.cl, .int .i64 C.cb, .int .i64 C.ht, .int .i64 C.ri, .int .i64 C.ru, .int .i64 C.wd, .int .i64 C.dp], .agg #[.int .i64 T.i, .int .i64 T.x0, .int .i64 T.y0, .int .i64 T.z0, .int .i64 T.x1, .int .i64 T.y1, .int .i64 T.z1, .int .i64 T.x2, .int .i64 T.y2, .int .i64 T.z2], .agg #[.int .i64 b.x, .int .i64 b.z, .int .i64 b.w, .int .i64 b.d], .pointer (some ⟨w.heap.size, 0, none⟩), .pointer (some ⟨w.heap.size + 1, 0, none⟩), .pointer (some ⟨w.heap.size + 1 + 1, 0, none⟩), .pointer (some ⟨w.heap.size + 1 + 1 + 1, 0, none⟩), .agg #[.int .i64 C.cl, .int .i64 C.cb, .int .i64 C.ht, .int .i64 C.ri, .int .i64 C.ru, .int .i64 C.wd, .int .i64 C.dp], .agg #[.int .i64 T.i, .int .i64 T.x0, .int .i64 T.y0, .int .i64 T.z0, .int .i64 T.x1, .int .i64 T.y1, .int .i64 T.z1, .int .i64 T.x2, .int .i64 T.y2, .int .i64 T.z2], .agg #[.int .i64 b.x, .int .i64 b.z, .int .i64 b.w, .int .i64 b.d], .func (.func 55) #[] #[.pointer (some ⟨w.heap.size + 1 + 1 + 1 + 1, 0, none⟩), .pointer (some ⟨w.heap.size + 1 + 1 + 1 + 1 + 1, 0, none⟩), .pointer (some ⟨w.heap.size + 1 + 1 + 1 + 1 + 2, 0, none⟩)], .int .i64 e.1.1, .agg #[.int .i64 e.1.2.lo, .int .i64 e.1.2.hi, .bool e.1.2.wk]], defers := [] })
    (fun x a' => fun _ _ _ _ hs _ _ => hs) ?assign ?body ?done ?stop
  case assign =>
    intro l pre e W K hi hK
    simp only [elA]
    simp only [List.zip_toArray, List.zip_cons_cons, List.zip_nil_right, List.foldl_toArray', List.foldl_cons, List.foldl_nil, List.setIfInBounds_toArray, List.set_cons_succ, List.set_cons_zero, List.size_toArray, List.length_cons, List.length_nil]
    gi_wp2
    exact hK _ _ (KeepsFrom.refl _ _) ⟨rfl, rfl, rfl⟩ hi rfl
  case body =>
    rintro l pre e a' W hl - ⟨rfl, hbl, hbx⟩ rfl hlt
    have hc := (show Boxed W _ _ _ from hbx).cell
    have hf := (show Boxed W _ _ _ from hbx).frozen
    gi_wp2_with fail
    exact ⟨(KeepsOthers.setCell _ _ _).from _, rfl, Below.setCell (p := ⟨w.heap.size + 1 + 1 + 1, 0, none⟩) hbl (show w.heap.size ≤ w.heap.size + 1 + 1 + 1 by omega) _, (show Boxed W _ _ _ from hbx).set _⟩
  case done =>
    rintro D xs W hD rfl ⟨he, hbl, hbx⟩ hK
    have hc := (show Boxed W _ _ _ from hbx).cell
    have hf := (show Boxed W _ _ _ from hbx).frozen
    have HE := Lib.hid he
    clear he
    gi_wp2_with fail
    refine over_end (w := w) false rfl ((show Boxed W _ _ _ from hbx).set _) ?_ (Nat.le_trans hz hD) (Below.setCell (p := ⟨w.heap.size + 1 + 1 + 1, 0, none⟩) hbl (show w.heap.size ≤ w.heap.size + 1 + 1 + 1 by omega) _) _ (fun w' n => ⟨by rw [HE.out]; rfl, n⟩)
    exact (KeepsOthers.setCell _ _ _).same D _ hK rfl
  case stop =>
    rintro D c pre W hD hne ⟨rfl, hbl, hbx⟩ hK
    gi_wp2_with fail
    refine over_end (w := w) true rfl hbx hK (Nat.le_trans hz hD) hbl _ (fun w' n => ⟨?_, n⟩)
    cases hl : elAll C T b with
    | nil => exact absurd hl hne
    | cons x xs => rfl

end Go.Proofs.YtccikeagbillgaaGreat

/- Package raster: Column, Box. -/
namespace Go.Proofs.YtccikeagbillgaaGreat
open Go.RowKit Go.Sort
set_option linter.unusedVariables false

theorem fE_full (C : CfgR) (l : List TriR) (x z : Int) : fE (colL C l x z) = if fullB C l x z then 51 else 0 := by
  unfold fE fullB colQ
  by_cases h : 8 < (mrg (colL C l x z)).length
  · rw [if_pos h, decide_eq_true h]; rfl
  · rw [if_neg h, decide_eq_false h]; rfl
theorem fR_full (C : CfgR) (l : List TriR) (x z : Int) : fR (colL C l x z) = if fullB C l x z then [] else colQ C l x z := by
  unfold fR fullB colQ
  by_cases h : 8 < (mrg (colL C l x z)).length
  · rw [if_pos h, decide_eq_true h]; rfl
  · rw [if_neg h, decide_eq_false h]; rfl
def bx1 (x z : Int) : Bx := ⟨x, z, 1, 1⟩
theorem bx1_ok {x z : Int} (hx : i64B x) (hz : i64B z) : (bx1 x z).ok := by
  unfold i64B at hx hz
  refine ⟨?_, ?_, ?_, ?_, ?_, ?_, ?_, ?_⟩ <;> (unfold bx1; dsimp only; (try unfold i64B); omega)
theorem bx1_n (x z : Int) : (bx1 x z).n = 1 := rfl
theorem bx1_at (C : CfgR) (l : List TriR) (x z : Int) : atL C l (bx1 x z) 0 = colL C l x z := by
  unfold atL bx1 plX plZ
  simp
theorem one_E (C : CfgR) (l : List TriR) (x z : Int) : bldE (atL C l (bx1 x z)) (bx1 x z).n = if fullB C l x z then 51 else 0 := by
  rw [bx1_n]
  unfold bldE anyE
  rw [show List.range 1 = [0] from rfl]
  simp only [List.any_cons, List.any_nil, Bool.or_false, bx1_at, fE_full]
  cases fullB C l x z <;> rfl
theorem one_R (C : CfgR) (l : List TriR) (x z : Int) (h : fullB C l x z = false) : bldR (atL C l (bx1 x z)) (bx1 x z).n = [colQ C l x z] := by
  rw [bx1_n]
  unfold bldR anyE rowsF
  rw [show List.range 1 = [0] from rfl]
  simp only [List.any_cons, List.any_nil, Bool.or_false, bx1_at, fE_full, fR_full, h, List.map_cons, List.map_nil]
  rfl

theorem rows_one {w : World} {v : Value} {R : List Sn} (h : RowsV w v [R]) : ∃ b off c u, v = .slice (some ⟨b, off, none⟩) 1 c ∧ 1 ≤ c ∧ w.cell? ⟨b, off, none⟩ = some u ∧ Sl Sn.enc 3 w u R := by
  obtain ⟨us, h1, ⟨a, c, rfl, h2, h3, h4, h5⟩, h6⟩ := h
  obtain ⟨u, hu, hs⟩ := h6 0 (by simp)
  obtain ⟨b, off, rfl, hr⟩ := h5 (by rw [h1]; simp)
  have hlt : 0 < us.length := by rw [h1]; simp
  have := hr 0 hlt 0 (by simp [oneC])
  have e : us[0] = u := by rw [List.getElem?_eq_getElem hlt] at hu; exact Option.some.inj hu
  rw [h1] at h2 ⊢
  exact ⟨b, off, c, u, rfl, h2, by simpa [oneC, e] using this, hs⟩

set_option maxHeartbeats 1000000 in
theorem r_column (C : CfgR) (at0 : Option Addr) (l : List TriR) (cap : Nat) (hl : l.length ≤ maxLen) (x z : Int) (hx : i64B x) (hz : i64B z) (w : World) (H : RowIn TriR.enc 10 w at0 l) :
    Calls Tryz.prog 8 #[.agg #[.int .i64 C.cl, .int .i64 C.cb, .int .i64 C.ht, .int .i64 C.ri, .int .i64 C.ru, .int .i64 C.wd, .int .i64 C.dp], .slice at0 l.length cap, .int .i64 x, .int .i64 z] w fun e w' =>
      ∃ v, e = .returned (.tuple #[v, .int .i64 (cE C l x z)]) ∧ Sl Sn.enc 3 w' v (cR C l x z) ∧ New w w' := by
  have HC := Lib.hid (fun W (n : New w W) => c_check C at0 l cap hl W (H.keep n))
  by_cases h0 : rchk C l = 0
  · obtain ⟨k1, k2, k3⟩ := rchk_zero h0
    have KK := Lib.hid (fun W (n : New w W) => callsIn_wide.1 (k_columns_ok C (CfgR.fine_of k1) (bx1 x z) (bx1_ok hx hz) at0 l cap k2 (fun T hT => mayT_ok (CfgR.fine_of k1) (k3 T hT)) W (H.keep n)))
    cases hf : fullB C l x z
    · have e1 := (c_fine h0 hf).1
      have e2 := (c_fine h0 hf).2
      have e3 := one_E C l x z
      have e4 := one_R C l x z hf
      rw [hf] at e3
      rw [e1, e2]
      rw [e3, e4] at KK
      rw [h0] at HC
      simp only [Bool.false_eq_true, if_false] at KK
      clear e1 e2 e3 e4 h0 k1 k2 k3 hf
      go_enter Tryz.func8, Tryz.ntmps8
      go_wp2_with fail
      generalize hW : World.alloc _ _ = W1
      have n1 : New w W1 := by subst hW; (repeat (first | (with_reducible exact New.refl _) | (with_reducible assumption) | ((with_reducible refine New.setB ?_ ?_ _); focus (first | omega | (simp; omega) | (simp; done))) | (with_reducible refine New.alloc ?_ _) | (with_reducible refine New.drew ?_) | (with_reducible refine New.drewN ?_ _) | (with_reducible refine New.hat ?_ _) | ((with_reducible apply New.snart); (with_reducible assumption))))
      have hB : W1.heap[w.heap.size]? = some (.cells (cfgA C) 23 (0, 0)) := by subst hW; exact World.alloc_heap_new w _
      clear hW
      refine (HC.out _ n1).mono ?_
      rintro e w2 ⟨rfl, n2⟩
      obtain ⟨c0, c1, c2, c3, c4, c5, c6⟩ := cfg_cs (n2.blk hB)
      have N2 := Lib.hid (n1.trans n2)
      clear n1 n2 hB
      go_wp2_with fail
      refine (KK.out _ N2.out).mono ?_
      rintro e w3 ⟨v, rfl, hr, n3⟩
      have N3 := Lib.hid (N2.out.trans n3)
      clear n3
      obtain ⟨rb, ro, rc, u, rfl, hrc, hu, hs⟩ := rows_one hr
      have HS := Lib.hid hs
      obtain ⟨ua, uc, rfl, -⟩ := hs
      clear hr
      go_wp2_with fail
      refine bodyPost_ret (v := .tuple #[.slice ua (colQ C l x z).length uc, .int .i64 0]) (by simp [results, Tryz.results8, go_sem, *]) rfl ?_
      exact ⟨_, rfl, HS.out, N3.out⟩
    · have e1 := (c_full h0 hf).1
      have e2 := (c_full h0 hf).2
      have e3 := one_E C l x z
      rw [hf] at e3
      rw [e1, e2]
      rw [e3] at KK
      rw [h0] at HC
      simp only [if_true] at KK
      clear e1 e2 e3 h0 k1 k2 k3 hf
      go_enter Tryz.func8, Tryz.ntmps8
      go_wp2_with fail
      generalize hW : World.alloc _ _ = W1
      have n1 : New w W1 := by subst hW; (repeat (first | (with_reducible exact New.refl _) | (with_reducible assumption) | ((with_reducible refine New.setB ?_ ?_ _); focus (first | omega | (simp; omega) | (simp; done))) | (with_reducible refine New.alloc ?_ _) | (with_reducible refine New.drew ?_) | (with_reducible refine New.drewN ?_ _) | (with_reducible refine New.hat ?_ _) | ((with_reducible apply New.snart); (with_reducible assumption))))
      have hB : W1.heap[w.heap.size]? = some (.cells (cfgA C) 23 (0, 0)) := by subst hW; exact World.alloc_heap_new w _
      clear hW
      refine (HC.out _ n1).mono ?_
      rintro e w2 ⟨rfl, n2⟩
      obtain ⟨c0, c1, c2, c3, c4, c5, c6⟩ := cfg_cs (n2.blk hB)
      have N2 := Lib.hid (n1.trans n2)
      clear n1 n2 hB
      go_wp2_with fail
      refine (KK.out _ N2.out).mono ?_
      rintro e w3 ⟨v, rfl, hr, n3⟩
      have N3 := Lib.hid (N2.out.trans n3)
      clear n3
      obtain ⟨us, -, ⟨va, vc, rfl, -⟩, -⟩ := hr
      go_wp2_with fail
      refine bodyPost_ret (v := .tuple #[.slice none 0 0, .int .i64 51]) (by simp [results, Tryz.results8, go_sem, *]) rfl ?_
      exact ⟨_, rfl, Sl.nil, N3.out⟩
  · have e1 := (rchk_no (x := x) (z := z) h0).1
    have e2 := (rchk_no (x := x) (z := z) h0).2
    rw [e1, e2]
    clear e1 e2
    have hb : (rchk C l == 0) = false := by rw [beq_eq_false_iff_ne]; exact h0
    have hb2 : (rchk C l != 0) = true := by rw [bne_iff_ne]; exact h0
    generalize rchk C l = ev at *
    go_enter Tryz.func8, Tryz.ntmps8
    go_wp2_with fail
    generalize hW : World.alloc _ _ = W1
    have n1 : New w W1 := by subst hW; (repeat (first | (with_reducible exact New.refl _) | (with_reducible assumption) | ((with_reducible refine New.setB ?_ ?_ _); focus (first | omega | (simp; omega) | (simp; done))) | (with_reducible refine New.alloc ?_ _) | (with_reducible refine New.drew ?_) | (with_reducible refine New.drewN ?_ _) | (with_reducible refine New.hat ?_ _) | ((with_reducible apply New.snart); (with_reducible assumption))))
    have hB : W1.heap[w.heap.size]? = some (.cells (cfgA C) 23 (0, 0)) := by subst hW; exact World.alloc_heap_new w _
    clear hW
    refine (HC.out _ n1).mono ?_
    rintro e w2 ⟨rfl, n2⟩
    have N2 := Lib.hid (n1.trans n2)
    clear n1 n2 hB
    go_wp2_with fail
    refine bodyPost_ret (v := .tuple #[.slice none 0 0, .int .i64 ev]) (by simp [results, Tryz.results8, go_sem, *]) rfl ?_
    exact ⟨_, rfl, Sl.nil, N2.out⟩

end Go.Proofs.YtccikeagbillgaaGreat
