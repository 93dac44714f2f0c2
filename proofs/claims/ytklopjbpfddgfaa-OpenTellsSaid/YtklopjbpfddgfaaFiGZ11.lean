import Derived.Test.YtklopjbpfddgfaaSoWZ11
import Derived.Test.YtklopjbpfddgfaaHatS
import Derived.Outline
import Derived.Deep.DeepCutAuto
import Derived.Deep.LoopGhost
import Derived.Test.YtklopjbpfddgfaaFiFZ11

/- Rows of whole numbers, and how two are compared. -/
namespace Go.Proofs.Ytklopjbpfddgfaa
open Go.RowKit
set_option linter.unusedVariables false
set_option maxRecDepth 100000

abbrev iE (t : Int) : List Value := [.int .i64 t]
theorem iE_len (t : Int) : (iE t).length = 1 := rfl
theorem int_info : (Try.prog.info? 3).map (fun i => (i.zero, i.size, i.bytes)) = some (some (.int .i64 0), 1, 8) := by kernel_rfl
theorem cells_int (w : World) (t : Int) (ty : TypeId) : ∀ j u, (iE t)[j]? = some u → (w.alloc (.cells #[.int .i64 t] ty)).cell? ((⟨w.heap.size, 0, none⟩ : Addr).add j) = some u := by
  intro j u hj
  match j, hj with
  | 0, hj => simp at hj; subst hj; simp [Addr.add]
  | j + 1, hj => simp at hj

theorem sl_at {w : World} {v : Value} {l : List Int} (h : Sl iE 1 w v l) : ∃ at0 c, v = .slice at0 l.length c ∧ l.length ≤ c ∧ c ≤ maxLen ∧ ∀ j (hj : j < l.length), ∃ b off, at0 = some ⟨b, off, none⟩ ∧ w.cell? ⟨b, off + j, none⟩ = some (.int .i64 l[j]) := by
  obtain ⟨at0, c, e, h1, h2, -, h3⟩ := h
  refine ⟨at0, c, e, h1, h2, fun j hj => ?_⟩
  obtain ⟨b, off, e1, h4⟩ := h3 (by omega)
  refine ⟨b, off, e1, ?_⟩
  have := h4 j hj 0 (by simp)
  simpa using this

end Go.Proofs.Ytklopjbpfddgfaa

/- Package filter: Open. -/
namespace Go.Proofs.Ytklopjbpfddgfaa
open Go.RowKit Go.Shelf Go.Sort
set_option linter.unusedVariables false
attribute [local go_sem] Oper.semAt_some

theorem ownsRow_down {w : World} {base b0 size : Nat} {e : TypeId} {v : Value} {n : Nat} {xs : List Value} (h : w.ownsRow base e size v n xs) (hb : b0 ≤ base) : w.ownsRow b0 e size v n xs := by
  obtain ⟨h1, h2⟩ := h
  refine ⟨h1, h2.imp id ?_⟩
  rintro ⟨g, cap, cur, rfl, hg, r⟩
  exact ⟨g, cap, cur, rfl, Nat.le_trans hb hg, r⟩

/-- What an append of whole numbers to a row of one's own, in a box, leaves as it lay. -/
theorem app_keepO {W w1 : World} {P base k : Nat} {v v' : Value} {xs : List Value} {tmp : Obj} (hv : Boxed W P 69 v) (hrow : W.ownsRow base 3 1 v k xs) (hgrow : (W.alloc tmp).grownBy w1 v.ownBlock) {S : List Nat} (hS : ∀ b ∈ S, b < base ∧ b ≠ P ∧ b < W.heap.size) : KeepO S W (w1.setCell ⟨P, 0, none⟩ v') := by
  refine ⟨fun b hb => ?_, fun b cs t fr ht hb => ?_⟩
  · obtain ⟨h1, h2, h3⟩ := hS b hb
    rw [Below.heap_setCell _ _ _ _ h2]
    refine (hgrow.block b (by simp; omega) (fun e' => ?_)).trans (Below.heap_alloc W tmp b h3)
    have := own_block hrow b e'.symm
    omega
  · have hlt : b < W.heap.size := (Array.getElem?_eq_some_iff.1 hb).1
    have hP : b ≠ P := fun e => by
      subst e
      have h1 := (show W.heap[b]? = _ from hv).symm.trans hb
      injection h1 with h1
      injection h1 with _ h1
      rcases ht with rfl | rfl <;> cases h1
    rw [Below.heap_setCell _ _ _ _ hP]
    refine (hgrow.block b (by simp; omega) (fun e' => ?_)).trans (Below.heap_alloc W tmp b hlt)
    rcases hrow.2 with ⟨rfl, _⟩ | ⟨g, cap, cur, rfl, _, hgb, _⟩
    · simp [Value.ownBlock] at e'
    · obtain rfl : b = g := by simpa [Value.ownBlock] using e'
      rw [hb] at hgb
      injection hgb with hgb
      injection hgb with _ hgb
      rcases ht with rfl | rfl <;> cases hgb

def opI (C : CfgR) (l : List Sn) : List Int := (opX C l).map (fun k : Nat => (k : Int))

set_option maxHeartbeats 4000000 in
set_option maxRecDepth 100000 in
theorem fi_open (C : CfgR) (at0 : Option Addr) (l : List Sn) (c : Nat) (w : World) (h : Sl Sn.enc 3 w (.slice at0 l.length c) l) :
    Calls Try.prog 28 #[.agg #[.int .i64 C.cl, .int .i64 C.cb, .int .i64 C.ht, .int .i64 C.ri, .int .i64 C.ru, .int .i64 C.wd, .int .i64 C.dp], .slice at0 l.length c] w fun e w' => ∃ v, e = .returned (.tuple #[v, .int .i64 (fiE C l)]) ∧ Sl iE 1 w' v (opI C l) ∧ New w w' := by
  obtain ⟨i0, hi, hz0, hz1, hz2⟩ := info_parts int_info
  have hlm : l.length ≤ maxLen := by obtain ⟨_, h1, h2, _⟩ := h.row'; omega
  have KF := Lib.hid (fun W n => fi_check C at0 l c hlm W ((h.keep (n : New w W)).row'.2.2.2.2))
  have KE := Lib.hid (fun W n => fi_each C at0 l c W (h.keep (n : New w W)))
  obtain ⟨r, hr⟩ : ∃ r, r = fiE C l := ⟨_, rfl⟩
  rw [← hr] at KF ⊢
  have HR := Lib.hid hr
  have h3 := fiE_three C l
  rw [← hr] at h3
  clear hr hlm h
  refine (callsIn_wide (n := 8)).1 ?_
  refine callsIn_of_wp_marks Try.func28 rfl trivial ?_ rfl
  simp only [Try.ntmps28, List.size_toArray, List.length_cons, List.length_nil, Nat.reduceAdd, Nat.reduceSub, Array.replicate_succ, Array.replicate_zero, List.push_toArray, List.append_toArray, List.nil_append, List.cons_append]
  refine wpIn_wide.2 ?_
  go_upto_region 1 with fail
  refine Code.at (fun W0 hW => ?_)
  have n0 : New w W0 := by subst hW; (repeat (first | (with_reducible exact New.refl _) | (with_reducible assumption) | ((with_reducible refine New.setB ?_ ?_ _); focus (first | omega | (simp; omega) | (simp; done))) | (with_reducible refine New.alloc ?_ _) | (with_reducible refine New.drew ?_) | (with_reducible refine New.drewN ?_ _) | (with_reducible refine New.hat ?_ _) | ((with_reducible apply New.snart); (with_reducible assumption))))
  have x0 : W0.heap[w.heap.size]? = some (.cells #[.int .i64 C.cl, .int .i64 C.cb, .int .i64 C.ht, .int .i64 C.ri, .int .i64 C.ru, .int .i64 C.wd, .int .i64 C.dp] 48 (0, 0)) := by subst hW; exact World.alloc_heap_new _ _
  clear hW
  obtain ⟨c0, c1, c2, c3, c4, c5, c6⟩ := CfgR.at (cfg_cells x0)
  go_wp2_with fail
  refine (KF.out _ n0).mono ?_
  rintro e W1 ⟨rfl, n1⟩
  have x1 := New.stays n1 x0
  have hn1 : New w W1 := n0.trans n1
  clear c0 c1 c2 c3 c4 c5 c6 x0 n1 n0
  rcases h3 with rfl | h3
  · go_upto_region 5 with fail
    refine Code.at (fun W2 hW => ?_)
    have n2 : New W1 W2 := by subst hW; (repeat (first | (with_reducible exact New.refl _) | (with_reducible assumption) | ((with_reducible refine New.setB ?_ ?_ _); focus (first | omega | (simp; omega) | (simp; done))) | (with_reducible refine New.alloc ?_ _) | (with_reducible refine New.drew ?_) | (with_reducible refine New.drewN ?_ _) | (with_reducible refine New.hat ?_ _) | ((with_reducible apply New.snart); (with_reducible assumption))))
    have bx : Boxed W2 W1.heap.size 69 (.slice none 0 0) := by subst hW; exact World.alloc_heap_new _ _
    have z2 : W2.heap.size = W1.heap.size + 1 := by subst hW; simp
    clear hW
    have x2 := New.stays n2 x1
    obtain ⟨c0, c1, c2, c3, c4, c5, c6⟩ := CfgR.at (cfg_cells x2)
    have hn2 : New w W2 := hn1.trans n2
    have hw1 := hn1.size
    go_wp2_with fail
    refine (KE.out _ hn2).mono ?_
    rintro e V ⟨n3, g, lb, S, rfl, hSb, heg, hsq⟩
    have hn3 : New w V := hn2.trans n3
    have bv : Boxed V W1.heap.size 69 (.slice none 0 0) := New.stays n3 bx
    have hz3 := n3.size
    clear c0 c1 c2 c3 c4 c5 c6 x2 bx n3 hn2 n2 x1
    generalize W1.heap.size = P at *
    go_wp2_with fail
    refine (wpIn_wide (n := 8)).1 ?_
    have hPV := bv.lt
    have hlen : (opX C l).length ≤ 8 := by
      unfold opX
      rw [if_pos HR.out.symm]
      unfold opL
      have h1 := List.length_filter_le (opnB C l) (List.range l.length)
      rw [List.length_range] at h1
      have := (chkE_zero (fiE_ok HR.out.symm).2).1
      omega
    refine wpIn_rangeL rfl (by omega) (gf := g) (lb := lb) rfl trivial heg (hsq 7 (by omega)) (fun h k => ⟨h.1.trans k.1, h.2.trans k.2⟩)
      (fun U o hr => ⟨fun b hb => World.putObj_heap_other (by have := (hSb b hb).2; omega), KeepT.put o hr⟩) (Below.refl _ _) (fun _ => rfl)
      (fun i U => (∃ v, Boxed U P 69 v ∧ U.ownsRow V.heap.size 3 1 v i (((opX C l).take i).flatMap fun k : Nat => iE k) ∧ True) ∧ Below w.heap.size w U ∧ V.heap.size ≤ U.heap.size)
      (fun _ _ _ => False)
      (OwnFrom.and (Own.from (holdsRow_own V.heap.size P 69 3 1 (fun i : Nat => i) (fun i : Nat => ((opX C l).take i).flatMap fun k : Nat => iE k) (fun _ _ => True)) _) (OwnFrom.and (ownFrom_below (Nat.le_refl _) hn3.size) (fun _ _ _ _ hs hg _ => Nat.le_trans hs hg.size)))
      (fun _ _ _ _ _ hs _ _ => hs)
      ⟨⟨_, bv, World.ownsRow_nil _ _ _ _, trivial⟩, hn3, Nat.le_refl _⟩
      (fun i a' _ => ∃ k : Nat, (opX C l)[i]? = some k ∧ a' = { tmps := #[.agg #[.int .i64 C.cl, .int .i64 C.cb, .int .i64 C.ht, .int .i64 C.ri, .int .i64 C.ru, .int .i64 C.wd, .int .i64 C.dp], .slice at0 l.length c, .pointer (some ⟨w.heap.size, 0, none⟩), undef, .slice none 0 0, .int .i64 0, .int .i64 0, .pointer (some ⟨P, 0, none⟩), .int .i64 (k : Nat), .agg #[.int .i64 C.cl, .int .i64 C.cb, .int .i64 C.ht, .int .i64 C.ri, .int .i64 C.ru, .int .i64 C.wd, .int .i64 C.dp], .slice at0 l.length c, .int .i64 0, .int .i64 0, .bool false, undef, .agg #[.int .i64 C.cl, .int .i64 C.cb, .int .i64 C.ht, .int .i64 C.ri, .int .i64 C.ru, .int .i64 C.wd, .int .i64 C.dp], .slice at0 l.length c, .func (.func g) #[] lb, .int .i64 (k : Nat), .int .i64 (roofF l k), undef, undef, undef, undef, undef], defers := [] })
      (fun i a' => fun _ _ _ _ hs _ _ => hs) ?assign ?body ?done ?stop
    case assign =>
      intro i hi' U K hI hK
      generalize hk : (opX C l)[i] = k
      simp only [roomE]
      simp only [List.zip_toArray, List.zip_cons_cons, List.zip_nil_right, List.foldl_toArray', List.foldl_cons, List.foldl_nil, List.setIfInBounds_toArray, List.set_cons_succ, List.set_cons_zero, List.size_toArray, List.length_cons, List.length_nil]
      gi_wp2
      exact hK _ _ (KeepsFrom.refl _ _) ⟨KeepS.refl _, KeepT.refl _⟩ hI ⟨k, by rw [List.getElem?_eq_getElem hi', hk], rfl⟩
    case body =>
      rintro i hi' a' U - ⟨⟨v, hv, hrow, -⟩, hB, hVU⟩ ⟨k, hk, rfl⟩
      have hcell := hv.cell
      have hrow0 := ownsRow_down (b0 := w.heap.size) hrow hn3.size
      have hBs := hB.size
      have hS3 : ∀ b ∈ S, b < V.heap.size ∧ b ≠ P ∧ b < U.heap.size := fun b hb => by have := hSb b hb; omega
      gi_wp2_with (gi_at_builtin; refine wpListIn_append_own _ rfl _ _ 69 rfl V.heap.size 3 i0 (.int .i64 0) 1 8 Try.underlying69 hi hz0 hz1 hz2 rfl (by decide) _ _ _ rfl (hrow.alloc _) ⟨U.heap.size, 0, none⟩ 1 1 (iE k) rfl rfl (cells_int _ _ _) (by intro u hu; simp at hu; subst hu; rfl) (by unfold maxLen; omega) (by omega) (by simp; omega) ?_; intro v' w1 hown' hgrow _; obtain ⟨g', cap', rfl⟩ := ownsRow_succ hown'; obtain ⟨hv1, hv2, hr2, hk2, hb2⟩ := hv.appended (by decide) hrow0 hBs hw1 (ownsRow_down (b0 := w.heap.size) hown' hn3.size) hgrow; have hc1 := hv1.cell; have hf1 := hv1.frozen)
      refine ⟨hk2.from _, app_keepO hv hrow hgrow hS3, ⟨_, hv2, ?_, trivial⟩, hB.trans hb2, Nat.le_trans hVU hb2.size⟩
      rw [List.take_add_one, hk]
      simp only [Option.toList_some, List.flatMap_append, List.flatMap_cons, List.flatMap_nil, List.append_nil]
      exact hown'.kept (grownBy_setCell' w1 P _) (.inr (hv1.not_row (by decide) hown').symm)
    case done =>
      rintro U ⟨⟨v, hv, hrow, -⟩, hB, hVU⟩ hD
      have hcell := hv.cell
      go_wp2_with fail
      refine ret_mark hD fun U2 hU2 hk => ⟨_, results_tmp2 rfl _ _ _, v, rfl, ?_, ?_⟩
      · have h1 := ownsRow_putObj hrow (.deferred none) hD rfl
        rw [← hU2, List.take_length] at h1
        refine own_sl (base := V.heap.size) (e := 3) iE_len ?_
        unfold opI
        rw [List.length_map, List.flatMap_map]
        exact h1
      · rw [hU2]
        exact Go.RowKit.Below.trans hB (belowK_b (w := w) (Nat.le_refl _) _ _ _ _ hn3.size hD rfl rfl)
    case stop =>
      rintro i q U _ _ h _
      exact h.elim
  · have hne : (r != 0) = true := by rcases h3 with rfl | rfl <;> rfl
    have hr0 : fiE C l ≠ 0 := by rw [← HR.out]; rcases h3 with rfl | rfl <;> decide
    have HO : Hid (opI C l = []) := Lib.hid (by unfold opI opX; rw [if_neg hr0]; rfl)
    clear h3 hr0
    go_wp2_with fail
    exact ⟨_, results_tmp2 rfl _ _ _, _, rfl, by rw [HO.out]; exact Sl.nil, hn1⟩

end Go.Proofs.Ytklopjbpfddgfaa
