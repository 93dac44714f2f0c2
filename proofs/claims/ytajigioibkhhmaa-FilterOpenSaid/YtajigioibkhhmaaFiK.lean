/- Layer 10: does the program go over just these? -/
import Derived.Test.YtajigioibkhhmaaFiG
import Derived.Test.YtajigioibkhhmaaFiH
namespace Go.Proofs.Ytajigioibkhhmaa
open Go.RowKit Go.Shelf Go.Sort
set_option linter.unusedVariables false
attribute [local go_sem] Oper.semAt_some

theorem fi_equalIn_nil {P : Program} (w : World) (d : Nat) (t : TypeId) (ps rs : Array TypeId) (b : Bool) (f : _root_.Go.Fn) (fi ca : Array Value) (h : P.underlying t = some (.func ps rs b)) :
    (Op.equalIn (d + 1) t (.func f fi ca) .nilFunc).run P w = .ok false w := by
  simp [Op.equalIn, run_underlying h]
theorem fi_eql_nil (w : World) (f : Nat) (a : Array Value) : (binOp .eql 44 (.func (.func f) #[] a) .nilFunc).run Try.prog w = .ok (.bool false) w := by
  have h : Try.prog.underlying 44 = some (.func #[53] #[] false) := by kernel_rfl
  simp only [binOp]
  simp [Op.equal, Op.maxDepth, fi_equalIn_nil w 9999 _ _ _ _ _ _ _ h]

theorem opX_at {C : CfgR} {l : List Sn} {i : Nat} (h : i < (opX C l).length) : fiE C l = 0 ∧ (opX C l)[i] < l.length := by
  have h0 : fiE C l = 0 := by
    by_cases h0 : fiE C l = 0
    · exact h0
    · unfold opX at h
      rw [if_neg h0] at h
      simp at h
  refine ⟨h0, ?_⟩
  have he : opX C l = opL C l := by unfold opX; rw [if_pos h0]
  have hm : (opX C l)[i] ∈ opL C l := by
    have := List.getElem_mem h
    generalize hx : (opX C l)[i] = x at *
    rw [he] at this
    exact this
  unfold opL at hm
  exact List.mem_range.1 (List.mem_filter.1 hm).1
theorem opX_len (C : CfgR) (l : List Sn) : (opX C l).length ≤ 8 := by
  unfold opX
  split
  · rename_i h
    unfold opL
    have h1 := List.length_filter_le (opnB C l) (List.range l.length)
    rw [List.length_range] at h1
    have := (chkE_zero (fiE_ok h).2).1
    omega
  · simp

theorem goes_leaves {w U : World} {T : Array Value} {B D : Nat} (h8 : T.getD 8 undef = .pointer (some ⟨B, 0, none⟩)) (b : Boxed U B 4 (.bool false)) (hB : w.heap.size ≤ B) (hn : Below w.heap.size w U) (hD : U.heap[D]? = some (.deferred (some []))) (hDs : w.heap.size ≤ D) :
    bodyPostM Fence.wide 8 Try.prog Try.f13 (fun e w' => e = .returned (.bool true) ∧ New w w') .ret { tmps := T, defers := [{ target := .collected D, args := #[] }] } (U.setCell ⟨B, 0, none⟩ (.bool true)) := by
  have hD' := (KeepsOthers.setCell U ⟨B, 0, none⟩ (.bool true)).same _ _ hD rfl
  have hne : B ≠ D := fun e => by subst e; have := (show U.heap[B]? = _ from b).symm.trans hD; cases this
  refine ret_mark hD' fun V hV hk => ?_
  have c := (show Boxed V B 4 (.bool true) from (hk B hne).trans (b.set _)).cell
  refine ⟨.bool true, ?_, rfl, ?_⟩
  · have h8' : T[8]?.getD undef = .pointer (some ⟨B, 0, none⟩) := by simpa using h8
    simp [results, Try.results13, go_sem, h8', c]
  · rw [hV]
    exact Go.RowKit.Below.trans (Below.setCell (p := ⟨B, 0, none⟩) hn hB (.bool true)) (belowK_b (w := w) (Nat.le_refl _) _ _ _ _ hDs hD' rfl rfl)

/-- What a round's own steps leave: a call that makes memory anew, a store of a whole number into a box. -/
theorem round_keeps {U U2 : World} {N : Nat} {a : Value} (v : Value) {B : Nat} {S : List Nat} (hN : Boxed U N 3 a) (n : New U U2) (hS : ∀ b ∈ S, b < N) : KeepsFrom B U (U2.setCell ⟨N, 0, none⟩ v) ∧ KeepO S U (U2.setCell ⟨N, 0, none⟩ v) := by
  have hl := hN.lt
  refine ⟨(keepsFrom_new n).trans ((KeepsOthers.setCell _ _ _).from _), fun b hb => ?_, fun b cs t fr ht hb => ?_⟩
  · have := hS b hb
    rw [Below.heap_setCell _ _ _ _ (show b ≠ N by omega)]
    exact n.block b (by omega)
  · have hP : b ≠ N := fun e => by
      subst e
      have h1 := (show U.heap[b]? = _ from hN).symm.trans hb
      injection h1 with h1
      injection h1 with _ h1
      rcases ht with rfl | rfl <;> cases h1
    rw [Below.heap_setCell _ _ _ _ hP]
    exact n.block b (Array.getElem?_eq_some_iff.1 hb).1

set_option maxHeartbeats 4000000 in
set_option maxRecDepth 100000 in
theorem fi_goes (C : CfgR) (at0 : Option Addr) (l : List Sn) (c : Nat) (u : Value) (leave : Int) (w : World) (h : Sl Sn.enc 3 w (.slice at0 l.length c) l) (hu : Sl iE 1 w u (opI C l)) :
    Calls Try.prog 13 #[.agg #[.int .i64 C.cl, .int .i64 C.cb, .int .i64 C.ht, .int .i64 C.ri, .int .i64 C.ru, .int .i64 C.wd, .int .i64 C.dp], .slice at0 l.length c, u, .int .i64 leave] w fun e w' => e = .returned (.bool true) ∧ New w w' := by
  have hlm : l.length ≤ maxLen := by obtain ⟨_, h1, h2, _⟩ := h.row'; omega
  have KE := Lib.hid (fun W n => fi_each C at0 l c W (h.keep (n : New w W)))
  have KR := Lib.hid (fun k W n => rf_room at0 l c hlm k W ((h.keep (n : New w W)).row'.2.2.2.2))
  obtain ⟨au, cu, rfl, hu1, hu2, hu3⟩ := sl_at hu
  have HU := Lib.hid hu3
  have hX := opX_len C l
  have hXI : (opI C l).length = (opX C l).length := by unfold opI; rw [List.length_map]
  have KN := Lib.hid fi_eql_nil
  rw [hXI] at hu1 ⊢
  have HXI := Lib.hid hXI
  clear hXI
  clear h hu hu3
  refine (callsIn_wide (n := 8)).1 ?_
  refine callsIn_of_wp_marks Try.func13 rfl trivial ?_ rfl
  simp only [Try.ntmps13, List.size_toArray, List.length_cons, List.length_nil, Nat.reduceAdd, Nat.reduceSub, Array.replicate_succ, Array.replicate_zero, List.push_toArray, List.append_toArray, List.nil_append, List.cons_append]
  refine wpIn_wide.2 ?_
  go_upto_region 1 with fail
  refine Code.at (fun W0 hW => ?_)
  have n0 : New w W0 := by subst hW; (repeat (first | (with_reducible exact New.refl _) | (with_reducible assumption) | ((with_reducible refine New.setB ?_ ?_ _); focus (first | omega | (simp; omega) | (simp; done))) | (with_reducible refine New.alloc ?_ _) | (with_reducible refine New.drew ?_) | (with_reducible refine New.drewN ?_ _) | (with_reducible refine New.hat ?_ _) | ((with_reducible apply New.snart); (with_reducible assumption))))
  have z0 : W0.heap.size = w.heap.size + 5 := by subst hW; simp
  have hc : CellsAt W0 w.heap.size 0 C.enc := by subst hW; exact (cells_new w _ _).keep (by (repeat (first | (with_reducible exact New.refl _) | (with_reducible assumption) | ((with_reducible refine New.setB ?_ ?_ _); focus (first | omega | (simp; omega) | (simp; done))) | (with_reducible refine New.alloc ?_ _) | (with_reducible refine New.drew ?_) | (with_reducible refine New.drewN ?_ _) | (with_reducible refine New.hat ?_ _) | ((with_reducible apply New.snart); (with_reducible assumption)))))
  have b1 : Boxed W0 (w.heap.size + 1) 24 (.slice at0 l.length c) := by
    subst hW
    have h := World.alloc_heap_new (w.alloc (.cells #[.int .i64 C.cl, .int .i64 C.cb, .int .i64 C.ht, .int .i64 C.ri, .int .i64 C.ru, .int .i64 C.wd, .int .i64 C.dp] 23)) (.cells #[.slice at0 l.length c] 24)
    rw [World.size_alloc] at h
    exact ((((New.refl _).alloc _).alloc _).alloc _).stays h
  have b2 : Boxed W0 (w.heap.size + 1 + 1) 28 (.slice au (opX C l).length cu) := by
    subst hW
    have h := World.alloc_heap_new ((w.alloc (.cells #[.int .i64 C.cl, .int .i64 C.cb, .int .i64 C.ht, .int .i64 C.ri, .int .i64 C.ru, .int .i64 C.wd, .int .i64 C.dp] 23)).alloc (.cells #[.slice at0 l.length c] 24)) (.cells #[.slice au (opX C l).length cu] 28)
    rw [World.size_alloc, World.size_alloc] at h
    exact (((New.refl _).alloc _).alloc _).stays h
  have b3 : Boxed W0 (w.heap.size + 1 + 1 + 1) 3 (.int .i64 leave) := by
    subst hW
    have h := World.alloc_heap_new (((w.alloc (.cells #[.int .i64 C.cl, .int .i64 C.cb, .int .i64 C.ht, .int .i64 C.ri, .int .i64 C.ru, .int .i64 C.wd, .int .i64 C.dp] 23)).alloc (.cells #[.slice at0 l.length c] 24)).alloc (.cells #[.slice au (opX C l).length cu] 28)) (.cells #[.int .i64 leave] 3)
    rw [World.size_alloc, World.size_alloc, World.size_alloc] at h
    exact ((New.refl _).alloc _).stays h
  have b4 : Boxed W0 (w.heap.size + 1 + 1 + 1 + 1) 4 (.bool false) := by
    subst hW
    have h := World.alloc_heap_new ((((w.alloc (.cells #[.int .i64 C.cl, .int .i64 C.cb, .int .i64 C.ht, .int .i64 C.ri, .int .i64 C.ru, .int .i64 C.wd, .int .i64 C.dp] 23)).alloc (.cells #[.slice at0 l.length c] 24)).alloc (.cells #[.slice au (opX C l).length cu] 28)).alloc (.cells #[.int .i64 leave] 3)) (.cells #[.bool false] 4)
    rw [World.size_alloc, World.size_alloc, World.size_alloc, World.size_alloc] at h
    exact h
  clear hW
  obtain ⟨c0, c1, c2, c3, c4, c5, c6⟩ := CfgR.at hc
  have e1 := b1.cell
  go_wp2_with fail
  refine (KE.out _ n0).mono ?_
  rintro e V ⟨n1, g, lb, S, rfl, hSb, heg, hsq⟩
  have hn1 : New w V := n0.trans n1
  replace b1 := New.stays n1 b1
  replace b2 := New.stays n1 b2
  replace b3 := New.stays n1 b3
  replace b4 := New.stays n1 b4
  have hz1 := n1.size
  have kn := fun W => KN.out W g lb
  clear c0 c1 c2 c3 c4 c5 c6 e1 hc n1 n0
  go_upto_region 5 with fail
  refine Code.at (fun V1 hW => ?_)
  have n2 : New V V1 := by subst hW; (repeat (first | (with_reducible exact New.refl _) | (with_reducible assumption) | ((with_reducible refine New.setB ?_ ?_ _); focus (first | omega | (simp; omega) | (simp; done))) | (with_reducible refine New.alloc ?_ _) | (with_reducible refine New.drew ?_) | (with_reducible refine New.drewN ?_ _) | (with_reducible refine New.hat ?_ _) | ((with_reducible apply New.snart); (with_reducible assumption))))
  have z2 : V1.heap.size = V.heap.size + 1 := by subst hW; simp
  have bn : Boxed V1 V.heap.size 3 (.int .i64 0) := by subst hW; exact World.alloc_heap_new V _
  clear hW
  have hn2 : New w V1 := hn1.trans n2
  replace b1 := New.stays n2 b1
  replace b2 := New.stays n2 b2
  replace b3 := New.stays n2 b3
  replace b4 := New.stays n2 b4
  generalize V.heap.size = N at *
  go_wp2_with fail
  refine (wpIn_wide (n := 8)).1 ?_
  have hN0 : w.heap.size + 5 ≤ N := by omega
  have hSN : ∀ b ∈ S, b < N := fun b hb => (hSb b hb).2
  refine wpIn_rangeL rfl (by omega) (gf := g) (lb := lb) rfl trivial heg (hsq 7 (by omega)) (fun h k => ⟨h.1.trans k.1, h.2.trans k.2⟩)
    (fun U o hr => ⟨fun b hb => World.putObj_heap_other (by have := hSN b hb; omega), KeepT.put o hr⟩) n2 (fun _ => rfl)
    (fun i U => Below w.heap.size w U ∧ (N < U.heap.size ∧ U.heap[w.heap.size + 1]? = some (.cells #[.slice at0 l.length c] 24 (0, 0)) ∧ U.heap[w.heap.size + 1 + 1]? = some (.cells #[.slice au (opX C l).length cu] 28 (0, 0)) ∧ U.heap[w.heap.size + 1 + 1 + 1]? = some (.cells #[.int .i64 leave] 3 (0, 0)) ∧ U.heap[w.heap.size + 1 + 1 + 1 + 1]? = some (.cells #[.bool false] 4 (0, 0))) ∧ ∃ iv : Int, iv = i ∧ Boxed U N 3 (.int .i64 iv))
    (fun q i U => (q = Code.exit 0 ∧ (i : Int) = leave) ∧ Below w.heap.size w U ∧ (N < U.heap.size ∧ U.heap[w.heap.size + 1]? = some (.cells #[.slice at0 l.length c] 24 (0, 0)) ∧ U.heap[w.heap.size + 1 + 1]? = some (.cells #[.slice au (opX C l).length cu] 28 (0, 0)) ∧ U.heap[w.heap.size + 1 + 1 + 1]? = some (.cells #[.int .i64 leave] 3 (0, 0)) ∧ U.heap[w.heap.size + 1 + 1 + 1 + 1]? = some (.cells #[.bool false] 4 (0, 0))) ∧ ∃ iv : Int, iv = i ∧ Boxed U N 3 (.int .i64 iv))
    ?hI ?hIx
    ⟨hn2, ⟨by omega, b1, b2, b3, b4⟩, 0, rfl, bn⟩
    (fun i a' _ => ∃ k : Nat, (opX C l)[i]? = some k ∧ a' = { tmps := #[.agg #[.int .i64 C.cl, .int .i64 C.cb, .int .i64 C.ht, .int .i64 C.ri, .int .i64 C.ru, .int .i64 C.wd, .int .i64 C.dp], .slice at0 l.length c, .slice au (opX C l).length cu, .int .i64 leave, .pointer (some ⟨w.heap.size, 0, none⟩), .pointer (some ⟨w.heap.size + 1, 0, none⟩), .pointer (some ⟨w.heap.size + 1 + 1, 0, none⟩), .pointer (some ⟨w.heap.size + 1 + 1 + 1, 0, none⟩), .pointer (some ⟨w.heap.size + 1 + 1 + 1 + 1, 0, none⟩), .func (.func g) #[] lb, .pointer (some ⟨N, 0, none⟩), .int .i64 (k : Nat), .int .i64 (roofF l k), undef, undef, .agg #[.int .i64 C.cl, .int .i64 C.cb, .int .i64 C.ht, .int .i64 C.ri, .int .i64 C.ru, .int .i64 C.wd, .int .i64 C.dp], .slice at0 l.length c, .func (.func g) #[] lb, .func (.func g) #[] lb, .bool false, .func (.func g) #[] lb, .int .i64 (k : Nat), .int .i64 (roofF l k), undef, undef, undef, undef, undef, undef, undef, undef, undef, undef, undef, undef, undef, undef, undef, undef, undef, undef, undef, undef, undef, undef, undef, undef, undef, undef, undef, undef, undef, undef, undef, undef, undef, undef, undef, undef, undef, undef, undef], defers := [] })
    (fun i a' => fun _ _ _ _ hs _ _ => hs) ?assign ?body ?done ?stop
  case hI => exact OwnFrom.and (ownFrom_below (Nat.le_refl _) hn2.size) (OwnFrom.and (OwnFrom.and (fun _ _ _ _ hs hg _ => Nat.lt_of_lt_of_le hs hg.size) (OwnFrom.and (own_blk _ _) (OwnFrom.and (own_blk _ _) (OwnFrom.and (own_blk _ _) (own_blk _ _))))) (fun s X Y row hs hg hr => by
    obtain ⟨iv, e, hb⟩ := hs
    exact ⟨iv, e, own_blk (β := Unit) N _ () X Y row hb hg hr⟩))
  case hIx => exact fun q => OwnFrom.and (own_pure _ _) (OwnFrom.and (ownFrom_below (Nat.le_refl _) hn2.size) (OwnFrom.and (OwnFrom.and (fun _ _ _ _ hs hg _ => Nat.lt_of_lt_of_le hs hg.size) (OwnFrom.and (own_blk _ _) (OwnFrom.and (own_blk _ _) (OwnFrom.and (own_blk _ _) (own_blk _ _))))) (fun s X Y row hs hg hr => by
    obtain ⟨iv, e, hb⟩ := hs
    exact ⟨iv, e, own_blk (β := Unit) N _ () X Y row hb hg hr⟩)))
  case assign =>
    intro i hi' U K hI hK
    generalize hk : (opX C l)[i] = k
    simp only [roomE]
    simp only [List.zip_toArray, List.zip_cons_cons, List.zip_nil_right, List.foldl_toArray', List.foldl_cons, List.foldl_nil, List.setIfInBounds_toArray, List.set_cons_succ, List.set_cons_zero, List.size_toArray, List.length_cons, List.length_nil]
    gi_wp2
    exact hK _ _ (KeepsFrom.refl _ _) ⟨KeepS.refl _, KeepT.refl _⟩ hI ⟨k, by rw [List.getElem?_eq_getElem hi', hk], rfl⟩
  case body =>
    rintro i hi' a' U - ⟨hB, ⟨hNU, y1, y2, y3, y4⟩, iv, rfl, yN⟩ ⟨k, hk, rfl⟩
    obtain ⟨hf0, hkl⟩ := opX_at hi'
    rw [List.getElem?_eq_getElem hi'] at hk
    injection hk with hk
    rw [hk] at hkl
    have hk8 := (chkE_zero (fiE_ok hf0).2).1
    obtain ⟨q1, q2⟩ := rTop_at (l := l) (fiE_ok hf0).2 hkl
    obtain ⟨bw, ow, rfl, hwant⟩ := HU.out i (by rw [HXI.out]; exact hi')
    have hwv : (opI C l)[i]'(by rw [HXI.out]; exact hi') = (k : Int) := by
      unfold opI
      rw [List.getElem_map, hk]
    rw [hwv] at hwant
    have hwc := (New.keep (show New w U from hB)) hwant
    have KRK := Lib.hid (fun W n => by have := KR.out k W n; rw [q1, q2] at this; exact this : ∀ W, New w W → Calls Try.prog 7 #[.slice at0 l.length c, .int .i64 k] W fun e w' => e = .returned (.tuple #[.int .i64 (roofF l k), .bool true]) ∧ New W w')
    have z1 := (show Boxed U _ _ _ from y1).cell
    have z2' := (show Boxed U _ _ _ from y2).cell
    have z3 := (show Boxed U _ _ _ from y3).cell
    have zN := yN.cell
    have zF := yN.frozen
    have HB : Hid (New w U) := hB
    have HY := Lib.hid (And.intro y1 (And.intro y2 (And.intro y3 y4)))
    clear hwant hwv q1 q2 hf0 hk hB y1 y2 y3 y4
    generalize roofF l k = top at *
    generalize hm : (opX C l).length = m at *
    have hw1 : IntKind.i64.wrap ((i : Int) + 1) = (i : Int) + 1 := by rw [IntWalk.i64_in _ (by omega)]
    by_cases hv : (i : Int) + 1 = leave
    · have hd : ((i : Int) + 1 == leave) = true := by rw [beq_iff_eq]; exact hv
      have HV := Lib.hid hv
      clear hv
      gi_wp2_with (refine ⟨trivial, ?_⟩; gi_at_call 7; refine (callsIn_in (KRK.out _ HB.out)).mono ?_; rintro e U2 ⟨rfl, n3⟩; replace z3 := n3.keep z3; have zF2 := n3.keepF zN zF; replace zN := n3.keep zN)
      have HY2 := HY.out
      have yN2 : Boxed U2 N 3 (.int .i64 i) := New.stays n3 yN
      obtain ⟨rk1, rk2⟩ := round_keeps (B := V1.heap.size) (.int .i64 ((i : Int) + 1)) yN n3 hSN
      have rb := Below.setCell (p := ⟨N, 0, none⟩) (HB.out.trans n3) (show w.heap.size ≤ N by omega) (.int .i64 ((i : Int) + 1))
      have st : ∀ (b : Nat) (o : Obj), b < N → U.heap[b]? = some o → (U2.setCell ⟨N, 0, none⟩ (.int .i64 ((i : Int) + 1))).heap[b]? = some o := fun b o hb h => by
        rw [Below.heap_setCell _ _ _ _ (show b ≠ N by omega)]
        exact New.stays n3 h
      have sz : N < (U2.setCell ⟨N, 0, none⟩ (.int .i64 ((i : Int) + 1))).heap.size := by simp; exact Nat.lt_of_lt_of_le hNU n3.size
      exact ⟨rk1, ⟨rfl, by rw [← HV.out]; push_cast; rfl⟩, rb, ⟨sz, st _ _ (by omega) HY2.1, st _ _ (by omega) HY2.2.1, st _ _ (by omega) HY2.2.2.1, st _ _ (by omega) HY2.2.2.2⟩, _, by push_cast; rfl, yN2.set _⟩
    · have hd : ((i : Int) + 1 == leave) = false := by rw [beq_eq_false_iff_ne]; exact hv
      clear hv
      gi_wp2_with (refine ⟨trivial, ?_⟩; gi_at_call 7; refine (callsIn_in (KRK.out _ HB.out)).mono ?_; rintro e U2 ⟨rfl, n3⟩; replace z3 := n3.keep z3; have zF2 := n3.keepF zN zF; replace zN := n3.keep zN)
      have HY2 := HY.out
      have yN2 : Boxed U2 N 3 (.int .i64 i) := New.stays n3 yN
      obtain ⟨rk1, rk2⟩ := round_keeps (B := V1.heap.size) (.int .i64 ((i : Int) + 1)) yN n3 hSN
      have rb := Below.setCell (p := ⟨N, 0, none⟩) (HB.out.trans n3) (show w.heap.size ≤ N by omega) (.int .i64 ((i : Int) + 1))
      have st : ∀ (b : Nat) (o : Obj), b < N → U.heap[b]? = some o → (U2.setCell ⟨N, 0, none⟩ (.int .i64 ((i : Int) + 1))).heap[b]? = some o := fun b o hb h => by
        rw [Below.heap_setCell _ _ _ _ (show b ≠ N by omega)]
        exact New.stays n3 h
      have sz : N < (U2.setCell ⟨N, 0, none⟩ (.int .i64 ((i : Int) + 1))).heap.size := by simp; exact Nat.lt_of_lt_of_le hNU n3.size
      exact ⟨rk1, rk2, rb, ⟨sz, st _ _ (by omega) HY2.1, st _ _ (by omega) HY2.2.1, st _ _ (by omega) HY2.2.2.1, st _ _ (by omega) HY2.2.2.2⟩, _, by push_cast; rfl, yN2.set _⟩
  case done =>
    rintro U ⟨hB, ⟨hNU, y1, y2, y3, y4⟩, iv, rfl, yN⟩ hD
    have z2' := (show Boxed U _ _ _ from y2).cell
    have z3 := (show Boxed U _ _ _ from y3).cell
    have z4 := (show Boxed U _ _ _ from y4).cell
    have f4 := (show Boxed U _ _ _ from y4).frozen
    have zN := yN.cell
    generalize hm : (opX C l).length = m at *
    have hd : ((m : Int) == (m : Int)) = true := by simp
    go_wp2_with fail
    exact goes_leaves rfl y4 (by omega) hB hD (by omega)
  case stop =>
    rintro i q U hi0 hi1 ⟨⟨rfl, hv⟩, hB, ⟨hNU, y1, y2, y3, y4⟩, iv, rfl, yN⟩ hD
    have z2' := (show Boxed U _ _ _ from y2).cell
    have z3 := (show Boxed U _ _ _ from y3).cell
    have z4 := (show Boxed U _ _ _ from y4).cell
    have f4 := (show Boxed U _ _ _ from y4).frozen
    have zN := yN.cell
    generalize hm : (opX C l).length = m at *
    have hd2 : ((i : Int) == leave) = true := by rw [beq_iff_eq]; exact hv
    have HV := Lib.hid hv
    clear hv
    refine wpIn_wide.2 ?_
    cases hd : ((i : Int) == (m : Int))
    · go_wp2_with fail
      exact goes_leaves rfl y4 (by omega) hB hD (by omega)
    · go_wp2_with fail
      exact goes_leaves rfl y4 (by omega) hB hD (by omega)

end Go.Proofs.Ytajigioibkhhmaa
