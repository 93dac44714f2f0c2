import Derived.Test.YtklopjbpfddgfaaFiDZ11

/- Package filter: what goes over the spans that are open, as a contract by places: an iterator that itself ranges over the rooms. -/
namespace Go.Proofs.Ytklopjbpfddgfaa
open Go.RowKit Go.Shelf Go.Sort
set_option linter.unusedVariables false
attribute [local go_sem] Oper.semAt_some

/-- Is the k-th span open? -/
def opnB (C : CfgR) (l : List Sn) (k : Nat) : Bool := match l[k]? with
  | some s => s.wk && decide (C.ht ≤ wrap64 (roofF l k - s.hi))
  | none => false
theorem opnB_at (C : CfgR) {l : List Sn} {k : Nat} (h : k < l.length) : opnB C l k = (l[k].wk && decide (C.ht ≤ wrap64 (roofF l k - l[k].hi))) := by unfold opnB; rw [List.getElem?_eq_getElem h]
/-- The places of the spans that are open. -/
def opL (C : CfgR) (l : List Sn) : List Nat := (List.range l.length).filter (opnB C l)
/-- How many of the first i spans are open. -/
def opN (C : CfgR) (l : List Sn) (i : Nat) : Nat := ((List.range i).filter (opnB C l)).length
theorem opN_zero (C : CfgR) (l : List Sn) : opN C l 0 = 0 := rfl
theorem opN_succ (C : CfgR) (l : List Sn) (i : Nat) : opN C l (i + 1) = if opnB C l i = true then opN C l i + 1 else opN C l i := by
  unfold opN
  rw [List.range_succ, List.filter_append, List.length_append]
  cases h : opnB C l i <;> simp [h]
theorem opN_all (C : CfgR) (l : List Sn) : opN C l l.length = (opL C l).length := rfl
theorem opN_mono (C : CfgR) (l : List Sn) {i j : Nat} (h : i ≤ j) : opN C l i ≤ opN C l j := by
  induction h with
  | refl => exact Nat.le_refl _
  | step h ih => rw [opN_succ]; split <;> omega
theorem opL_split (C : CfgR) (l : List Sn) {i : Nat} (h : i < l.length) (ho : opnB C l i = true) : ∃ r, opL C l = (List.range i).filter (opnB C l) ++ i :: r := by
  unfold opL
  have e : List.range l.length = List.range i ++ i :: ((List.range (l.length - i - 1)).map (i + 1 + ·)) := by
    have h1 : l.length = (i + 1) + (l.length - i - 1) := by omega
    conv => lhs; rw [h1, List.range_add, List.range_succ, List.append_assoc]
    rfl
  rw [e, List.filter_append, List.filter_cons, if_pos ho]
  exact ⟨_, rfl⟩
theorem opL_at (C : CfgR) (l : List Sn) {i : Nat} (h : i < l.length) (ho : opnB C l i = true) : ∃ h' : opN C l i < (opL C l).length, (opL C l)[opN C l i] = i := by
  obtain ⟨r, e⟩ := opL_split C l h ho
  have h1 : (opL C l)[opN C l i]? = some i := by
    rw [e]
    unfold opN
    rw [List.getElem?_append_right (Nat.le_refl _), Nat.sub_self]
    rfl
  obtain ⟨h2, h3⟩ := List.getElem?_eq_some_iff.1 h1
  exact ⟨h2, h3⟩

/-- These blocks lie as they lay. -/
def KeepS (S : List Nat) (W W' : World) : Prop := ∀ b ∈ S, W'.heap[b]? = W.heap[b]?
theorem KeepS.refl {S : List Nat} (W : World) : KeepS S W W := fun _ _ => rfl
theorem KeepS.trans {S : List Nat} {X Y Z : World} (h : KeepS S X Y) (k : KeepS S Y Z) : KeepS S X Z := fun b hb => (k b hb).trans (h b hb)
theorem KeepS.new {S : List Nat} {w W : World} (hS : ∀ b ∈ S, b < w.heap.size) (n : New w W) : KeepS S w W := fun b hb => n.block b (hS b hb)
theorem own_keepS {β : Type} {S : List Nat} {w : World} {D : Nat} (hS : ∀ b ∈ S, ∃ o : Obj, w.heap[b]? = some o ∧ o.isCells = true) : OwnFrom D (fun (_ : β) W => KeepS S w W) := fun _ X Y row hs hg hr b hb => by
  obtain ⟨o, ho, hc⟩ := hS b hb
  have hX : X.heap[b]? = some o := (hs b hb).trans ho
  refine (hg.block b (Array.getElem?_eq_some_iff.1 hX).1 (fun e' => ?_)).trans (hs b hb)
  obtain ⟨_, o', ho', hc'⟩ := hr b e'.symm
  rw [hX] at ho'; cases ho'; rw [hc] at hc'; cases hc'
theorem cells_of_cell {W : World} {a : Addr} {v : Value} (h : W.cell? a = some v) : ∃ o : Obj, W.heap[a.block]? = some o ∧ o.isCells = true := by
  unfold World.cell? at h
  cases ho : W.heap[a.block]? with
  | none => simp [ho] at h
  | some o => exact ⟨o, rfl, by cases o <;> simp_all [Obj.isCells]⟩
/-- All blocks of cells of these types lie as they lay. -/
def KeepT (W W' : World) : Prop := ∀ (b : Nat) (cs : Array Value) (t : TypeId) (fr : Nat × Nat), (t = 49 ∨ t = 86) → W.heap[b]? = some (Obj.cells cs t fr) → W'.heap[b]? = W.heap[b]?
theorem KeepT.refl (W : World) : KeepT W W := fun _ _ _ _ _ _ => rfl
theorem KeepT.trans {X Y Z : World} (h : KeepT X Y) (k : KeepT Y Z) : KeepT X Z := fun b cs t fr ht hb => (k b cs t fr ht ((h b cs t fr ht hb).trans hb)).trans (h b cs t fr ht hb)
theorem KeepT.put {W : World} {d : Nat} (o : Obj) (h : ∃ r, W.heap[d]? = some (.loop r)) : KeepT W (W.putObj d o) := fun b cs t fr ht hb => World.putObj_heap_other (fun e => by subst e; obtain ⟨r, hr⟩ := h; rw [hb] at hr; cases hr)
def KeepO (S : List Nat) (W W' : World) : Prop := KeepS S W W' ∧ KeepT W W'

theorem RowBox.cells {w : World} {B : Nat} {at0 : Option Addr} {cap : Nat} {l : List Sn} (h : RowBox w B at0 cap l) : ∀ b ∈ [B, rowB l at0 B], ∃ o : Obj, w.heap[b]? = some o ∧ o.isCells = true := by
  intro b hb
  have hB : ∃ o : Obj, w.heap[B]? = some o ∧ o.isCells = true := ⟨_, h.box, rfl⟩
  rcases List.mem_cons.1 hb with rfl | hb
  · exact hB
  · rw [List.mem_singleton] at hb
    subst hb
    cases l with
    | nil => exact hB
    | cons x xs =>
      obtain ⟨b, off, rfl, hr⟩ := h.row (by simp)
      exact cells_of_cell (hr 0 (by simp) 0 (by rw [Sn.enc_len]; omega))

/-- What the iterator holds. -/
structure FEachAt (w : World) (C : CfgR) (Bo Bi Bc : Nat) (at0 : Option Addr) (cap : Nat) (l : List Sn) : Prop where
  own : RowBox w Bo at0 cap l
  fn : w.heap[Bi]? = some (.cells #[.func (.func 43) #[] #[.pointer (some ⟨Bo, 0, none⟩), .pointer (some ⟨Bc, 0, none⟩)]] 86 (0, 0))
  cfg : w.heap[Bc]? = some (.cells #[.int .i64 C.cl, .int .i64 C.cb, .int .i64 C.ht, .int .i64 C.ri, .int .i64 C.ru, .int .i64 C.wd, .int .i64 C.dp] 48 (0, 0))
def eachS (Bo Bi Bc : Nat) (at0 : Option Addr) (l : List Sn) : List Nat := [Bo, rowB l at0 Bo, Bi, Bc]
theorem FEachAt.keep {w W : World} {C : CfgR} {Bo Bi Bc : Nat} {at0 : Option Addr} {cap : Nat} {l : List Sn} (h : FEachAt w C Bo Bi Bc at0 cap l) (k : KeepS (eachS Bo Bi Bc at0 l) w W) : FEachAt W C Bo Bi Bc at0 cap l :=
  ⟨h.own.keep ⟨k _ (by simp [eachS]), k _ (by simp [eachS])⟩, (k _ (by simp [eachS])).trans h.fn, (k _ (by simp [eachS])).trans h.cfg⟩
theorem FEachAt.cells {w : World} {C : CfgR} {Bo Bi Bc : Nat} {at0 : Option Addr} {cap : Nat} {l : List Sn} (h : FEachAt w C Bo Bi Bc at0 cap l) : ∀ b ∈ eachS Bo Bi Bc at0 l, ∃ o : Obj, w.heap[b]? = some o ∧ o.isCells = true := by
  intro b hb
  simp only [eachS, List.mem_cons, List.not_mem_nil, or_false] at hb
  rcases hb with rfl | rfl | rfl | rfl
  · exact h.own.cells _ (by simp)
  · exact h.own.cells _ (by simp)
  · exact ⟨_, h.fn, rfl⟩
  · exact ⟨_, h.cfg, rfl⟩
theorem FEachAt.lt {w : World} {C : CfgR} {Bo Bi Bc : Nat} {at0 : Option Addr} {cap : Nat} {l : List Sn} (h : FEachAt w C Bo Bi Bc at0 cap l) : ∀ b ∈ eachS Bo Bi Bc at0 l, b < w.heap.size := fun b hb => by
  obtain ⟨o, ho, -⟩ := h.cells b hb
  exact (Array.getElem?_eq_some_iff.1 ho).1
theorem cfg_cells {w : World} {C : CfgR} {B : Nat} {t : TypeId} (h : w.heap[B]? = some (.cells #[.int .i64 C.cl, .int .i64 C.cb, .int .i64 C.ht, .int .i64 C.ri, .int .i64 C.ru, .int .i64 C.wd, .int .i64 C.dp] t (0, 0))) : CellsAt w B 0 C.enc := fun i hi => by
  rw [Nat.zero_add]
  exact cell_of_heap h (by
    have : i < 7 := hi
    rcases (show i = 0 ∨ i = 1 ∨ i = 2 ∨ i = 3 ∨ i = 4 ∨ i = 5 ∨ i = 6 by omega) with rfl | rfl | rfl | rfl | rfl | rfl | rfl <;> rfl)

theorem roundIn_wide {n m : Nat} {P : Program} {l : Nat} {f : FuncId} {tmps : Array Value} {assign body : Code} {w : World} {R : Ending → World → Prop} (h : RoundIn Fence.wide n P l f tmps assign body w R) : RoundIn Fence.wide m P l f tmps assign body w R :=
  ⟨h.1, fun c cs _ => h.2 c cs (room_wide _)⟩

theorem rowB_two (l : List Sn) (at0 : Option Addr) (B B' : Nat) : rowB l at0 B = B ∨ rowB l at0 B = rowB l at0 B' := by
  cases l with
  | nil => exact .inl rfl
  | cons x xs => cases at0 with
    | none => exact .inl rfl
    | some a => exact .inr rfl
theorem roundIn_in {n m l' : Nat} {P : Program} {l : Nat} {f : FuncId} {tmps : Array Value} {assign body : Code} {w : World} {R : Ending → World → Prop} (h : RoundIn Fence.wide n P l f tmps assign body w R) : RoundIn (Fence.wide.inRound l') m P l f tmps assign body w R :=
  ⟨h.1, fun c cs _ => h.2 c cs (room_wide _)⟩
theorem callsIn_in {m l' : Nat} {P : Program} {f : FuncId} {args : Array Value} {w : World} {R : Ending → World → Prop} (h : Calls P f args w R) : CallsIn (Fence.wide.inRound l') m P f args w R :=
  (callsIn_wide (n := m)).2 h
theorem grown_new {w w' : World} (h : New w w') : w.grownBy w' none := ⟨h.os, h.tape, h.output, h.size, fun k hk _ => h.block k hk⟩
theorem keepsFrom_new {B : Nat} {w w' : World} (h : New w w') : KeepsFrom B w w' := ⟨h.size, fun k o _ h0 _ => (h.block k (Array.getElem?_eq_some_iff.1 h0).1).trans h0⟩
theorem own_over {β : Type} {B : Nat} {J : β → World → Prop} (h : OwnFrom B J) {s : β} {w w' : World} (hs : J s w) (n : New w w') : J s w' := h s w w' none hs (grown_new n) (fun r e => by cases e)
theorem own_up {β γ : Type} {B B' : Nat} {J : β → World → Prop} (f : γ → β) (h : OwnFrom B J) (hB : B ≤ B') : OwnFrom B' (fun (s : γ) W => J (f s) W) := fun s X Y row hs hg hr => h (f s) X Y row hs hg (fun r e => ⟨Nat.le_trans hB (hr r e).1, (hr r e).2⟩)

set_option maxHeartbeats 4000000 in
set_option maxRecDepth 100000 in
theorem fi_each3 (C : CfgR) (at0 : Option Addr) (l : List Sn) (cap Bo Bi Bc : Nat) (hl : l.length ≤ 1000) (n : Nat) (hn : 4 ≤ n) (w : World) (H : FEachAt w C Bo Bi Bc at0 cap l) :
    SeqL Fence.wide n Try.prog 45 #[.pointer (some ⟨Bo, 0, none⟩), .pointer (some ⟨Bi, 0, none⟩)] (roomE l) (opL C l) (KeepO (eachS Bo Bi Bc at0 l)) w := by
  intro lp J Jx W hW hJ hJx hY h0
  have E0 : FEachAt W C Bo Bi Bc at0 cap l := H.keep (KeepS.new H.lt hW)
  clear H hW
  simp only [List.append_toArray, List.cons_append, List.nil_append]
  refine callsIn_of_wp_marks Try.func45 rfl trivial ?_ rfl
  simp only [Try.ntmps45, List.size_toArray, List.length_cons, List.length_nil, Nat.reduceAdd, Nat.reduceSub, Array.replicate_succ, Array.replicate_zero, List.push_toArray, List.append_toArray, List.nil_append, List.cons_append]
  refine wpIn_wide.2 ?_
  have HY := Lib.hid hY
  have HJ := Lib.hid hJ
  have HJx := Lib.hid hJx
  have H0 : Hid (J 0 W) := h0
  have HE0 := Lib.hid E0
  clear hY hJ hJx h0 E0
  go_upto_region 1 with fail
  refine Code.at (fun V1 hV => ?_)
  have n1 : New W V1 := by subst hV; (repeat (first | (with_reducible exact New.refl _) | (with_reducible assumption) | ((with_reducible refine New.setB ?_ ?_ _); focus (first | omega | (simp; omega) | (simp; done))) | (with_reducible refine New.alloc ?_ _) | (with_reducible refine New.drew ?_) | (with_reducible refine New.drewN ?_ _) | (with_reducible refine New.hat ?_ _) | ((with_reducible apply New.snart); (with_reducible assumption))))
  have z1 : V1.heap.size = W.heap.size + 1 := by subst hV; simp
  have y1 : V1.heap[W.heap.size]? = some (.cells #[.func (.yield lp) #[] #[]] 86 (0, 0)) := by subst hV; exact World.alloc_heap_new _ _
  have J1 : J 0 V1 := by subst hV; exact HJ.out.alloc _ H0.out
  clear hV
  have E1 := HE0.out.keep (KeepS.new HE0.out.lt n1)
  have c0 := E1.own.cell
  go_wp2_with fail
  refine (callsIn_wide.1 (fi_rooms at0 l.length cap 4 _)).mono ?_
  rintro e V2 ⟨rfl, hV⟩
  have n2 : New V1 V2 := by subst hV; (repeat (first | (with_reducible exact New.refl _) | (with_reducible assumption) | ((with_reducible refine New.setB ?_ ?_ _); focus (first | omega | (simp; omega) | (simp; done))) | (with_reducible refine New.alloc ?_ _) | (with_reducible refine New.drew ?_) | (with_reducible refine New.drewN ?_ _) | (with_reducible refine New.hat ?_ _) | ((with_reducible apply New.snart); (with_reducible assumption))))
  have z2 : V2.heap.size = W.heap.size + 1 + 1 := by subst hV; simp [z1]
  have x2 : V2.heap[W.heap.size + 1]? = some (.cells #[.slice at0 l.length cap] 49 (0, 0)) := by rw [← z1]; subst hV; exact World.alloc_heap_new _ _
  have y2 := New.stays n2 y1
  have J2 : J 0 V2 := by subst hV; exact HJ.out.alloc _ J1
  rw [z1]
  clear hV
  have E2 := E1.keep (KeepS.new E1.lt n2)
  have hn2 : New W V2 := n1.trans n2
  clear c0 E1 n1 n2 z1 y1 J1
  have RB : RowBox V2 (W.heap.size + 1) at0 cap l := ⟨x2, E2.own.row⟩
  go_wp2_with fail
  refine (wpIn_wide (n := n)).1 ?_
  have hlt := RB.lt
  have hrl := RB.row_lt
  have h2s := hn2.size
  have hS : ∀ b ∈ W.heap.size :: (W.heap.size + 1) :: eachS Bo Bi Bc at0 l, ∃ o : Obj, V2.heap[b]? = some o ∧ o.isCells = true := by
    intro b hb
    rcases List.mem_cons.1 hb with rfl | hb
    · exact ⟨_, y2, rfl⟩
    · rcases List.mem_cons.1 hb with rfl | hb
      · exact ⟨_, x2, rfl⟩
      · exact E2.cells b hb
  refine wpIn_rangeL rfl (by omega) (gf := 49) (lb := #[.pointer (some ⟨W.heap.size + 1, 0, none⟩)]) rfl trivial (enters_of Try.func49 (by kernel_rfl) rfl)
    (fi_rooms1 at0 l cap (W.heap.size + 1) hl (n - 1) (by omega) V2 RB) (fun h k => h.trans k) (fun V o _ => ⟨World.putObj_heap_other (by omega), World.putObj_heap_other (by omega)⟩) (Below.refl _ _) (fun _ => rfl)
    (fun i V => J (opN C l i) V ∧ KeepS (W.heap.size :: (W.heap.size + 1) :: eachS Bo Bi Bc at0 l) V2 V)
    (fun q i V => q = Code.ret ∧ ∃ j, (0 < j ∧ j ≤ (opL C l).length) ∧ Jx j V)
    (OwnFrom.and (own_up (opN C l) HJ.out h2s) (own_keepS hS))
    (fun q => OwnFrom.and (own_pure _ _) (fun s X Y row hs hg hr => by
      obtain ⟨j, hj, hs⟩ := hs
      exact ⟨j, hj, HJx.out j X Y row hs hg (fun r e => ⟨Nat.le_trans h2s (hr r e).1, (hr r e).2⟩)⟩))
    ⟨J2, KeepS.refl _⟩
    (fun i a' _ => a' = { tmps := #[.func (.yield lp) #[] #[], .pointer (some ⟨Bo, 0, none⟩), .pointer (some ⟨Bi, 0, none⟩), .pointer (some ⟨W.heap.size, 0, none⟩), .int .i64 (i : Nat), .int .i64 (roofF l i), .slice at0 l.length cap, .func (.func 49) #[] #[.pointer (some ⟨W.heap.size + 1, 0, none⟩)], .int .i64 (i : Nat), .int .i64 (roofF l i), undef, undef, undef, undef, undef, undef, undef, undef, undef, undef, undef], defers := [] })
    (fun i a' => fun _ _ _ _ hs _ _ => hs) ?assign ?body ?done ?stop
  case assign =>
    intro i hi V K hI hK
    simp only [roomE, List.getElem_range]
    simp only [List.zip_toArray, List.zip_cons_cons, List.zip_nil_right, List.foldl_toArray', List.foldl_cons, List.foldl_nil, List.setIfInBounds_toArray, List.set_cons_succ, List.set_cons_zero, List.size_toArray, List.length_cons, List.length_nil]
    gi_wp2
    exact hK _ _ (KeepsFrom.refl _ _) (Keep2.refl _) hI rfl
  case body =>
    rintro i hi a' V - ⟨hJ1, hK⟩ rfl
    have hil : i < l.length := by simpa using hi
    have hn1 : 1 ≤ n - 1 - 1 := by omega
    have hn2' : 1 ≤ n - 1 - 1 - 1 := by omega
    have E := E2.keep (fun b hb => hK b (List.mem_cons_of_mem _ (List.mem_cons_of_mem _ hb)))
    have yc := (show Boxed V _ _ _ from (hK W.heap.size (by simp)).trans y2).cell
    have bc := (show Boxed V _ _ _ from E.fn).cell
    have ko := fi_isOpen C at0 l cap Bo Bc i hil hl (roofF l i) V E.own (cfg_cells E.cfg)
    rw [← opnB_at C hil] at ko
    have hV : ∀ b ∈ W.heap.size :: (W.heap.size + 1) :: eachS Bo Bi Bc at0 l, b < V.heap.size := fun b hb => by
      obtain ⟨o, ho, -⟩ := hS b hb
      exact (Array.getElem?_eq_some_iff.1 ((hK b hb).trans ho)).1
    have hK2 : ∀ V', KeepS (W.heap.size :: (W.heap.size + 1) :: eachS Bo Bi Bc at0 l) V V' → Keep2 (W.heap.size + 1) (rowB l at0 (W.heap.size + 1)) V V' := fun V' h => by
      refine ⟨h _ (by simp), ?_⟩
      rcases rowB_two l at0 (W.heap.size + 1) Bo with e | e
      · rw [e]; exact h _ (by simp)
      · rw [e]; exact h _ (by simp [eachS])
    have HVV := Lib.hid hV
    have HK2 := Lib.hid hK2
    have HKK := Lib.hid hK
    have HJ1 : Hid (J (opN C l i) V) := hJ1
    have hsz := opN_succ C l i
    clear hJ1 hK hV hK2 H0 HE0
    cases ho : opnB C l i
    · rw [ho] at ko hsz
      have KO := Lib.hid ko
      have HSZ := Lib.hid hsz
      clear ko hsz ho
      gi_wp2_with (refine ⟨trivial, ?_⟩; gi_at_call 43; refine (callsIn_in KO.out).mono ?_; rintro e V3 ⟨rfl, n3⟩)
      refine ⟨fun _ h => (by cases h), ?_⟩
      gi_wp2_with fail
      have k3 := KeepS.new HVV.out n3
      refine ⟨keepsFrom_new n3, HK2.out _ k3, ?_, HKK.out.trans k3⟩
      rw [HSZ.out]
      exact own_over HJ.out HJ1.out n3
    · obtain ⟨hj, hje⟩ := opL_at C l hil ho
      rw [ho] at ko hsz
      have hyall := fun V3 q => HY.out (opN C l i) hj V3 q
      rw [hje] at hyall
      unfold roomE at hyall
      have KO := Lib.hid ko
      have HSZ := Lib.hid hsz
      have HYA := Lib.hid hyall
      have HJE := Lib.hid hj
      clear ko hsz ho hyall hje hj
      gi_wp2_with (refine ⟨trivial, ?_⟩; gi_at_call 43; refine (callsIn_in KO.out).mono ?_; rintro e V3 ⟨rfl, n3⟩; replace yc := n3.keep yc; (obtain ⟨fn, tmps, assign, body, hy, hR⟩ := HYA.out V3 (own_over HJ.out HJ1.out n3)))
      refine (roundIn_in hR).mono ?_
      clear hy hR
      rintro e V4 (⟨rfl, kf, ko, hJ4⟩ | ⟨rfl, kf, hJ4⟩)
      · have k3 := KeepS.new HVV.out n3
        have y3 := (k3 W.heap.size (by simp)).trans ((HKK.out W.heap.size (by simp)).trans y2)
        have r3 := (k3 (W.heap.size + 1) (by simp)).trans ((HKK.out (W.heap.size + 1) (by simp)).trans x2)
        have k4 : KeepS (W.heap.size :: (W.heap.size + 1) :: eachS Bo Bi Bc at0 l) V3 V4 := fun b hb => by
          rcases List.mem_cons.1 hb with rfl | hb
          · exact ko.2 _ _ _ _ (.inr rfl) y3
          · rcases List.mem_cons.1 hb with rfl | hb
            · exact ko.2 _ _ _ _ (.inl rfl) r3
            · exact ko.1 b hb
        have HJ4 := Lib.hid hJ4
        have HF := Lib.hid ((keepsFrom_new n3 : KeepsFrom V2.heap.size V V3).trans (keepsFrom_up kf h2s))
        have HK4 := Lib.hid (k3.trans k4)
        clear hJ4 kf ko k3 k4 y3 r3
        gi_wp2_with fail
        exact ⟨HF.out, HK2.out _ HK4.out, by rw [HSZ.out]; exact HJ4.out, HKK.out.trans HK4.out⟩
      · have HJ4 : Hid (∃ j, (0 < j ∧ j ≤ (opL C l).length) ∧ Jx j V4) := Lib.hid ⟨_, ⟨by omega, HJE.out⟩, hJ4⟩
        have HF := Lib.hid ((keepsFrom_new n3 : KeepsFrom V2.heap.size V V3).trans (keepsFrom_up kf h2s))
        clear hJ4 kf
        gi_wp2_with fail
        exact ⟨HF.out, rfl, HJ4.out⟩
  case done =>
    rintro V ⟨hJ1, hK⟩ hD
    rw [List.length_range] at hJ1
    have HJ1 : Hid (J (opL C l).length V) := hJ1
    clear hJ1
    go_wp2_with fail
    refine ret_mark hD fun U hU hk => ⟨_, results_none rfl _ _ _, ⟨_, rfl⟩, .inl ?_⟩
    rw [hU]
    exact HJ.out.putObj _ HJ1.out h2s hD rfl
  case stop =>
    rintro i q V hi0 hi1 ⟨rfl, j, hj, hJ1⟩ hD
    refine wpIn_wide.2 ?_
    have HJ1 := Lib.hid hJ1
    clear hJ1
    go_wp2_with fail
    refine ret_mark hD fun U hU hk => ⟨_, results_none rfl _ _ _, ⟨_, rfl⟩, .inr ⟨j, hj.1, hj.2, ?_⟩⟩
    rw [hU]
    exact HJx.out.putObj _ HJ1.out h2s hD rfl

end Go.Proofs.Ytklopjbpfddgfaa
