/- Package cells: Cells of points that may be, walked. -/
import Derived.Test.YtmpkciidhopckaaCellsL
import Derived.Test.YtmpkciidhopckaaCellsK
import Derived.Test.YtmpkciidhopckaaSortK
namespace Go.Proofs.Ytmpkciidhopckaa
open Go.RowKit Go.Shelf Go.Sort
set_option linter.unusedVariables false
attribute [local go_sem] Oper.semAt_some

/-- The row v holds these columns. -/
def RowIs (w : World) (v : Value) (L : List Col) : Prop := (v = .slice none 0 0 ∧ L = []) ∨ ∃ g cap, v = .slice (some ⟨g, 0, none⟩) L.length cap ∧ L.length ≤ cap ∧ HoldsK Col.enc 6 w g 0 L.toArray
/-- In order. -/
def InOrder (L : List Col) : Prop := L.Pairwise (fun c d => colLt d c = false)

theorem cell_nine (n : Nat) (h : 2 ≤ n) : Go.Lib.swapperK n Try.t27 25 = 9 := by
  have h0 : (n == 0) = false := by rw [beq_eq_false_iff_ne]; omega
  have h1 : (n == 1) = false := by rw [beq_eq_false_iff_ne]; omega
  unfold Go.Lib.swapperK
  rw [h0, h1, if_neg (by simp), if_neg (by simp)]
  rfl

theorem perm_list {d d' : Array Col} (h : PermIn 0 d.size d d') : d'.toList.Perm d.toList := by
  have h3 := h.2.2
  have e1 : d.extract 0 d.size = d := by simp
  have e2 : d'.extract 0 d.size = d' := by rw [← h.1]; simp
  rwa [e1, e2] at h3
theorem order_list {d : Array Col} {n : Nat} (hn : n = d.size) (h : SortedIn colLt 0 n d) : InOrder d.toList := by
  subst hn
  unfold InOrder
  rw [List.pairwise_iff_getElem]
  intro i j hi hj hij
  have hi' : i < d.size := by simpa using hi
  have hj' : j < d.size := by simpa using hj
  have := h i j (Nat.zero_le _) hij hj'
  rw [getElem!_pos d j hj', getElem!_pos d i hi'] at this
  simpa using this

theorem c_sort (g cap Bl : Nat) (L : List Col) (hL : L.length ≤ 1156) (W : World) (hH : HoldsK Col.enc 6 W g 0 L.toArray) (hg : g < W.heap.size) (hc : W.cell? ⟨Bl, 0, none⟩ = some (.slice (some ⟨g, 0, none⟩) L.length cap)) (hne : Bl ≠ g) :
    Calls Try.prog 37 #[.iface 28 (.slice (some ⟨g, 0, none⟩) L.length cap), .func (.func 38) #[] #[.pointer (some ⟨Bl, 0, none⟩)]] W fun e w' =>
      e = .returned (.tuple #[]) ∧ But g W w' ∧ ∃ L' : List Col, L'.Perm L ∧ InOrder L' ∧ HoldsK Col.enc 6 w' g 0 L'.toArray := by
  have hsz : L.toArray.size = L.length := by simp
  have h := s_slice 28 27 Try.t28 Try.t27 (by kernel_rfl) (by kernel_rfl) (by kernel_rfl) (by kernel_rfl) 25 (fun _ => by kernel_rfl) cell_nine Col.enc 6 (fun _ => rfl) (by kernel_rfl) (fun _ => by kernel_rfl)
    (fun x v hv => by simp [Col.enc] at hv; rcases hv with rfl | rfl | rfl | rfl | rfl | rfl <;> rfl) colLt colLt_swo 38 #[.pointer (some ⟨Bl, 0, none⟩)] (enters_of Try.func38 (by kernel_rfl) rfl) g 0 cap L.toArray (by rw [hsz]; omega) W
    (fun W' d' hb hh hs i j hi hj => c_cmp Bl g cap L.length d' i j (by rw [hsz] at hi; exact hi) (by rw [hsz] at hj; exact hj) (by rw [hs, hsz]) (by omega) W' (hb.keep hc hne) hh) hH hg
  rw [hsz] at h
  refine h.mono ?_
  rintro e w' ⟨rfl, p, d', ⟨q1, q2⟩, r⟩
  have q1' : PermIn 0 L.toArray.size L.toArray d' := by rw [hsz]; exact q1
  exact ⟨rfl, p, d'.toList, by simpa using perm_list q1', order_list (by rw [q1.1, hsz]) q2, by simpa using r⟩

theorem c_sort_nil (Bl : Nat) (W : World) :
    Calls Try.prog 37 #[.iface 28 (.slice none 0 0), .func (.func 38) #[] #[.pointer (some ⟨Bl, 0, none⟩)]] W fun e w' => e = .returned (.tuple #[]) ∧ New W w' := by
  refine (Go.Proofs.Any.sort_Slice_tiny (P := Try.prog) (ρ := laysSort_ren) laysSort 28 27 Try.t28 Try.t27 (by kernel_rfl) (by kernel_rfl) (by kernel_rfl) (by kernel_rfl) 25 (fun _ => by kernel_rfl) none 0 0 (by omega) 77
    (by kernel_rfl) (.func 38) #[] #[.pointer (some ⟨Bl, 0, none⟩)] W).mono ?_
  rintro e w' ⟨rfl, os, rfl⟩
  refine ⟨rfl, rfl, rfl, rfl, ?_, fun k hk => ?_⟩
  · show W.heap.size ≤ (W.heap ++ os).size
    rw [Array.size_append]; omega
  · show (W.heap ++ os)[k]? = _
    rw [Array.getElem?_append_left hk]

theorem holdsK_same {enc : Col → List Value} {k blk off : Nat} {d : Array Col} {a w : World} (h : HoldsK enc k a blk off d) (hb : w.heap[blk]? = a.heap[blk]?) : HoldsK enc k w blk off d := fun j hj => by
  obtain ⟨p, q⟩ := h j hj
  exact ⟨(World.cell?_of_block (w := a) (a := ⟨blk, off + j, none⟩) hb).trans p, (World.frozen?_of_block (w := a) (a := ⟨blk, off + j, none⟩) hb).trans q⟩

set_option maxHeartbeats 4000000 in
set_option maxRecDepth 100000 in
theorem c_cells_yes (ax az bx bz : Nat) (ha : ax ≤ 64 ∧ az ≤ 64) (hb : bx ≤ 64 ∧ bz ≤ 64) (w : World) :
    CallsIn Fence.wide 5 Try.prog 10 #[.agg #[.int .i64 ax, .int .i64 az], .agg #[.int .i64 bx, .int .i64 bz]] w fun e w' =>
      ∃ v L, e = .returned (.tuple #[v, .int .i64 0]) ∧ RowIs w' v L ∧ L.Perm (metL ax az bx bz) ∧ InOrder L ∧ New w w' := by
  obtain ⟨i0, hi, hz0, hz1, hz2⟩ := info_parts cell_info
  have h1 := fun w => c_point ax az w
  have h2 := fun w => c_point bx bz w
  have e1 : ptB ax az = true := ptB_iff.2 (by omega)
  have e2 : ptB bx bz = true := ptB_iff.2 (by omega)
  simp only [e1] at h1
  simp only [e2] at h2
  refine callsIn_of_wp_marks Try.func10 rfl trivial ?_ rfl
  simp only [Try.ntmps10, List.size_toArray, List.length_cons, List.length_nil, Nat.reduceAdd, Nat.reduceSub, Array.replicate_succ, Array.replicate_zero, List.push_toArray, List.append_toArray, List.nil_append, List.cons_append]
  gi_wp2_with fail
  generalize hW : World.alloc _ _ = W
  have a0 : W.cell? ⟨w.heap.size, 0, none⟩ = some (.int .i64 ax) := by subst hW; go_simp
  have a1 : W.cell? ⟨w.heap.size, 1, none⟩ = some (.int .i64 az) := by subst hW; go_simp
  have b0 : W.cell? ⟨w.heap.size + 1, 0, none⟩ = some (.int .i64 bx) := by subst hW; go_simp
  have b1 : W.cell? ⟨w.heap.size + 1, 1, none⟩ = some (.int .i64 bz) := by subst hW; go_simp
  have hn : New w W := by subst hW; (repeat (first | (with_reducible exact New.refl _) | (with_reducible assumption) | ((with_reducible refine New.setB ?_ ?_ _); focus (first | omega | (simp; omega) | (simp; done))) | (with_reducible refine New.alloc ?_ _) | (with_reducible refine New.drew ?_) | (with_reducible refine New.drewN ?_ _) | (with_reducible refine New.hat ?_ _) | ((with_reducible apply New.snart); (with_reducible assumption))))
  clear hW
  refine ⟨trivial, ?_⟩
  refine (callsIn_wide.2 (h1 _)).mono ?_
  rintro e w1 ⟨rfl, n1⟩
  ((replace a0 := n1.keep a0); (replace a1 := n1.keep a1); (replace b0 := n1.keep b0); (replace b1 := n1.keep b1))
  gi_wp2_with fail
  refine ⟨trivial, ?_⟩
  refine (callsIn_wide.2 (h2 _)).mono ?_
  rintro e w2 ⟨rfl, n2⟩
  ((replace a0 := n2.keep a0); (replace a1 := n2.keep a1); (replace b0 := n2.keep b0); (replace b1 := n2.keep b1))
  have hn2 := (hn.trans n1).trans n2
  have hlt : w.heap.size + 1 < w2.heap.size := World.block_lt_of_cell? _ _ b0
  have hlt0 : w.heap.size < w2.heap.size := by omega
  clear hn n1 n2 h1 h2
  gi_wp2_with (refine ⟨trivial, ?_⟩; gi_at_call 36; refine (c_met _ _ _ _ _ _).mono ?_; rintro e w' ⟨rfl, rfl⟩)
  obtain ⟨W0, hW0⟩ : ∃ W0, W0 = ((w2.alloc (.cells #[.slice none 0 0] 28)).alloc (.cells #[.int .i64 ax, .int .i64 az] 23)).alloc (.cells #[.int .i64 bx, .int .i64 bz] 23) := ⟨_, rfl⟩
  have hs0 : W0.heap.size = w2.heap.size + 1 + 1 + 1 := by subst hW0; simp
  have bO : Boxed W0 w2.heap.size 28 (.slice none 0 0) := by subst hW0; exact ((Boxed.new w2 _ _).alloc _).alloc _
  have bA : W0.heap[w2.heap.size + 1]? = some (.cells #[.int .i64 ax, .int .i64 az] 23 (0, 0)) := by
    subst hW0
    have h := World.alloc_heap_new (w2.alloc (.cells #[.slice none 0 0] 28)) (.cells #[.int .i64 ax, .int .i64 az] 23)
    rw [World.size_alloc] at h
    exact (Below.heap_alloc _ _ _ (by simp)).trans h
  have bB : W0.heap[w2.heap.size + 1 + 1]? = some (.cells #[.int .i64 bx, .int .i64 bz] 23 (0, 0)) := by
    subst hW0
    have h := World.alloc_heap_new ((w2.alloc (.cells #[.slice none 0 0] 28)).alloc (.cells #[.int .i64 ax, .int .i64 az] 23)) (.cells #[.int .i64 bx, .int .i64 bz] 23)
    rw [World.size_alloc, World.size_alloc] at h
    exact h
  have hn0 : Below w.heap.size w W0 := by subst hW0; exact ((hn2.alloc _).alloc _).alloc _
  rw [← hW0]
  clear hW0
  have hsz2 := hn2.size
  refine wpIn_rangeFunc_ownH rfl (by omega) (gf := 58) (lb := #[.pointer (some ⟨w2.heap.size + 1, 0, none⟩), .pointer (some ⟨w2.heap.size + 1 + 1, 0, none⟩)]) rfl trivial (enters_of Try.func58 (by kernel_rfl) rfl)
    (c_stops ax az bx bz ha hb 4 (by omega) (w2.heap.size + 1) (w2.heap.size + 1 + 1) W0 (by omega) (by omega) (cell_of_heap bA rfl) (cell_of_heap bA rfl) (cell_of_heap bB rfl) (cell_of_heap bB rfl))
    (fun h k => ⟨k.1.trans h.1, k.2.trans h.2⟩) (fun W l o o' hl _ _ _ => ⟨World.putObj_heap_other (by omega), World.putObj_heap_other (by omega)⟩) (Below.refl _ _) (fun _ => rfl)
    (fun pre W => ((∃ v, Boxed W w2.heap.size 28 v ∧ W.ownsRow w.heap.size 27 6 v pre.length (pre.flatMap Col.enc) ∧ True) ∧ Below w.heap.size w W) ∧ (W.heap[w2.heap.size + 1]? = some (.cells #[.int .i64 ax, .int .i64 az] 23 (0, 0)) ∧ W.heap[w2.heap.size + 1 + 1]? = some (.cells #[.int .i64 bx, .int .i64 bz] 23 (0, 0))))
    (fun _ _ _ => False)
    (OwnFrom.and (OwnFrom.and (Own.from (holdsRow_own w.heap.size w2.heap.size 28 27 6 (fun (pre : List Col) => pre.length) (fun (pre : List Col) => pre.flatMap Col.enc) (fun _ _ => True)) _) (ownFrom_below (Nat.le_refl _) (by omega))) (OwnFrom.and (block_own _ _) (block_own _ _)))
    (fun _ _ _ _ _ hs _ _ => hs)
    ⟨⟨⟨_, bO, World.ownsRow_nil _ _ _ _, trivial⟩, hn0⟩, bA, bB⟩
    (AxOf (fun c Bx => #[.agg #[.int .i64 ax, .int .i64 az], .agg #[.int .i64 bx, .int .i64 bz], .pointer (some ⟨w.heap.size, 0, none⟩), .pointer (some ⟨w.heap.size + 1, 0, none⟩), .slice none 0 0, .int .i64 0,
      .pointer (some ⟨w2.heap.size, 0, none⟩), .pointer (some ⟨Bx, 0, none⟩), .agg #[.int .i64 ax, .int .i64 az], .bool true, .bool false, .bool false, .agg #[.int .i64 bx, .int .i64 bz], .bool true, .bool false, .bool false, .agg #[.int .i64 ax, .int .i64 az], .agg #[.int .i64 bx, .int .i64 bz],
      .func (.func 58) #[] #[.pointer (some ⟨w2.heap.size + 1, 0, none⟩), .pointer (some ⟨w2.heap.size + 1 + 1, 0, none⟩)], c.val, undef, undef, undef, undef, undef, undef, undef, undef, undef]))
    (fun x a' => axOf_own _ _ x a') ?assign ?body ?done ?stop
  case assign =>
    intro l pre c W K hi' hK
    obtain ⟨⟨⟨v, hv, hrow, _⟩, hB⟩, hA1, hA2⟩ := hi'
    simp only [Col.val]
    gi_wp2
    have l1 := (Array.getElem?_eq_some_iff.1 hA1).1
    have l2 := (Array.getElem?_eq_some_iff.1 hA2).1
    exact hK _ _ ((KeepsOthers.alloc _ _).from _) ⟨Below.heap_alloc _ _ _ l1, Below.heap_alloc _ _ _ l2⟩ ⟨⟨⟨v, hv.alloc _, hrow.alloc _, trivial⟩, hB.alloc hB.size _⟩, (Below.heap_alloc _ _ _ l1).trans hA1, (Below.heap_alloc _ _ _ l2).trans hA2⟩ ⟨W.heap.size, World.alloc_heap_new W _, rfl⟩
  case body =>
    rintro l pre c a' W hl ⟨r, hr⟩ ⟨⟨⟨v, hv, hrow, _⟩, hB⟩, hA1, hA2⟩ ⟨Bx, hBx, rfl⟩ hlt
    have hc := hv.cell
    have x0 := cell_of_heap (o := 0) hBx rfl
    have x1 := cell_of_heap (o := 1) hBx rfl
    have x2 := cell_of_heap (o := 2) hBx rfl
    have x3 := cell_of_heap (o := 3) hBx rfl
    have x4 := cell_of_heap (o := 4) hBx rfl
    have x5 := cell_of_heap (o := 5) hBx rfl
    have hBs := hB.size
    simp only [Col.val]
    gi_wp2_with (gi_at_builtin; refine wpListIn_append_own _ rfl _ _ 28 rfl w.heap.size 27 i0 (.agg #[.int .i64 0, .int .i64 0, .int .i64 0, .int .i64 0, .int .i64 0, .int .i64 0]) 6 48 Try.underlying28 hi hz0 hz1 hz2 rfl (by decide) _ _ _ rfl (hrow.alloc _) ⟨W.heap.size, 0, none⟩ 1 1 c.enc rfl rfl (cells_new6 _ _ _) (by intro u hu; simp [Col.enc] at hu; rcases hu with rfl | rfl | rfl | rfl | rfl | rfl <;> rfl) (by unfold maxLen; omega) (by omega) (by simp; omega) ?_; intro v' w1 hown' hgrow _; obtain ⟨g', cap', rfl⟩ := ownsRow_succ hown'; obtain ⟨hv1, hv2, hr2, hk2, hb2⟩ := hv.appended (by decide) hrow hB.size hsz2 hown' hgrow; have hc1 := hv1.cell; have hf1 := hv1.frozen)
    have t1 := stands (v' := .slice (some ⟨g', 0, none⟩) (pre.length + 1) cap') hA1 (by decide) hrow hgrow (show w2.heap.size + 1 ≠ w2.heap.size by omega)
    have t2 := stands (v' := .slice (some ⟨g', 0, none⟩) (pre.length + 1) cap') hA2 (by decide) hrow hgrow (show w2.heap.size + 1 + 1 ≠ w2.heap.size by omega)
    exact ⟨hk2.from _, ⟨t1.trans hA1.symm, t2.trans hA2.symm⟩, ⟨⟨_, hv2, by rw [List.flatMap_append, List.length_append]; simpa using hr2, trivial⟩, hB.trans hb2⟩, t1, t2⟩
  case done =>
    rintro D ys W hD rfl ⟨⟨⟨v, hv, hrow, _⟩, hB⟩, hA1, hA2⟩ hK
    have hc := hv.cell
    have hlen := metL_len ha hb
    rcases hrow.2 with ⟨rfl, h0⟩ | ⟨g, cap, cur, rfl, hbg, hgb, hcap, _⟩
    · have hnil : metL ax az bx bz = [] := List.eq_nil_of_length_eq_zero h0
      have hS := c_sort_nil w2.heap.size W
      gi_wp2_with (refine ⟨trivial, ?_⟩; gi_at_call 37; refine (callsIn_wide.2 hS).mono ?_; rintro e W5 ⟨rfl, p5⟩; have hc5 := p5.keep hc)
      have hK5 : W5.heap[D]? = some (.deferred (some [])) := (p5.block D (Array.getElem?_eq_some_iff.1 hK).1).trans hK
      refine ⟨by simp, .inl ⟨_, _, rfl, run_takeDeferred hK5, ?_⟩⟩
      have hn5 : New w W5 := New.trans hB p5
      exact ⟨_, results_tmp2 rfl _ _ _, _, [], rfl, Or.inl ⟨rfl, rfl⟩, by rw [hnil], List.Pairwise.nil, Go.RowKit.Below.trans hn5 (belowK_b (w := w) (Nat.le_refl _) W5 D _ _ (by omega) hK5 rfl rfl)⟩
    · have hg : g < W.heap.size := (Array.getElem?_eq_some_iff.1 hgb).1
      have hne : w2.heap.size ≠ g := by have := hv.not_row (by decide) hrow; simpa [Value.ownBlock] using this
      have hDg : D ≠ g := fun e => by rw [e, hgb] at hK; cases hK
      have hS := c_sort g cap w2.heap.size (metL ax az bx bz) hlen W (row_holds hrow rfl) hg hc hne
      gi_wp2_with (refine ⟨trivial, ?_⟩; gi_at_call 37; refine (callsIn_wide.2 hS).mono ?_; rintro e W5 ⟨rfl, p5, L, q1, q2, r5⟩; have hc5 := p5.keep hc hne)
      have hK5 : W5.heap[D]? = some (.deferred (some [])) := (p5.block D (Array.getElem?_eq_some_iff.1 hK).1 hDg).trans hK
      refine ⟨by simp, .inl ⟨_, _, rfl, run_takeDeferred hK5, ?_⟩⟩
      have hn5 : New w W5 := New.but hB p5 hbg
      have hll : (metL ax az bx bz).length = L.length := q1.length_eq.symm
      exact ⟨_, results_tmp2 rfl _ _ _, _, L, rfl, Or.inr ⟨g, cap, by rw [← hll]; rfl, by omega, holdsK_same r5 (World.putObj_heap_other (by omega))⟩, q1, q2, Go.RowKit.Below.trans hn5 (belowK_b (w := w) (Nat.le_refl _) W5 D _ _ (by omega) hK5 rfl rfl)⟩
  case stop =>
    rintro D c pre W _ _ h _
    exact h.elim

end Go.Proofs.Ytmpkciidhopckaa
