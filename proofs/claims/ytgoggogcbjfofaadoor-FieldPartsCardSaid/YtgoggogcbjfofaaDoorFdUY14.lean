import Derived.Test.YtgoggogcbjfofaaDoorSlAppY14
import Derived.Test.YtgoggogcbjfofaaDoorOgWY14
import Derived.Test.YtgoggogcbjfofaaDoorSoSY14
import Derived.Test.YtgoggogcbjfofaaDoorFdLY14
import Derived.Test.YtgoggogcbjfofaaDoorFdJY14

/- A grid while it is made, in a block of its own. No function of the program in sight. -/
namespace Go.Proofs.YtgoggogcbjfofaaDoor
open Go.RowKit
set_option linter.unusedVariables false

theorem fz_of {W : World} {B : Nat} {cs : Array Value} {t : TypeId} (h : W.heap[B]? = some (.cells cs t (0, 0))) (o : Nat) : W.frozen? ⟨B, o, none⟩ = false := by simp [World.frozen?, h]
/-- A grid that is made: in a block of its own. -/
structure GdAt (W : World) (B : Nat) (x z wi d : Int) (v : Value) : Prop where
  c0 : W.cell? ⟨B, 0, none⟩ = some (.int .i64 x)
  c1 : W.cell? ⟨B, 1, none⟩ = some (.int .i64 z)
  c2 : W.cell? ⟨B, 2, none⟩ = some (.int .i64 wi)
  c3 : W.cell? ⟨B, 3, none⟩ = some (.int .i64 d)
  c4 : W.cell? ⟨B, 4, none⟩ = some v
  fz : W.frozen? ⟨B, 4, none⟩ = false
theorem GdAt.new {W W' : World} {B : Nat} {x z wi d : Int} {v : Value} (h : GdAt W B x z wi d v) (n : New W W') : GdAt W' B x z wi d v :=
  ⟨n.keep h.c0, n.keep h.c1, n.keep h.c2, n.keep h.c3, n.keep h.c4, n.keepF h.c4 h.fz⟩
theorem GdAt.blk {W W' : World} {B : Nat} {x z wi d : Int} {v : Value} (h : GdAt W B x z wi d v) (n : W'.heap[B]? = W.heap[B]?) : GdAt W' B x z wi d v :=
  ⟨(World.cell?_of_block (a := ⟨B, 0, none⟩) n).trans h.c0, (World.cell?_of_block (a := ⟨B, 1, none⟩) n).trans h.c1, (World.cell?_of_block (a := ⟨B, 2, none⟩) n).trans h.c2, (World.cell?_of_block (a := ⟨B, 3, none⟩) n).trans h.c3, (World.cell?_of_block (a := ⟨B, 4, none⟩) n).trans h.c4, frozen_block n h.fz⟩
theorem GdAt.put {W : World} {B : Nat} {x z wi d : Int} {v : Value} (h : GdAt W B x z wi d v) (u : Value) : GdAt (W.setCell ⟨B, 4, none⟩ u) B x z wi d u := by
  have o : ∀ (i : Nat) (t : Value), i ≠ 4 → W.cell? ⟨B, i, none⟩ = some t → (W.setCell ⟨B, 4, none⟩ u).cell? ⟨B, i, none⟩ = some t := fun i t hi hc => by
    rw [World.cell?_setCell_other _ _ _ _ (by intro e; injection e with _ e2; omega)]; exact hc
  exact ⟨o 0 _ (by omega) h.c0, o 1 _ (by omega) h.c1, o 2 _ (by omega) h.c2, o 3 _ (by omega) h.c3, World.cell?_setCell_same _ _ _ h.c4, by rw [World.frozen?_setCell]; exact h.fz⟩


end Go.Proofs.YtgoggogcbjfofaaDoor

/- Layer 14: a grid that is made column by column; the laws' config and flat grid. -/
namespace Go.Proofs.YtgoggogcbjfofaaDoor
open Go.RowKit
set_option linter.unusedVariables false

theorem flr_info : (Tryd.prog.info? 44).map (fun i => (i.zero, i.size, i.bytes)) = some (some (.slice none 0 0), 1, 24) := by kernel_rfl
/-- A grid while it is made, in the block P: its columns so far. -/
structure Mk (W0 : World) (P : Nat) (x z wi d : Int) (wr : World) (ra : Option Addr) (rn rc : Nat) (us : List Value) (L : List (List Fl)) : Prop where
  gd : GdAt wr P x z wi d (.slice ra rn rc)
  ro : RowsOK Fl.enc 3 44 (P + 1) wr (.slice ra rn rc) us L
  ne : ∀ j (hj : j < L.length), 0 < L[j].length → ∀ u, us[j]? = some u → u.ownBlock ≠ some P
  sz : P + 1 ≤ wr.heap.size
  nw : New W0 wr
  lo : W0.heap.size ≤ P
variable {W0 wr w9 w4 : World} {P : Nat} {x z wi d : Int} {ra a' : Option Addr} {rn rc N' d' : Nat} {us : List Value} {L : List (List Fl)}
theorem Mk.new (h : Mk W0 P x z wi d wr ra rn rc us L) (n : New wr w9) : Mk W0 P x z wi d w9 ra rn rc us L :=
  ⟨h.gd.new n, h.ro.new n, h.ne, Nat.le_trans h.sz n.size, h.nw.trans n, h.lo⟩
theorem Mk.len (h : Mk W0 P x z wi d wr ra rn rc us L) : rn = L.length := by
  obtain ⟨a, c, e⟩ := h.ro.rows.shape
  injection e
theorem Mk.after (h : Mk W0 P x z wi d w9 ra rn rc us L) (hg : w9.grownBy w4 (Value.slice ra rn rc).ownBlock) : GdAt w4 P x z wi d (.slice ra rn rc) :=
  h.gd.blk (hg.block P (by have := h.sz; omega) (fun e => by have := (h.ro.own.lt P e.symm).1; omega))
theorem Mk.push (h : Mk W0 P x z wi d w9 ra rn rc us L) {u : Value} {l : List Fl} (hs : Sl Fl.enc 3 w9 u l) (hne : 0 < l.length → ∀ g, u.ownBlock = some g → (Value.slice ra rn rc).ownBlock ≠ some g ∧ g ≠ P)
    (hown : w4.ownsRow (P + 1) 44 1 (.slice a' N' d') (us.length + 1) (us ++ [u])) (hg : w9.grownBy w4 (Value.slice ra rn rc).ownBlock) (hat : (Value.slice a' N' d').ownBlock = (Value.slice ra rn rc).ownBlock ∨ (Value.slice a' N' d').ownBlock = some w9.heap.size) :
    Mk W0 P x z wi d (w4.setCell ⟨P, 4, none⟩ (.slice a' N' d')) a' N' d' (us ++ [u]) (L ++ [l]) := by
  have h1 := h.ro.push Fl.enc_len (by omega) hs (fun h0 g e => (hne h0 g e).1) hown hg hat
  have hne2 : ∀ j (hj : j < (L ++ [l]).length), 0 < (L ++ [l])[j].length → ∀ v, (us ++ [u])[j]? = some v → v.ownBlock ≠ some P := fun j hj h0 v hv => by
    have hl := h.ro.len
    by_cases q : j < L.length
    · rw [List.getElem?_append_left (by omega)] at hv
      have e : (L ++ [l])[j] = L[j] := List.getElem_append_left q
      rw [e] at h0
      exact h.ne j q h0 v hv
    · have q2 : j = L.length := by simp at hj; omega
      subst q2
      have e : (L ++ [l])[L.length] = l := by simp
      rw [e] at h0
      rw [List.getElem?_append_right (by omega), hl] at hv
      simp at hv
      subst hv
      intro e2
      exact (hne h0 P e2).2 rfl
  refine ⟨(h.after hg).put _, h1.put Fl.enc_len (by omega) (p := ⟨P, 4, none⟩) (show P < P + 1 by omega) hne2 _, hne2, ?_, New.setB (p := ⟨P, 4, none⟩) h.lo (newGrown h.nw hg (fun j hj => by have := (h.ro.own.lt j hj).1; have := h.lo; omega)) _, h.lo⟩
  have := hg.size
  have := h.sz
  simp
  omega

set_option maxRecDepth 100000 in
/-- One column more, and where the row of columns then lies. -/
theorem wpList_app_row {ops : Array Oper} {rest : List Oper} {o : Oper} {a : Act} {w : World} {Q : Exit → Act → World → Prop} (hgd : o.guard = none) (s x : Operand) (ho : o.op = .call { callee := .builtin .append, args := #[s, x], argTypes := #[24, 24] })
    (base : Nat) (v : Value) (us : List Value) (hs : a.eval s = v) (hown : w.ownsRow base 44 1 v us.length us) (p : Nat) (u : Value) (hx : a.eval x = .slice (some ⟨p, 0, none⟩) 1 1)
    (hp : w.cell? ⟨p, 0, none⟩ = some u) (h1 : u.oneCell' = true) (hl : us.length ≤ 100000) (hbase : base ≤ w.heap.size)
    (h : ∀ v' w', w'.ownsRow base 44 1 v' (us.length + 1) (us ++ [u]) → w.grownBy w' v.ownBlock → (v'.ownBlock = v.ownBlock ∨ v'.ownBlock = some w.heap.size) → wpList Tryd.prog ops Q rest (a.put o.dst v') w') : wpList Tryd.prog ops Q (o :: rest) a w := by
  obtain ⟨i0, hi0, hz0, hz1, hz2⟩ := info_parts flr_info
  refine wpList_append_own_at w hgd s x 24 ho base 44 i0 (.slice none 0 0) 1 24 Tryd.underlying24 hi0 hz0 hz1 hz2 rfl (by decide) v us.length us hs hown ⟨p, 0, none⟩ 1 1 [u] hx rfl ?_ ?_ (by unfold maxLen; omega) (by omega) hbase ?_
  · intro j t hj
    match j, hj with
    | 0, hj =>
      injection hj with hj
      subst hj
      exact hp
    | j + 1, hj => cases hj
  · intro t ht
    rw [List.mem_singleton] at ht
    subst ht
    exact h1
  · intro v' w' h2 h3 _ h5
    exact h v' w' h2 h3 h5

theorem fl_new1 (w : World) (f : Fl) (t : TypeId) : Sl Fl.enc 3 (w.alloc (.cells #[.int .i64 f.y, .int .i64 f.top, .int .i64 f.area] t)) (.slice (some ⟨w.heap.size, 0, none⟩) 1 1) [f] :=
  ⟨_, _, rfl, Nat.le_refl _, by unfold maxLen; omega, fun h => (by cases h), fun _ => ⟨w.heap.size, 0, rfl, fun j hj i hi => by
    have hj' : j = 0 := by simpa using hj
    subst hj'
    have hi' : i < 3 := hi
    have hz := heap_new w (.cells #[.int .i64 f.y, .int .i64 f.top, .int .i64 f.area] t)
    rcases (show i = 0 ∨ i = 1 ∨ i = 2 by omega) with rfl | rfl | rfl <;> exact cell_of_heap hz rfl⟩⟩

theorem lw_config (w : World) : Calls Tryd.prog 30 #[.int .i64 1] w fun e w' => e = .returned (.agg #[.int .i64 1, .int .i64 1, .int .i64 3, .int .i64 1, .int .i64 1, .int .i64 32, .int .i64 32]) ∧ New w w' := by
  go_enter Tryd.func30, Tryd.ntmps30
  go_wp2_with fail
  refine bodyPost_ret (v := .agg #[.int .i64 1, .int .i64 1, .int .i64 3, .int .i64 1, .int .i64 1, .int .i64 32, .int .i64 32]) (by simp [results, Tryd.results30, go_sem, *]) rfl ?_
  exact ⟨rfl, by (repeat (first | (with_reducible exact New.refl _) | (with_reducible assumption) | ((with_reducible refine New.setB ?_ ?_ _); focus (first | omega | (simp; omega) | (simp; done))) | (with_reducible refine New.alloc ?_ _) | (with_reducible refine New.drew ?_) | (with_reducible refine New.drewN ?_ _) | (with_reducible refine New.hat ?_ _) | ((with_reducible apply New.snart); (with_reducible assumption))))⟩

def flatL (n : Nat) : List (List Fl) := List.replicate n [⟨2, 20, 1⟩]
theorem flatL_succ (n : Nat) : flatL (n + 1) = flatL n ++ [[⟨2, 20, 1⟩]] := by unfold flatL; rw [List.replicate_succ']

set_option maxHeartbeats 8000000 in
set_option maxRecDepth 100000 in
theorem lw_Flat (w : World) : Calls Tryd.prog 31 #[.int .i64 5, .int .i64 5] w fun e w' => ∃ a c, e = .returned (.agg #[.int .i64 0, .int .i64 0, .int .i64 5, .int .i64 5, .slice a 25 c]) ∧ RowsK Fl.enc 3 w' (.slice a 25 c) (flatL 25) ∧ New w w' := by
  obtain ⟨i0, hi, hz0, hz1, hz2⟩ := info_parts flr_info
  have HFS := Lib.hid flatL_succ
  have HF0 : Hid (flatL 0 = []) := Lib.hid rfl
  have HFL : Hid (∀ n, (flatL n).length = n) := Lib.hid (fun n => by unfold flatL; simp)
  generalize flatL = fL at *
  go_enter Tryd.func31, Tryd.ntmps31
  go_upto_region 1 with fail
  refine Code.at (fun W1 hW => ?_)
  have N1 : Hid (New w W1) := Lib.hid (by subst hW; (repeat (first | (with_reducible exact New.refl _) | (with_reducible assumption) | ((with_reducible refine New.setB ?_ ?_ _); focus (first | omega | (simp; omega) | (simp; done))) | (with_reducible refine New.alloc ?_ _) | (with_reducible refine New.drew ?_) | (with_reducible refine New.drewN ?_ _) | (with_reducible refine New.hat ?_ _) | ((with_reducible apply New.snart); (with_reducible assumption)))))
  have HR0 : Hid (W1.heap[w.heap.size]? = some (.cells #[.int .i64 0, .int .i64 0, .int .i64 0, .int .i64 0, .slice none 0 0] 26 (0, 0)) ∧ W1.heap.size = w.heap.size + 1) := Lib.hid (by subst hW; exact ⟨heap_new _ _, by simp⟩)
  clear hW
  go_upto_region 2 with fail
  refine Code.at (fun W2 hW => ?_)
  obtain ⟨P, hP⟩ : ∃ P, P = W1.heap.size := ⟨_, rfl⟩
  have HM : Hid (Mk W1 P 0 0 5 5 W2 none 0 0 [] []) := Lib.hid (by
    subst hP
    refine ⟨?_, RowsOK.nil, fun j hj => absurd hj (by simp), by subst hW; simp, by subst hW; (repeat (first | (with_reducible exact New.refl _) | (with_reducible assumption) | ((with_reducible refine New.setB ?_ ?_ _); focus (first | omega | (simp; omega) | (simp; done))) | (with_reducible refine New.alloc ?_ _) | (with_reducible refine New.drew ?_) | (with_reducible refine New.drewN ?_ _) | (with_reducible refine New.hat ?_ _) | ((with_reducible apply New.snart); (with_reducible assumption)))), Nat.le_refl _⟩
    subst hW
    exact ⟨by go_simp, by go_simp, by go_simp, by go_simp, by go_simp, by go_simp⟩)
  rw [← hP]
  have HPP := Lib.hid hP
  clear hW hP
  go_wp2_with fail
  go_loopg [6] 25 (fun gk s6 wr => ∃ (i : Nat) (ra : Option Addr) (rn rc : Nat) (us : List Value), s6 = .int .i64 i ∧ i ≤ 25 ∧ 25 - i ≤ gk ∧ Hid (Mk W1 P 0 0 5 5 wr ra rn rc us (fL i)) ∧ Hid (∀ u ∈ us, ∀ g, u.ownBlock = some g → P + 1 ≤ g))
  case atStart => exact ⟨0, none, 0, 0, [], rfl, by omega, by omega, Lib.hid (by rw [HF0.out]; exact HM.out), Lib.hid (fun u hu => by cases hu)⟩
  case round =>
    clear HM
    obtain ⟨i, ra, rn, rc, us, rfl, hi', hgk, HM, HUS⟩ := hrel
    have hrn := HM.out.len
    rw [HFL.out] at hrn
    replace hrn := hrn.symm
    subst hrn
    by_cases hlt : i < 25
    · have g4 := HM.out.gd.c4
      have hPz := HM.out.sz
      have hul := HM.out.ro.len
      rw [HFL.out] at hul
      go_upto_region 4 with (at_builtin; obtain ⟨w8, hw8⟩ : ∃ q, q = wr.alloc (.cells #[.int .i64 2, .int .i64 20, .int .i64 1] 58) := ⟨_, rfl⟩; obtain ⟨w9, hw9⟩ : ∃ q, q = w8.alloc (.cells #[.slice (some ⟨wr.heap.size, 0, none⟩) 1 1] 44) := ⟨_, rfl⟩; rw [← hw8]; rw [← hw9]; have n8 : New wr w8 := (by subst hw8; exact (New.refl _).alloc _); have n9 : New w8 w9 := (by subst hw9; exact (New.refl _).alloc _); have hs8 : Sl Fl.enc 3 w8 (.slice (some ⟨wr.heap.size, 0, none⟩) 1 1) [⟨2, 20, 1⟩] := (by subst hw8; exact fl_new1 wr ⟨2, 20, 1⟩ _); have h8z : w8.heap.size = wr.heap.size + 1 := (by subst hw8; simp); have hp : w9.cell? ⟨wr.heap.size + 1, 0, none⟩ = some (.slice (some ⟨wr.heap.size, 0, none⟩) 1 1) := (by rw [← h8z]; subst hw9; exact cell_of_heap (heap_new _ _) rfl); have HS9 := Lib.hid (hs8.keep n9); have HM9 := Lib.hid (HM.out.new (n8.trans n9)); have hb9 := HM9.out.sz; have ho9 := HM9.out.ro.own; clear hw8; clear hw9; refine wpList_app_row rfl _ _ rfl (P + 1) _ us rfl ho9 (wr.heap.size + 1) _ rfl hp rfl (by omega) hb9 ?_; intro v' w4 hown' hgrow hat; obtain ⟨a', d', N', hN', rfl⟩ := own_shape2 hown'; clear hN'; have hgb := HM9.out.after hgrow; have g4' := hgb.c4; have gf := hgb.fz)
      refine Code.at (fun W5 hW => ?_)
      have HM5 : Hid (Mk W1 P 0 0 5 5 W5 a' N' d' (us ++ [.slice (some ⟨wr.heap.size, 0, none⟩) 1 1]) (fL (i + 1))) := Lib.hid (by
        subst hW
        rw [HFS.out]
        refine HM9.out.push HS9.out (fun _ g e => ?_) hown' hgrow hat
        have q1 : wr.heap.size = g := by simpa [Value.ownBlock] using e
        refine ⟨fun e2 => ?_, by omega⟩
        have := (HM.out.ro.own.lt g e2).2
        omega)
      have HUS2 : Hid (∀ u ∈ us ++ [.slice (some ⟨wr.heap.size, 0, none⟩) 1 1], ∀ g, u.ownBlock = some g → P + 1 ≤ g) := Lib.hid (fun u hu g e => by
        rcases List.mem_append.1 hu with h | h
        · exact HUS.out u h g e
        · rw [List.mem_singleton] at h
          subst h
          have q1 : wr.heap.size = g := by simpa [Value.ownBlock] using e
          omega)
      clear hW hgrow hat hown' hgb g4' gf n8 n9 hs8 hp HS9 HM9 HM g4 ho9
      go_wp2_with fail
      go_roundg (25 - (i + 1))
      case measure => omega
      case rel => exact ⟨i + 1, a', N', d', _, by go_num, by omega, by omega, HM5, HUS2⟩
    · obtain rfl : i = 25 := by omega
      have HOK : Hid (RowsK Fl.enc 3 wr (.slice ra 25 rc) (fL 25)) := Lib.hid HM.out.ro.rows
      obtain ⟨g0, g1, g2, g3, g4, -⟩ := HM.out.gd
      have q0 := (HM.out.nw.block w.heap.size (by have := HR0.out.2; omega)).trans HR0.out.1
      have y0 : wr.cell? ⟨w.heap.size, 0, none⟩ = some (.int .i64 0) := cell_of_heap q0 rfl
      have y1 : wr.cell? ⟨w.heap.size, 1, none⟩ = some (.int .i64 0) := cell_of_heap q0 rfl
      have y2 : wr.cell? ⟨w.heap.size, 2, none⟩ = some (.int .i64 0) := cell_of_heap q0 rfl
      have y3 : wr.cell? ⟨w.heap.size, 3, none⟩ = some (.int .i64 0) := cell_of_heap q0 rfl
      have y4 : wr.cell? ⟨w.heap.size, 4, none⟩ = some (.slice none 0 0) := cell_of_heap q0 rfl
      have f0 := fz_of q0 0
      have f1 := fz_of q0 1
      have f2 := fz_of q0 2
      have f3 := fz_of q0 3
      have f4 := fz_of q0 4
      have nn := N1.out.trans HM.out.nw
      have hlo := HM.out.lo
      have hwlt : w.heap.size < P := by have := HR0.out.2; omega
      have HRO := Lib.hid HM.out.ro
      clear q0 HOK HM
      go_wp2_with fail
      generalize hW5 : World.setCell _ _ _ = W5
      have n5 : New w W5 := by subst hW5; (repeat (first | (with_reducible exact New.refl _) | (with_reducible assumption) | ((with_reducible refine New.setB ?_ ?_ _); focus (first | omega | (simp; omega) | (simp; done))) | (with_reducible refine New.alloc ?_ _) | (with_reducible refine New.drew ?_) | (with_reducible refine New.drewN ?_ _) | (with_reducible refine New.hat ?_ _) | ((with_reducible apply New.snart); (with_reducible assumption))))
      have k0 : W5.cell? ⟨w.heap.size, 0, none⟩ = some (.int .i64 0) := by subst hW5; go_simp
      have k1 : W5.cell? ⟨w.heap.size, 1, none⟩ = some (.int .i64 0) := by subst hW5; go_simp
      have k2 : W5.cell? ⟨w.heap.size, 2, none⟩ = some (.int .i64 5) := by subst hW5; go_simp
      have k3 : W5.cell? ⟨w.heap.size, 3, none⟩ = some (.int .i64 5) := by subst hW5; go_simp
      have k4 : W5.cell? ⟨w.heap.size, 4, none⟩ = some (.slice ra 25 rc) := by subst hW5; go_simp
      have hput : ∀ (W : World) (o : Nat) (v : Value), RowsOK Fl.enc 3 44 (P + 1) W (.slice ra 25 rc) us (fL 25) → RowsOK Fl.enc 3 44 (P + 1) (W.setCell ⟨w.heap.size, o, none⟩ v) (.slice ra 25 rc) us (fL 25) := fun W o v h =>
        h.put Fl.enc_len (by omega) (p := ⟨w.heap.size, o, none⟩) (show w.heap.size < P + 1 by omega) (fun j _ _ u hu hq => by
          have := HUS.out u (List.mem_of_getElem? hu) _ hq
          simp only at this
          omega) v
      have HOK5 : Hid (RowsK Fl.enc 3 W5 (.slice ra 25 rc) (fL 25)) := Lib.hid (by
        have h : RowsOK Fl.enc 3 44 (P + 1) W5 (.slice ra 25 rc) us (fL 25) := by
          subst hW5
          exact hput _ 4 _ (hput _ 3 _ (hput _ 2 _ (hput _ 1 _ (hput _ 0 _ HRO.out))))
        exact h.rows)
      clear hput hW5 y0 y1 y2 y3 y4 f0 f1 f2 f3 f4 g0 g1 g2 g3 g4
      refine bodyPost_ret (v := .agg #[.int .i64 0, .int .i64 0, .int .i64 5, .int .i64 5, .slice ra 25 rc]) (by simp [results, Tryd.results31, go_sem, *]) rfl ?_
      exact ⟨ra, rc, rfl, HOK5.out, n5⟩

end Go.Proofs.YtgoggogcbjfofaaDoor

/- Layer 14: what the laws say of a flat grid; rows that are too great. -/
namespace Go.Proofs.YtgoggogcbjfofaaDoor
open Go.RowKit
set_option linter.unusedVariables false

def wk14 : CfgR := ⟨1, 1, 3, 1, 1, 32, 32⟩
def wkG14 (a : Option Addr) (c : Nat) : Gd := ⟨0, 0, 5, 5, flatL 25, a, c⟩
def wkR14 : List (List Int) := [[0], [0], [0], [0], [0], [0], [1], [1], [1], [0], [0], [1], [2], [1], [0], [0], [1], [1], [1], [0], [0], [0], [0], [0], [0]]
theorem wk14_E (a : Option Addr) (c : Nat) : lkE wk14 (wkG14 a c) = 0 := by kernel_rfl
theorem wk14_L (a : Option Addr) (c : Nat) : fdT wk14 (wkG14 a c) = wkR14 := by kernel_rfl
theorem wk14_C : capC wk14 = 4 := by kernel_rfl
theorem wk14_m : mnI wkR14.flatten = 0 ∧ decide (0 < wkR14.flatten.length) = true := ⟨by kernel_rfl, by kernel_rfl⟩
theorem wk14_s : smallI wkR14 := ⟨by decide, by decide⟩

set_option maxHeartbeats 8000000 in
set_option maxRecDepth 100000 in
theorem lw_wakes (w : World) (hD : Dirs w) : Calls Tryd.prog 10 #[] w fun e w' => e = .returned (.bool true) ∧ New w w' := by
  have KC := Lib.hid lw_config
  have KF := Lib.hid lw_Flat
  have KB : Hid (∀ a c W, New w W → RowsK Fl.enc 3 W (.slice a 25 c) (flatL 25) → Calls Tryd.prog 11 #[.agg #[.int .i64 1, .int .i64 1, .int .i64 3, .int .i64 1, .int .i64 1, .int .i64 32, .int .i64 32], .agg #[.int .i64 0, .int .i64 0, .int .i64 5, .int .i64 5, .slice a 25 c]] W (FBuilt 0 wkR14 W)) := Lib.hid (fun a c W q hr => by
    have := fd_Build wk14 (wkG14 a c) W hr (hD.new q)
    rw [wk14_E, wk14_L] at this
    exact this)
  unfold FBuilt at KB
  have KL : Hid (∀ va W, RowsK iE 1 W va wkR14 → Calls Tryd.prog 17 #[va] W fun e w' => e = .returned (.tuple #[.int .i64 0, .bool true]) ∧ New W w') := Lib.hid (fun va W h => by
    have := fd_Least va wkR14 wk14_s W h
    rw [wk14_m.1, wk14_m.2] at this
    exact this)
  have KP : Hid (∀ W, Calls Tryd.prog 14 #[.agg #[.int .i64 1, .int .i64 1, .int .i64 3, .int .i64 1, .int .i64 1, .int .i64 32, .int .i64 32]] W fun e w' => e = .returned (.int .i64 4) ∧ New W w') := Lib.hid (fun W => by
    have := fd_Cap wk14 W
    rw [wk14_C] at this
    exact this)
  clear hD
  go_enter Tryd.func10, Tryd.ntmps10
  go_wp2_with fail
  refine (KC.out _).mono ?_
  rintro e w1 ⟨rfl, n1⟩
  have N1 := Lib.hid n1
  clear n1
  go_wp2_with fail
  refine (KF.out _).mono ?_
  rintro e w2 ⟨a, c, rfl, hr2, n2⟩
  have N2 := Lib.hid (N1.out.trans n2)
  have HR2 := Lib.hid hr2
  clear n2 N1 hr2
  go_wp2_with fail
  refine (KB.out a c _ N2.out HR2.out).mono ?_
  rintro e w3 ⟨v, rfl, hr3, n3⟩
  have N3 := Lib.hid (N2.out.trans n3)
  have HR3 := Lib.hid hr3
  clear n3 N2 hr3 HR2 KB KF
  go_wp2_with fail
  refine (KL.out v _ HR3.out).mono ?_
  rintro e w4 ⟨rfl, n4⟩
  have N4 := Lib.hid (N3.out.trans n4)
  have hr4 := HR3.out.keep n4
  obtain ⟨ra, rc, rfl⟩ := hr4.shape
  obtain ⟨b, off, a0, d0, rfl, hc0, hs0⟩ := hr4.at 0 (by decide)
  obtain ⟨b6, o6, a6, d6, e6, hc6, hs6⟩ := hr4.at 6 (by decide)
  obtain ⟨b12, o12, a12, d12, e12, hc12, hs12⟩ := hr4.at 12 (by decide)
  injection e6 with e6
  injection e6 with q1 q2
  subst q1
  subst q2
  injection e12 with e12
  injection e12 with q1 q2
  subst q1
  subst q2
  obtain ⟨p0, p0c, x0, -, -, r0⟩ := sl_at hs0
  obtain ⟨p6, p6c, x6, -, -, r6⟩ := sl_at hs6
  obtain ⟨p12, p12c, x12, -, -, r12⟩ := sl_at hs12
  injection x0 with x0a x0b x0c
  injection x6 with x6a x6b x6c
  injection x12 with x12a x12b x12c
  subst x0a
  subst x6a
  subst x12a
  obtain ⟨b0', o0', rfl, t0⟩ := r0 0 (by decide)
  obtain ⟨b6', o6', rfl, t6⟩ := r6 0 (by decide)
  obtain ⟨b12', o12', rfl, t12⟩ := r12 0 (by decide)
  have l0 : wkR14[0].length = 1 := rfl
  have l6 : wkR14[6].length = 1 := rfl
  have l12 : wkR14[12].length = 1 := rfl
  have v0 : wkR14[0][0] = 0 := rfl
  have v6 : wkR14[6][0] = 1 := rfl
  have v12 : wkR14[12][0] = 2 := rfl
  rw [l0] at hc0
  rw [l6] at hc6
  rw [l12] at hc12
  rw [v0] at t0
  rw [v6] at t6
  rw [v12] at t12
  rw [Nat.add_zero] at t0 t6 t12 hc0
  have lr : wkR14.length = 25 := rfl
  rw [lr]
  clear hr4 hs0 hs6 hs12 x0b x0c x6b x6c x12b x12c r0 r6 r12 n4 N3 HR3 KL l0 l6 l12 v0 v6 v12 lr
  go_wp2_with fail
  refine (KC.out _).mono ?_
  rintro e w5 ⟨rfl, n5⟩
  have N5 := Lib.hid (N4.out.trans n5)
  clear n5
  go_wp2_with fail
  refine (KP.out _).mono ?_
  rintro e w6 ⟨rfl, n6⟩
  have N6 := N5.out.trans n6
  go_wp2_with fail
  go_ret
  exact ⟨rfl, N6⟩

set_option maxHeartbeats 4000000 in
set_option maxRecDepth 100000 in
theorem lw_great (va : Value) (L : List (List Int)) (w : World) (H : RowsK iE 1 w va L) : Calls Tryd.prog 16 #[va] w fun e w' => ∃ b, e = .returned (.bool b) ∧ (b = false → smallI L) ∧ New w w' := by
  obtain ⟨ga, gc, rfl⟩ := H.shape
  have hmx := rows_max H
  unfold maxLen at hmx
  have HH := Lib.hid H
  have HFS : Hid (∀ i (h : i < L.length), L[i].length ≤ 40 → (flT L i).length ≤ 40 * i → (flT L (i + 1)).length ≤ 40 * (i + 1)) := Lib.hid (fun i h h1 h2 => by rw [flT_succ L h, List.length_append]; omega)
  have HFA := Lib.hid (flT_all L)
  have HSI : Hid (L.length ≤ 600 → (flT L L.length).length ≤ 40 * L.length → smallI L) := Lib.hid (fun h1 h2 => ⟨h1, by rw [flT_all] at h2; omega⟩)
  have HF0 : Hid ((flT L 0).length ≤ 40 * 0) := Lib.hid (Nat.le_refl _)
  obtain ⟨n, hn⟩ : ∃ n, n = L.length := ⟨_, rfl⟩
  rw [← hn] at HH HFA hmx HSI ⊢
  have HN := Lib.hid hn
  clear H hn
  generalize flT L = fT at *
  go_enter Tryd.func16, Tryd.ntmps16
  by_cases h6 : 600 < n
  · have hd : decide (600 < n) = true := decide_eq_true h6
    have hd2 : ((n : Int) > 600) := by omega
    go_wp2_with fail
    go_ret
    exact ⟨true, rfl, (fun h => by cases h), New.refl _⟩
  · have hn6 : n ≤ 600 := by omega
    have hd : decide (600 < n) = false := decide_eq_false h6
    have hd2 : ¬ ((n : Int) > 600) := by omega
    clear h6
    go_wp2_with fail
    clear hd hd2
    go_loopg [3] n (fun gk s3 wr => ∃ i : Nat, s3 = .int .i64 i ∧ i ≤ n ∧ n - i ≤ gk ∧ Hid ((fT i).length ≤ 40 * i) ∧ Hid (New w wr))
    case atStart => exact ⟨0, rfl, by omega, by omega, HF0, Lib.hid (New.refl _)⟩
    case round =>
      obtain ⟨i, rfl, hi, hgk, HB, hnr⟩ := hrel
      by_cases hlt : i < n
      · have hil : i < L.length := by rw [← HN.out]; exact hlt
        obtain ⟨b, off, a, c, rfl, hc, hs⟩ := (HH.out.keep hnr.out).at i hil
        have HFI := Lib.hid (HFS.out i hil)
        obtain ⟨m, hm⟩ : ∃ m, m = L[i].length := ⟨_, rfl⟩
        rw [← hm] at hc HFI
        clear hm hs
        by_cases hq : 40 < m
        · have hd : decide (40 < m) = true := decide_eq_true hq
          have hd2 : ((m : Int) > 40) := by omega
          go_wp2_with fail
          go_ret
          exact ⟨true, rfl, (fun h => by cases h), hnr.out⟩
        · have hd : decide (40 < m) = false := decide_eq_false hq
          have hd2 : ¬ ((m : Int) > 40) := by omega
          have hnx := Lib.hid (HFI.out (by omega) HB.out)
          clear HFI
          go_wp2_with fail
          go_roundg (n - (i + 1))
          case measure => omega
          case rel => exact ⟨i + 1, by go_num, by omega, by omega, hnx, hnr⟩
      · obtain rfl : i = n := by omega
        go_wp2_with fail
        go_ret
        exact ⟨false, rfl, (fun _ => HSI.out hn6 HB.out), hnr.out⟩

end Go.Proofs.YtgoggogcbjfofaaDoor
