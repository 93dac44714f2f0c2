import Derived.Test.YtklopjbpfddgfaaGreatSoBZ12
import Derived.Test.YtklopjbpfddgfaaGreatSpAZ12
import Derived.Test.YtklopjbpfddgfaaGreatSteadyZ12
import Derived.Deep.LoopGhost
import Derived.Test.YtklopjbpfddgfaaGreatHatZ12
import Derived.Test.YtklopjbpfddgfaaGreatSpPZ12
import Derived.Test.YtklopjbpfddgfaaGreatSoAZ12
import Derived.Test.YtklopjbpfddgfaaGreatRaBZ12

/- The library's Grow of nothing and Concat, of slices of a kind. -/
namespace Go.Proofs.YtklopjbpfddgfaaGreat
open Go.RowKit
set_option linter.unusedVariables false

theorem sn_info : (Tryz.prog.info? 45).map (fun i => (i.zero, i.size, i.bytes)) = some (some (.agg #[.int .i64 Sn.zero.lo, .int .i64 Sn.zero.hi, .bool Sn.zero.wk]), 3, 24) := by kernel_rfl

def sn_Grown (n : Nat) (w : World) (e : Ending) (w' : World) : Prop := ∃ v, e = .returned v ∧ w'.ownsRow w.heap.size 45 3 v 0 [] ∧ New w w'

set_option maxHeartbeats 2000000 in
theorem sn_grow (n : Nat) (hn : n ≤ 1000) (w : World) : Calls Tryz.prog 86 #[.slice none 0 0, .int .i64 n] w (sn_Grown n w) := by
  have h1 : ¬ ((n : Int) < 0) := by omega
  rcases Nat.eq_zero_or_pos n with rfl | h0
  · go_enter Tryz.func86, Tryz.ntmps86
    go_wp2_with fail
    go_ret
    exact ⟨_, rfl, World.ownsRow_nil _ _ _ _, New.refl _⟩
  · obtain ⟨i, hi, hz0, hz1, hz2⟩ := info_parts sn_info
    have hr : ∀ ty, (Builtin.append_ #[24, 3] ty #[.slice none 0 0, .int .i64 (n : Int)]).run Tryz.prog w = _ := fun ty =>
      Lib.run_append_nil_zeros w 24 3 ty 45 i _ .i64 .i64 Tryz.underlying24 Tryz.underlying3 hi hz0 n h0 (by rw [hz1]; omega) (by omega) (by rw [hz2]; omega)
    have hge : n ≤ grownCap w n 0 45 := grownCap_ge w _ _ _
    have hle : grownCap w n 0 45 ≤ maxLen := grownCap_le_maxLen w n 0 45 (by unfold maxLen; omega)
    obtain ⟨G, hG⟩ : ∃ G, G = grownCap w n 0 45 := ⟨_, rfl⟩
    rw [← hG] at hr hge hle
    have HLE := Lib.hid hle
    unfold maxLen at hle
    have h2 : (0 : Int) < (n : Int) := by omega
    clear hG
    go_enter Tryz.func86, Tryz.ntmps86
    go_wp2_with (at_builtin; refine Lib.wpList_append_run _ rfl _ _ _ _ rfl _ _ rfl rfl _ _ (hr _) ?_)
    go_ret
    refine ⟨_, rfl, ⟨by simp, Or.inr ⟨w.heap.size, G, _, rfl, Nat.le_refl _, heap_new w.drew _, Nat.zero_le _, HLE.out, ?_, by simp⟩⟩, (New.refl w).drew.alloc _⟩
    rw [Array.size_append, size_zeroCells, size_zeroCells]
    show n * 3 + (G - n) * 3 = G * 3
    omega

theorem sn_some {snr : Option Addr} (h : ¬ snr = none) : ∃ a, snr = some a := by
  cases snr with
  | none => exact absurd rfl h
  | some a => exact ⟨a, rfl⟩

set_option maxHeartbeats 4000000 in
set_option maxRecDepth 100000 in
theorem sn_concat (B c : Nat) (ps : List (Part Sn)) (hps : ps.length ≤ 10) (htot : (ps.flatMap (·.l)).length ≤ 1000) (w : World) (H : PartsAt Sn.enc 3 w B ps) :
    Calls Tryz.prog 64 #[.slice (some ⟨B, 0, none⟩) ps.length c] w fun e w' => ∃ v, e = .returned v ∧ w'.ownsRow w.heap.size 45 3 v (ps.flatMap (·.l)).length ((ps.flatMap (·.l)).flatMap Sn.enc) ∧ New w w' := by
  obtain ⟨i0, hi, hz0, hz1, hz2⟩ := info_parts sn_info
  have HH := Lib.hid H
  clear H
  go_enter Tryz.func64, Tryz.ntmps64
  go_wp2_with fail
  go_loopg [3, 11] ps.length (fun k s t wr => ∃ i : Nat, t = .int .i64 i ∧ i + k = ps.length ∧ s = .int .i64 (cat ps i).length ∧ wr = w)
  case atStart => exact ⟨0, by simp, by omega, by simp [cat], rfl⟩
  case round =>
    obtain ⟨i, rfl, hik, rfl, hw⟩ := hrel
    obtain rfl : w = wr := hw.symm
    by_cases hlt : i < ps.length
    · have c0 := (HH.out i hlt).1
      have hcs := cat_succ ps i hlt
      have hle := cat_le ps (i + 1)
      rw [hcs, List.length_append] at hle
      have HCS := Lib.hid hcs
      have hd : decide ((cat ps i).length + ps[i].l.length < (0 : Int)) = false := by simp; omega
      clear hcs
      go_wp2_with fail
      go_roundg (gk - 1)
      case measure => omega
      case rel => exact ⟨i + 1, by go_num, by omega, by rw [HCS.out, List.length_append]; go_num, rfl⟩
    · obtain rfl : i = ps.length := by omega
      have HC := Lib.hid (cat_all ps)
      have hg := Lib.hid (sn_grow (cat ps ps.length).length (by rw [HC.out]; exact htot) w)
      generalize (cat ps ps.length).length = N at *
      go_wp2_with fail
      refine hg.out.mono ?_
      rintro e w1 ⟨v, rfl, hown, n1⟩
      have OW := Lib.hid hown
      clear hown hg
      go_wp2_with fail
      clear hik hlt
      have HP := Lib.hid (HH.out.keep n1)
      go_loopg [6, 27] ps.length (fun k s t wr => ∃ i : Nat, t = .int .i64 i ∧ i + k = ps.length ∧ wr.ownsRow w.heap.size 45 3 s (cat ps i).length ((cat ps i).flatMap Sn.enc) ∧ New w wr)
      case atStart => exact ⟨0, by simp, by omega, by simpa [cat] using OW.out, n1⟩
      case round =>
        clear OW n1
        obtain ⟨i, rfl, hik, hown, hn⟩ := hrel
        have OW := Lib.hid hown
        clear hown
        by_cases hlt : i < ps.length
        · have hp := HH.out.keep hn i hlt
          have c0 := hp.1
          have hcs := cat_succ ps i hlt
          have hle := cat_le ps (i + 1)
          rw [hcs, List.length_append] at hle
          have HCS := Lib.hid hcs
          have HS := Lib.hid hp.2
          have HB := hn.size
          clear hcs hp
          by_cases hnone : ps[i].a = none
          · have hrow := HS.out.row
            have hc0 := hrow.2.2.2.1 hnone
            have hl0 : ps[i].l = [] := List.eq_nil_of_length_eq_zero (by omega)
            rw [hnone, hc0, hl0] at c0
            simp only [List.length_nil] at c0
            have HL := Lib.hid hl0
            clear hrow hc0 hl0 hnone
            go_wp2_with (at_builtin; refine Lib.wpList_append_run _ rfl _ _ _ _ rfl _ _ rfl rfl _ _ (run_append_owned_none (P := Tryz.prog) wr w.heap.size 24 _ 45 i0 3 Tryz.underlying24 hi _ _ _ OW.out) ?_)
            go_roundg (gk - 1)
            case measure => omega
            case rel => exact ⟨i + 1, by go_num, by omega, by rw [HCS.out, HL.out, List.append_nil]; exact OW.out, hn⟩
          · obtain ⟨ad, had⟩ := sn_some hnone
            rw [had] at c0 HS
            clear hnone had
            go_wp2_with (at_builtin; refine wpList_append_own _ rfl _ _ 24 rfl w.heap.size 45 i0 (.agg #[.int .i64 Sn.zero.lo, .int .i64 Sn.zero.hi, .bool Sn.zero.wk]) 3 24 Tryz.underlying24 hi hz0 hz1 hz2 rfl (by decide) _ _ _ rfl OW.out ad _ _ (ps[i].l.flatMap Sn.enc) rfl (flatMap_len Sn.enc_len _) (sl_news Sn.enc_len HS.out) (fun u hu => by obtain ⟨x, _, hx⟩ := List.mem_flatMap.1 hu; exact Sn.enc_one x u hx) (by unfold maxLen; omega) (by omega) HB ?_; intro v' w2 hown' hgrow _)
            have hn2 : New w w2 := newGrown hn hgrow (own_block OW.out)
            have OW2 := Lib.hid hown'
            clear hown' hgrow OW c0
            go_roundg (gk - 1)
            case measure => omega
            case rel => exact ⟨i + 1, by go_num, by omega, by rw [HCS.out, List.length_append, List.flatMap_append]; exact OW2.out, hn2⟩
        · obtain rfl : i = ps.length := by omega
          go_wp2_with fail
          go_ret
          exact ⟨_, rfl, by have := OW.out; rwa [HC.out] at this, hn⟩

end Go.Proofs.YtklopjbpfddgfaaGreat

/- Triangles that came in, laid flat. -/
namespace Go.Proofs.YtklopjbpfddgfaaGreat
open Go.RowKit

theorem fits10 {k : IntKind} {cs : Array Value} (h : Fits [.num k, .num k, .num k, .num k, .num k, .num k, .num k, .num k, .num k, .num k] cs.toList) :
    ∃ i x0 y0 z0 x1 y1 z1 x2 y2 z2 : Int, cs = #[.int k i, .int k x0, .int k y0, .int k z0, .int k x1, .int k y1, .int k z1, .int k x2, .int k y2, .int k z2] := by
  obtain ⟨l⟩ := cs
  obtain ⟨_, _, e1, ⟨a, rfl, _⟩, h⟩ := h.cons
  obtain ⟨_, _, e2, ⟨b, rfl, _⟩, h⟩ := h.cons
  obtain ⟨_, _, e3, ⟨c, rfl, _⟩, h⟩ := h.cons
  obtain ⟨_, _, e4, ⟨d, rfl, _⟩, h⟩ := h.cons
  obtain ⟨_, _, e5, ⟨e, rfl, _⟩, h⟩ := h.cons
  obtain ⟨_, _, e6, ⟨f, rfl, _⟩, h⟩ := h.cons
  obtain ⟨_, _, e7, ⟨g, rfl, _⟩, h⟩ := h.cons
  obtain ⟨_, _, e8, ⟨m, rfl, _⟩, h⟩ := h.cons
  obtain ⟨_, _, e9, ⟨n, rfl, _⟩, h⟩ := h.cons
  obtain ⟨_, _, e10, ⟨o, rfl, _⟩, h⟩ := h.cons
  have e11 := h.nil
  subst e11 e10 e9 e8 e7 e6 e5 e4 e3 e2
  exact ⟨a, b, c, d, e, f, g, m, n, o, by rw [show l = _ from e1]⟩

end Go.Proofs.YtklopjbpfddgfaaGreat

/- Rows of triangles that came in; whole numbers and what they hold. -/
namespace Go.Proofs.YtklopjbpfddgfaaGreat
open Go.ChangeShapes Go.WideShapes Go.RowKit Go.Deep
set_option linter.unusedVariables false

theorem ra_tri_of (vs : List Value) (h : Fits [.num .i64, .num .i64, .num .i64, .num .i64, .num .i64, .num .i64, .num .i64, .num .i64, .num .i64, .num .i64] vs) : ∃ a : TriR, a.enc = vs := by
  obtain ⟨a0, a1, a2, a3, a4, a5, a6, a7, a8, a9, e⟩ := fits10 (cs := vs.toArray) (by simpa using h)
  exact ⟨⟨a0, a1, a2, a3, a4, a5, a6, a7, a8, a9⟩, by have := congrArg Array.toList e; simpa [TriR.enc] using this.symm⟩

section
variable {H : Type} {enc : TypeId × Value → H} {w : World} {base : Nat} {spare : Nat → Bool} {held : Bool} {r : Reach} {b0 : Nat} {v : Value} {d : DataW H} {p : List MemPlace}

set_option maxRecDepth 100000 in
theorem open_tris (hv : Value.okWide Tryz.prog w r b0 25 v) (h : DataW.Trod enc Tryz.prog w base spare held 25 v d p) : ∃ (at0 : Option Addr) (l : List TriR) (c : Nat), v = .slice at0 l.length c ∧ Sl TriR.enc 10 w (.slice at0 l.length c) l := by
  obtain ⟨a, len, cap, rfl⟩ := okWide_slice Tryz.underlying25 hv
  obtain ⟨fuel, hf⟩ := h
  obtain ⟨v0, l, e, s⟩ := open_row TriR.enc 10 TriR.enc_len (by omega) Tryz.underlying25 (by kernel_rfl) (by kernel_rfl) ra_tri_of hf
  injection e with e
  subst e
  obtain ⟨at0, c, e1, h1⟩ := id s
  rw [e1] at s
  exact ⟨at0, l, c, e1, s⟩

set_option maxRecDepth 100000 in
theorem open_i64 (hv : Value.okWide Tryz.prog w r b0 3 v) (h : DataW.Trod enc Tryz.prog w base spare held 3 v d p) : ∃ x : Int, v = .int .i64 x ∧ i64B x := by
  obtain ⟨x, rfl, -, -, hw⟩ := open_int Tryz.underlying3 hv h
  refine ⟨x, rfl, ?_⟩
  unfold i64B
  simp only [Lit.wf, Bool.and_eq_true, decide_eq_true_eq] at hw
  have h1 : IntKind.i64.min = -9223372036854775808 := by decide
  have h2 : IntKind.i64.max = 9223372036854775807 := by decide
  exact ⟨h1 ▸ hw.1, h2 ▸ hw.2⟩
end

end Go.Proofs.YtklopjbpfddgfaaGreat

/- Rows of spans, a span, rows of whole numbers that came in. -/
namespace Go.Proofs.YtklopjbpfddgfaaGreat
open Go.ChangeShapes Go.WideShapes Go.RowKit Go.Deep
set_option linter.unusedVariables false

theorem sn_of (vs : List Value) (h : Fits [.num .i64, .num .i64, .yes] vs) : ∃ a : Sn, a.enc = vs := by
  obtain ⟨_, _, e0, ⟨a0, rfl, _⟩, h0⟩ := h.cons
  obtain ⟨_, _, e1, ⟨a1, rfl, _⟩, h1⟩ := h0.cons
  obtain ⟨_, _, e2, ⟨a2, rfl⟩, h2⟩ := h1.cons
  have en := h2.nil
  subst en
  subst e2
  subst e1
  subst e0
  exact ⟨⟨a0, a1, a2⟩, rfl⟩
/-- A whole number, as it lies. -/
def encI (n : Int) : List Value := [.int .i64 n]
theorem int_of (vs : List Value) (h : Fits [.num .i64] vs) : ∃ a : Int, encI a = vs := by
  obtain ⟨_, _, e0, ⟨a0, rfl, _⟩, h0⟩ := h.cons
  have en := h0.nil
  subst en
  subst e0
  exact ⟨a0, rfl⟩

section
variable {H : Type} {enc : TypeId × Value → H} {w : World} {base : Nat} {spare : Nat → Bool} {held : Bool} {r : Reach} {b0 : Nat} {v : Value} {d : DataW H} {p : List MemPlace}

set_option maxRecDepth 100000 in
theorem open_spans (hv : Value.okWide Tryz.prog w r b0 24 v) (h : DataW.Trod enc Tryz.prog w base spare held 24 v d p) : ∃ (at0 : Option Addr) (l : List Sn) (c : Nat), v = .slice at0 l.length c ∧ Sl Sn.enc 3 w (.slice at0 l.length c) l := by
  obtain ⟨a, len, cap, rfl⟩ := okWide_slice Tryz.underlying24 hv
  obtain ⟨fuel, hf⟩ := h
  obtain ⟨v0, l, e, s⟩ := open_row Sn.enc 3 Sn.enc_len (by omega) Tryz.underlying24 (by kernel_rfl) (by kernel_rfl) sn_of hf
  injection e with e
  subst e
  obtain ⟨at0, c, e1, h1⟩ := id s
  rw [e1] at s
  exact ⟨at0, l, c, e1, s⟩

set_option maxRecDepth 100000 in
theorem open_nums (hv : Value.okWide Tryz.prog w r b0 46 v) (h : DataW.Trod enc Tryz.prog w base spare held 46 v d p) : ∃ (at0 : Option Addr) (l : List Int) (c : Nat), v = .slice at0 l.length c ∧ Sl encI 1 w (.slice at0 l.length c) l := by
  obtain ⟨a, len, cap, rfl⟩ := okWide_slice Tryz.underlying46 hv
  obtain ⟨fuel, hf⟩ := h
  obtain ⟨v0, l, e, s⟩ := open_row encI 1 (fun _ => rfl) (by omega) Tryz.underlying46 (by kernel_rfl) (by kernel_rfl) int_of hf
  injection e with e
  subst e
  obtain ⟨at0, c, e1, h1⟩ := id s
  rw [e1] at s
  exact ⟨at0, l, c, e1, s⟩

set_option maxRecDepth 100000 in
theorem open_span (hv : Value.okWide Tryz.prog w r b0 45 v) (h : DataW.Trod enc Tryz.prog w base spare held 45 v d p) : ∃ s : Sn, v = .agg #[.int .i64 s.lo, .int .i64 s.hi, .bool s.wk] := by
  obtain ⟨cs, rfl, hc⟩ := open_flat Tryz.underlying45 64 (ks := [.num .i64, .num .i64, .yes]) (by kernel_rfl) hv h
  obtain ⟨s, hs⟩ := sn_of _ hc
  refine ⟨s, ?_⟩
  obtain ⟨l⟩ := cs
  simp only at hs
  subst hs
  rfl
end

end Go.Proofs.YtklopjbpfddgfaaGreat
