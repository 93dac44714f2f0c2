import Derived.Test.YtccikeagbillgaaGreatTriFZ3
import Derived.Test.YtccikeagbillgaaGreatHatZ3
import Derived.Test.YtccikeagbillgaaGreatWholeMZ3
import Derived.Test.YtccikeagbillgaaGreatSoAZ3
import Derived.Test.YtccikeagbillgaaGreatSpDZ3
import Derived.Test.YtccikeagbillgaaGreatWholeBZ3
import Derived.Test.YtccikeagbillgaaGreatSpAZ3
import Derived.Test.YtccikeagbillgaaGreatSteadyZ3
import Derived.Deep.LoopGhost

/- The document's own Abs, Greatest; fractions in lowest terms as the document brings them there. -/
namespace Go.Proofs.YtccikeagbillgaaGreat
open Go.RowKit
set_option linter.unusedVariables false

set_option maxHeartbeats 400000 in
theorem r_abs (n : Int) (w : World) (h : -4611686018427387904 ≤ n ∧ n ≤ 4611686018427387904) :
    Calls Tryz.prog 72 #[.int .i64 n] w fun e w' => e = .returned (.int .i64 (n.natAbs : Int)) ∧ w = w' := by
  obtain ⟨m, hm⟩ : ∃ m : Int, m = (n.natAbs : Int) := ⟨_, rfl⟩
  rw [← hm]
  have hm' : Hid (max n (-n) = m) := by show _ = m; omega
  clear hm
  go_enter Tryz.func72, Tryz.ntmps72
  go_wp2
  go_ret
  exact ⟨retI hm'.out, rfl⟩

set_option maxHeartbeats 2000000 in
theorem r_greatest (n d : Nat) (w : World) (hn : n ≤ 4611686018427387904) (hd : d ≤ 4611686018427387904) :
    Calls Tryz.prog 71 #[.int .i64 n, .int .i64 d] w fun e w' => e = .returned (.int .i64 (Nat.gcd d n : Nat)) ∧ New w w' := by
  obtain ⟨G, hG⟩ : ∃ G, G = Nat.gcd d n := ⟨_, rfl⟩
  rw [← hG]
  have HG : Hid _ := hG
  clear hG
  go_enter Tryz.func71, Tryz.ntmps71
  go_wp2_with fail
  go_loopg [0, 1] d (fun kx s0 s1 wr => ∃ a b : Nat, s0 = .int .i64 a ∧ s1 = .int .i64 b ∧ b ≤ kx ∧ a ≤ 4611686018427387904 ∧ b ≤ 4611686018427387904 ∧ Hid (Nat.gcd b a = G) ∧ New w wr)
  case atStart => exact ⟨n, d, rfl, rfl, Nat.le_refl _, hn, hd, HG.out.symm, New.refl _⟩
  case round =>
    obtain ⟨a, b, rfl, rfl, hk, ha, hb, hg, hn1⟩ := hrel
    by_cases h0 : b = 0
    · subst h0
      have hgc : Hid (G = a) := by show G = a; rw [← hg.out, Nat.gcd_zero_left]
      clear hg HG
      go_wp2_with fail
      go_ret
      rw [hgc.out]
      exact ⟨rfl, hn1⟩
    · have hz : ((b : Int) == 0) = false := by rw [beq_eq_false_iff_ne]; omega
      have q1 : (a : Int).tmod (b : Int) = ((a % b : Nat) : Int) := by rw [Int.tmod_eq_emod_of_nonneg (by omega)]; rfl
      have hlt : a % b < b := Nat.mod_lt _ (by omega)
      have hg' : Hid (Nat.gcd (a % b) b = G) := by show _ = G; rw [← hg.out, ← Nat.gcd_rec]
      clear hg HG
      go_wp2_with fail
      go_roundg (a % b)
      case measure => omega
      case rel => exact ⟨b, a % b, rfl, rfl, Nat.le_refl _, hb, by omega, hg', by (repeat (first | (with_reducible exact New.refl _) | (with_reducible assumption) | ((with_reducible refine New.setB ?_ ?_ _); focus (first | omega | (simp; omega) | (simp; done))) | (with_reducible refine New.alloc ?_ _) | (with_reducible refine New.drew ?_) | (with_reducible refine New.drewN ?_ _) | (with_reducible refine New.hat ?_ _) | ((with_reducible apply New.snart); (with_reducible assumption))))⟩

theorem low_r {n d : Int} (hd : d ≠ 0) : (if d < 0 then -n else n).tdiv (Nat.gcd d.natAbs n.natAbs : Nat) = lowN n d ∧ (d.natAbs : Int).tdiv (Nat.gcd d.natAbs n.natAbs : Nat) = lowD n d ∧ 0 < Nat.gcd d.natAbs n.natAbs := by
  obtain ⟨q0, h1, h2⟩ := low_div (n := n) hd rfl
  have hg : 0 < Int.gcd d n := Int.gcd_pos_of_ne_zero_left n hd
  have hge : Nat.gcd d.natAbs n.natAbs = Int.gcd d n := rfl
  rw [hge]
  refine ⟨?_, ?_, hg⟩
  · rw [← h1]
    rcases Int.lt_trichotomy d 0 with h | h | h
    · rw [if_pos h, Int.sign_eq_neg_one_of_neg h, show (-1 : Int) * (Int.gcd d n : Int) = -(Int.gcd d n : Int) by omega, Int.tdiv_neg, Int.neg_tdiv]
    · exact absurd h hd
    · rw [if_neg (by omega), Int.sign_eq_one_of_pos h, Int.one_mul]
  · rw [← h2]
    rcases Int.lt_trichotomy d 0 with h | h | h
    · rw [Int.sign_eq_neg_one_of_neg h, show (-1 : Int) * (Int.gcd d n : Int) = -(Int.gcd d n : Int) by omega, Int.tdiv_neg, show (d.natAbs : Int) = -d by omega, Int.neg_tdiv]
    · exact absurd h hd
    · rw [Int.sign_eq_one_of_pos h, Int.one_mul, show (d.natAbs : Int) = d by omega]

end Go.Proofs.YtccikeagbillgaaGreat

/- Triangles that came in, laid flat. -/
namespace Go.Proofs.YtccikeagbillgaaGreat
open Go.RowKit

theorem fits10 {k : IntKind} {cs : Array Value} (h : Fits [.num k, .num k, .num k, .num k, .num k, .num k, .num k, .num k, .num k, .num k] cs.toList) :
    ∃ i x0 y0 z0 x1 y1 z1 x2 y2 z2 : Int, cs = #[.int k i, .int k x0, .int k y0, .int k z0, .int k x1, .int k y1, .int k z1, .int k x2, .int k y2, .int k z2] := by
  obtain ⟨l⟩ := cs
  obtain ⟨_, _, e1, ⟨a, rfl, _⟩, h⟩ := h.cons
  obtain ⟨_, _, e2, ⟨b, rfl, _⟩, h⟩ := h.cons
  obtain ⟨_, _, e3, ⟨c, rfl, _⟩, h⟩ := h.cons
  obtain ⟨_, _, e4, ⟨d, rfl, _⟩, h⟩ := h.cons
  obtain ⟨_, _, e5, ⟨e, rfl, _⟩, h⟩ := h.cons
  obtain ⟨_, _, e6, ⟨f, rfl, _⟩, h⟩ := h.cons
  obtain ⟨_, _, e7, ⟨g, rfl, _⟩, h⟩ := h.cons
  obtain ⟨_, _, e8, ⟨m, rfl, _⟩, h⟩ := h.cons
  obtain ⟨_, _, e9, ⟨n, rfl, _⟩, h⟩ := h.cons
  obtain ⟨_, _, e10, ⟨o, rfl, _⟩, h⟩ := h.cons
  have e11 := h.nil
  subst e11 e10 e9 e8 e7 e6 e5 e4 e3 e2
  exact ⟨a, b, c, d, e, f, g, m, n, o, by rw [show l = _ from e1]⟩

end Go.Proofs.YtccikeagbillgaaGreat

/- Rows of triangles that came in; whole numbers and what they hold. -/
namespace Go.Proofs.YtccikeagbillgaaGreat
open Go.ChangeShapes Go.WideShapes Go.RowKit Go.Deep
set_option linter.unusedVariables false

theorem ra_tri_of (vs : List Value) (h : Fits [.num .i64, .num .i64, .num .i64, .num .i64, .num .i64, .num .i64, .num .i64, .num .i64, .num .i64, .num .i64] vs) : ∃ a : TriR, a.enc = vs := by
  obtain ⟨a0, a1, a2, a3, a4, a5, a6, a7, a8, a9, e⟩ := fits10 (cs := vs.toArray) (by simpa using h)
  exact ⟨⟨a0, a1, a2, a3, a4, a5, a6, a7, a8, a9⟩, by have := congrArg Array.toList e; simpa [TriR.enc] using this.symm⟩

section
variable {H : Type} {enc : TypeId × Value → H} {w : World} {base : Nat} {spare : Nat → Bool} {held : Bool} {r : Reach} {b0 : Nat} {v : Value} {d : DataW H} {p : List MemPlace}

set_option maxRecDepth 100000 in
theorem open_tris (hv : Value.okWide Tryz.prog w r b0 24 v) (h : DataW.Trod enc Tryz.prog w base spare held 24 v d p) : ∃ (at0 : Option Addr) (l : List TriR) (c : Nat), v = .slice at0 l.length c ∧ Sl TriR.enc 10 w (.slice at0 l.length c) l := by
  obtain ⟨a, len, cap, rfl⟩ := okWide_slice Tryz.underlying24 hv
  obtain ⟨fuel, hf⟩ := h
  obtain ⟨v0, l, e, s⟩ := open_row TriR.enc 10 TriR.enc_len (by omega) Tryz.underlying24 (by kernel_rfl) (by kernel_rfl) ra_tri_of hf
  injection e with e
  subst e
  obtain ⟨at0, c, e1, h1⟩ := id s
  rw [e1] at s
  exact ⟨at0, l, c, e1, s⟩

set_option maxRecDepth 100000 in
theorem open_i64 (hv : Value.okWide Tryz.prog w r b0 3 v) (h : DataW.Trod enc Tryz.prog w base spare held 3 v d p) : ∃ x : Int, v = .int .i64 x ∧ i64B x := by
  obtain ⟨x, rfl, -, -, hw⟩ := open_int Tryz.underlying3 hv h
  refine ⟨x, rfl, ?_⟩
  unfold i64B
  simp only [Lit.wf, Bool.and_eq_true, decide_eq_true_eq] at hw
  have h1 : IntKind.i64.min = -9223372036854775808 := by decide
  have h2 : IntKind.i64.max = 9223372036854775807 := by decide
  exact ⟨h1 ▸ hw.1, h2 ▸ hw.2⟩
end

end Go.Proofs.YtccikeagbillgaaGreat

/- The library's Grow of nothing and Concat, of slices of a kind. -/
namespace Go.Proofs.YtccikeagbillgaaGreat
open Go.RowKit
set_option linter.unusedVariables false

theorem sn_info : (Tryz.prog.info? 48).map (fun i => (i.zero, i.size, i.bytes)) = some (some (.agg #[.int .i64 Sn.zero.lo, .int .i64 Sn.zero.hi, .bool Sn.zero.wk]), 3, 24) := by kernel_rfl

def sn_Grown (n : Nat) (w : World) (e : Ending) (w' : World) : Prop := ∃ v, e = .returned v ∧ w'.ownsRow w.heap.size 48 3 v 0 [] ∧ New w w'

set_option maxHeartbeats 2000000 in
theorem sn_grow (n : Nat) (hn : n ≤ 1000) (w : World) : Calls Tryz.prog 83 #[.slice none 0 0, .int .i64 n] w (sn_Grown n w) := by
  have h1 : ¬ ((n : Int) < 0) := by omega
  rcases Nat.eq_zero_or_pos n with rfl | h0
  · go_enter Tryz.func83, Tryz.ntmps83
    go_wp2_with fail
    go_ret
    exact ⟨_, rfl, World.ownsRow_nil _ _ _ _, New.refl _⟩
  · obtain ⟨i, hi, hz0, hz1, hz2⟩ := info_parts sn_info
    have hr : ∀ ty, (Builtin.append_ #[27, 3] ty #[.slice none 0 0, .int .i64 (n : Int)]).run Tryz.prog w = _ := fun ty =>
      Lib.run_append_nil_zeros w 27 3 ty 48 i _ .i64 .i64 Tryz.underlying27 Tryz.underlying3 hi hz0 n h0 (by rw [hz1]; omega) (by omega) (by rw [hz2]; omega)
    have hge : n ≤ grownCap w n 0 48 := grownCap_ge w _ _ _
    have hle : grownCap w n 0 48 ≤ maxLen := grownCap_le_maxLen w n 0 48 (by unfold maxLen; omega)
    obtain ⟨G, hG⟩ : ∃ G, G = grownCap w n 0 48 := ⟨_, rfl⟩
    rw [← hG] at hr hge hle
    have HLE := Lib.hid hle
    unfold maxLen at hle
    have h2 : (0 : Int) < (n : Int) := by omega
    clear hG
    go_enter Tryz.func83, Tryz.ntmps83
    go_wp2_with (at_builtin; refine Lib.wpList_append_run _ rfl _ _ _ _ rfl _ _ rfl rfl _ _ (hr _) ?_)
    go_ret
    refine ⟨_, rfl, ⟨by simp, Or.inr ⟨w.heap.size, G, _, rfl, Nat.le_refl _, heap_new w.drew _, Nat.zero_le _, HLE.out, ?_, by simp⟩⟩, (New.refl w).drew.alloc _⟩
    rw [Array.size_append, size_zeroCells, size_zeroCells]
    show n * 3 + (G - n) * 3 = G * 3
    omega

theorem sn_some {snr : Option Addr} (h : ¬ snr = none) : ∃ a, snr = some a := by
  cases snr with
  | none => exact absurd rfl h
  | some a => exact ⟨a, rfl⟩

set_option maxHeartbeats 4000000 in
set_option maxRecDepth 100000 in
theorem sn_concat (B c : Nat) (ps : List (Part Sn)) (hps : ps.length ≤ 10) (htot : (ps.flatMap (·.l)).length ≤ 1000) (w : World) (H : PartsAt Sn.enc 3 w B ps) :
    Calls Tryz.prog 62 #[.slice (some ⟨B, 0, none⟩) ps.length c] w fun e w' => ∃ v, e = .returned v ∧ w'.ownsRow w.heap.size 48 3 v (ps.flatMap (·.l)).length ((ps.flatMap (·.l)).flatMap Sn.enc) ∧ New w w' := by
  obtain ⟨i0, hi, hz0, hz1, hz2⟩ := info_parts sn_info
  have HH := Lib.hid H
  clear H
  go_enter Tryz.func62, Tryz.ntmps62
  go_wp2_with fail
  go_loopg [3, 11] ps.length (fun k s t wr => ∃ i : Nat, t = .int .i64 i ∧ i + k = ps.length ∧ s = .int .i64 (cat ps i).length ∧ wr = w)
  case atStart => exact ⟨0, by simp, by omega, by simp [cat], rfl⟩
  case round =>
    obtain ⟨i, rfl, hik, rfl, hw⟩ := hrel
    obtain rfl : w = wr := hw.symm
    by_cases hlt : i < ps.length
    · have c0 := (HH.out i hlt).1
      have hcs := cat_succ ps i hlt
      have hle := cat_le ps (i + 1)
      rw [hcs, List.length_append] at hle
      have HCS := Lib.hid hcs
      have hd : decide ((cat ps i).length + ps[i].l.length < (0 : Int)) = false := by simp; omega
      clear hcs
      go_wp2_with fail
      go_roundg (gk - 1)
      case measure => omega
      case rel => exact ⟨i + 1, by go_num, by omega, by rw [HCS.out, List.length_append]; go_num, rfl⟩
    · obtain rfl : i = ps.length := by omega
      have HC := Lib.hid (cat_all ps)
      have hg := Lib.hid (sn_grow (cat ps ps.length).length (by rw [HC.out]; exact htot) w)
      generalize (cat ps ps.length).length = N at *
      go_wp2_with fail
      refine hg.out.mono ?_
      rintro e w1 ⟨v, rfl, hown, n1⟩
      have OW := Lib.hid hown
      clear hown hg
      go_wp2_with fail
      clear hik hlt
      have HP := Lib.hid (HH.out.keep n1)
      go_loopg [6, 27] ps.length (fun k s t wr => ∃ i : Nat, t = .int .i64 i ∧ i + k = ps.length ∧ wr.ownsRow w.heap.size 48 3 s (cat ps i).length ((cat ps i).flatMap Sn.enc) ∧ New w wr)
      case atStart => exact ⟨0, by simp, by omega, by simpa [cat] using OW.out, n1⟩
      case round =>
        clear OW n1
        obtain ⟨i, rfl, hik, hown, hn⟩ := hrel
        have OW := Lib.hid hown
        clear hown
        by_cases hlt : i < ps.length
        · have hp := HH.out.keep hn i hlt
          have c0 := hp.1
          have hcs := cat_succ ps i hlt
          have hle := cat_le ps (i + 1)
          rw [hcs, List.length_append] at hle
          have HCS := Lib.hid hcs
          have HS := Lib.hid hp.2
          have HB := hn.size
          clear hcs hp
          by_cases hnone : ps[i].a = none
          · have hrow := HS.out.row
            have hc0 := hrow.2.2.2.1 hnone
            have hl0 : ps[i].l = [] := List.eq_nil_of_length_eq_zero (by omega)
            rw [hnone, hc0, hl0] at c0
            simp only [List.length_nil] at c0
            have HL := Lib.hid hl0
            clear hrow hc0 hl0 hnone
            go_wp2_with (at_builtin; refine Lib.wpList_append_run _ rfl _ _ _ _ rfl _ _ rfl rfl _ _ (run_append_owned_none (P := Tryz.prog) wr w.heap.size 27 _ 48 i0 3 Tryz.underlying27 hi _ _ _ OW.out) ?_)
            go_roundg (gk - 1)
            case measure => omega
            case rel => exact ⟨i + 1, by go_num, by omega, by rw [HCS.out, HL.out, List.append_nil]; exact OW.out, hn⟩
          · obtain ⟨ad, had⟩ := sn_some hnone
            rw [had] at c0 HS
            clear hnone had
            go_wp2_with (at_builtin; refine wpList_append_own _ rfl _ _ 27 rfl w.heap.size 48 i0 (.agg #[.int .i64 Sn.zero.lo, .int .i64 Sn.zero.hi, .bool Sn.zero.wk]) 3 24 Tryz.underlying27 hi hz0 hz1 hz2 rfl (by decide) _ _ _ rfl OW.out ad _ _ (ps[i].l.flatMap Sn.enc) rfl (flatMap_len Sn.enc_len _) (sl_news Sn.enc_len HS.out) (fun u hu => by obtain ⟨x, _, hx⟩ := List.mem_flatMap.1 hu; exact Sn.enc_one x u hx) (by unfold maxLen; omega) (by omega) HB ?_; intro v' w2 hown' hgrow _)
            have hn2 : New w w2 := newGrown hn hgrow (own_block OW.out)
            have OW2 := Lib.hid hown'
            clear hown' hgrow OW c0
            go_roundg (gk - 1)
            case measure => omega
            case rel => exact ⟨i + 1, by go_num, by omega, by rw [HCS.out, List.length_append, List.flatMap_append]; exact OW2.out, hn2⟩
        · obtain rfl : i = ps.length := by omega
          go_wp2_with fail
          go_ret
          exact ⟨_, rfl, by have := OW.out; rwa [HC.out] at this, hn⟩

end Go.Proofs.YtccikeagbillgaaGreat
