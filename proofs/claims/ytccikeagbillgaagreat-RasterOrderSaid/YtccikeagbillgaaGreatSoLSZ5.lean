import Derived.Test.YtccikeagbillgaaGreatSoWZ5
import Derived.Test.YtccikeagbillgaaGreatSpAZ5
import Derived.Test.YtccikeagbillgaaGreatSteady
import Derived.Deep.LoopGhost

/- The library's Grow of nothing and Concat, of slices of a kind. -/
namespace Go.Proofs.YtccikeagbillgaaGreat
open Go.RowKit
set_option linter.unusedVariables false

theorem sn_info : (Tryz.prog.info? 48).map (fun i => (i.zero, i.size, i.bytes)) = some (some (.agg #[.int .i64 Sn.zero.lo, .int .i64 Sn.zero.hi, .bool Sn.zero.wk]), 3, 24) := by kernel_rfl

def sn_Grown (n : Nat) (w : World) (e : Ending) (w' : World) : Prop := ∃ v, e = .returned v ∧ w'.ownsRow w.heap.size 48 3 v 0 [] ∧ New w w'

set_option maxHeartbeats 2000000 in
theorem sn_grow (n : Nat) (hn : n ≤ 1000) (w : World) : Calls Tryz.prog 83 #[.slice none 0 0, .int .i64 n] w (sn_Grown n w) := by
  have h1 : ¬ ((n : Int) < 0) := by omega
  rcases Nat.eq_zero_or_pos n with rfl | h0
  · go_enter Tryz.func83, Tryz.ntmps83
    go_wp2_with fail
    go_ret
    exact ⟨_, rfl, World.ownsRow_nil _ _ _ _, New.refl _⟩
  · obtain ⟨i, hi, hz0, hz1, hz2⟩ := info_parts sn_info
    have hr : ∀ ty, (Builtin.append_ #[27, 3] ty #[.slice none 0 0, .int .i64 (n : Int)]).run Tryz.prog w = _ := fun ty =>
      Lib.run_append_nil_zeros w 27 3 ty 48 i _ .i64 .i64 Tryz.underlying27 Tryz.underlying3 hi hz0 n h0 (by rw [hz1]; omega) (by omega) (by rw [hz2]; omega)
    have hge : n ≤ grownCap w n 0 48 := grownCap_ge w _ _ _
    have hle : grownCap w n 0 48 ≤ maxLen := grownCap_le_maxLen w n 0 48 (by unfold maxLen; omega)
    obtain ⟨G, hG⟩ : ∃ G, G = grownCap w n 0 48 := ⟨_, rfl⟩
    rw [← hG] at hr hge hle
    have HLE := Lib.hid hle
    unfold maxLen at hle
    have h2 : (0 : Int) < (n : Int) := by omega
    clear hG
    go_enter Tryz.func83, Tryz.ntmps83
    go_wp2_with (at_builtin; refine Lib.wpList_append_run _ rfl _ _ _ _ rfl _ _ rfl rfl _ _ (hr _) ?_)
    go_ret
    refine ⟨_, rfl, ⟨by simp, Or.inr ⟨w.heap.size, G, _, rfl, Nat.le_refl _, heap_new w.drew _, Nat.zero_le _, HLE.out, ?_, by simp⟩⟩, (New.refl w).drew.alloc _⟩
    rw [Array.size_append, size_zeroCells, size_zeroCells]
    show n * 3 + (G - n) * 3 = G * 3
    omega

theorem sn_some {snr : Option Addr} (h : ¬ snr = none) : ∃ a, snr = some a := by
  cases snr with
  | none => exact absurd rfl h
  | some a => exact ⟨a, rfl⟩

set_option maxHeartbeats 4000000 in
set_option maxRecDepth 100000 in
theorem sn_concat (B c : Nat) (ps : List (Part Sn)) (hps : ps.length ≤ 10) (htot : (ps.flatMap (·.l)).length ≤ 1000) (w : World) (H : PartsAt Sn.enc 3 w B ps) :
    Calls Tryz.prog 62 #[.slice (some ⟨B, 0, none⟩) ps.length c] w fun e w' => ∃ v, e = .returned v ∧ w'.ownsRow w.heap.size 48 3 v (ps.flatMap (·.l)).length ((ps.flatMap (·.l)).flatMap Sn.enc) ∧ New w w' := by
  obtain ⟨i0, hi, hz0, hz1, hz2⟩ := info_parts sn_info
  have HH := Lib.hid H
  clear H
  go_enter Tryz.func62, Tryz.ntmps62
  go_wp2_with fail
  go_loopg [3, 11] ps.length (fun k s t wr => ∃ i : Nat, t = .int .i64 i ∧ i + k = ps.length ∧ s = .int .i64 (cat ps i).length ∧ wr = w)
  case atStart => exact ⟨0, by simp, by omega, by simp [cat], rfl⟩
  case round =>
    obtain ⟨i, rfl, hik, rfl, hw⟩ := hrel
    obtain rfl : w = wr := hw.symm
    by_cases hlt : i < ps.length
    · have c0 := (HH.out i hlt).1
      have hcs := cat_succ ps i hlt
      have hle := cat_le ps (i + 1)
      rw [hcs, List.length_append] at hle
      have HCS := Lib.hid hcs
      have hd : decide ((cat ps i).length + ps[i].l.length < (0 : Int)) = false := by simp; omega
      clear hcs
      go_wp2_with fail
      go_roundg (gk - 1)
      case measure => omega
      case rel => exact ⟨i + 1, by go_num, by omega, by rw [HCS.out, List.length_append]; go_num, rfl⟩
    · obtain rfl : i = ps.length := by omega
      have HC := Lib.hid (cat_all ps)
      have hg := Lib.hid (sn_grow (cat ps ps.length).length (by rw [HC.out]; exact htot) w)
      generalize (cat ps ps.length).length = N at *
      go_wp2_with fail
      refine hg.out.mono ?_
      rintro e w1 ⟨v, rfl, hown, n1⟩
      have OW := Lib.hid hown
      clear hown hg
      go_wp2_with fail
      clear hik hlt
      have HP := Lib.hid (HH.out.keep n1)
      go_loopg [6, 27] ps.length (fun k s t wr => ∃ i : Nat, t = .int .i64 i ∧ i + k = ps.length ∧ wr.ownsRow w.heap.size 48 3 s (cat ps i).length ((cat ps i).flatMap Sn.enc) ∧ New w wr)
      case atStart => exact ⟨0, by simp, by omega, by simpa [cat] using OW.out, n1⟩
      case round =>
        clear OW n1
        obtain ⟨i, rfl, hik, hown, hn⟩ := hrel
        have OW := Lib.hid hown
        clear hown
        by_cases hlt : i < ps.length
        · have hp := HH.out.keep hn i hlt
          have c0 := hp.1
          have hcs := cat_succ ps i hlt
          have hle := cat_le ps (i + 1)
          rw [hcs, List.length_append] at hle
          have HCS := Lib.hid hcs
          have HS := Lib.hid hp.2
          have HB := hn.size
          clear hcs hp
          by_cases hnone : ps[i].a = none
          · have hrow := HS.out.row
            have hc0 := hrow.2.2.2.1 hnone
            have hl0 : ps[i].l = [] := List.eq_nil_of_length_eq_zero (by omega)
            rw [hnone, hc0, hl0] at c0
            simp only [List.length_nil] at c0
            have HL := Lib.hid hl0
            clear hrow hc0 hl0 hnone
            go_wp2_with (at_builtin; refine Lib.wpList_append_run _ rfl _ _ _ _ rfl _ _ rfl rfl _ _ (run_append_owned_none (P := Tryz.prog) wr w.heap.size 27 _ 48 i0 3 Tryz.underlying27 hi _ _ _ OW.out) ?_)
            go_roundg (gk - 1)
            case measure => omega
            case rel => exact ⟨i + 1, by go_num, by omega, by rw [HCS.out, HL.out, List.append_nil]; exact OW.out, hn⟩
          · obtain ⟨ad, had⟩ := sn_some hnone
            rw [had] at c0 HS
            clear hnone had
            go_wp2_with (at_builtin; refine wpList_append_own _ rfl _ _ 27 rfl w.heap.size 48 i0 (.agg #[.int .i64 Sn.zero.lo, .int .i64 Sn.zero.hi, .bool Sn.zero.wk]) 3 24 Tryz.underlying27 hi hz0 hz1 hz2 rfl (by decide) _ _ _ rfl OW.out ad _ _ (ps[i].l.flatMap Sn.enc) rfl (flatMap_len Sn.enc_len _) (sl_news Sn.enc_len HS.out) (fun u hu => by obtain ⟨x, _, hx⟩ := List.mem_flatMap.1 hu; exact Sn.enc_one x u hx) (by unfold maxLen; omega) (by omega) HB ?_; intro v' w2 hown' hgrow _)
            have hn2 : New w w2 := newGrown hn hgrow (own_block OW.out)
            have OW2 := Lib.hid hown'
            clear hown' hgrow OW c0
            go_roundg (gk - 1)
            case measure => omega
            case rel => exact ⟨i + 1, by go_num, by omega, by rw [HCS.out, List.length_append, List.flatMap_append]; exact OW2.out, hn2⟩
        · obtain rfl : i = ps.length := by omega
          go_wp2_with fail
          go_ret
          exact ⟨_, rfl, by have := OW.out; rwa [HC.out] at this, hn⟩

end Go.Proofs.YtccikeagbillgaaGreat
