import Derived.Test.YtklopjbpfddgfaaSoWZ11
import Derived.Test.YtklopjbpfddgfaaOgAZ11
import Derived.Test.YtklopjbpfddgfaaSteady
import Derived.Deep.LoopGhost

/- The library's Grow of nothing and Concat, of slices of a kind. -/
namespace Go.Proofs.Ytklopjbpfddgfaa
open Go.RowKit
set_option linter.unusedVariables false

theorem fl_info : (Try.prog.info? 43).map (fun i => (i.zero, i.size, i.bytes)) = some (some (.agg #[.int .i64 Fl.zero.y, .int .i64 Fl.zero.top, .int .i64 Fl.zero.area]), 3, 24) := by kernel_rfl

def fl_Grown (n : Nat) (w : World) (e : Ending) (w' : World) : Prop := ∃ v, e = .returned v ∧ w'.ownsRow w.heap.size 43 3 v 0 [] ∧ New w w'

set_option maxHeartbeats 2000000 in
theorem fl_grow (n : Nat) (hn : n ≤ 1000) (w : World) : Calls Try.prog 32 #[.slice none 0 0, .int .i64 n] w (fl_Grown n w) := by
  have h1 : ¬ ((n : Int) < 0) := by omega
  rcases Nat.eq_zero_or_pos n with rfl | h0
  · go_enter Try.func32, Try.ntmps32
    go_wp2_with fail
    go_ret
    exact ⟨_, rfl, World.ownsRow_nil _ _ _ _, New.refl _⟩
  · obtain ⟨i, hi, hz0, hz1, hz2⟩ := info_parts fl_info
    have hr : ∀ ty, (Builtin.append_ #[32, 3] ty #[.slice none 0 0, .int .i64 (n : Int)]).run Try.prog w = _ := fun ty =>
      Lib.run_append_nil_zeros w 32 3 ty 43 i _ .i64 .i64 Try.underlying32 Try.underlying3 hi hz0 n h0 (by rw [hz1]; omega) (by omega) (by rw [hz2]; omega)
    have hge : n ≤ grownCap w n 0 43 := grownCap_ge w _ _ _
    have hle : grownCap w n 0 43 ≤ maxLen := grownCap_le_maxLen w n 0 43 (by unfold maxLen; omega)
    obtain ⟨G, hG⟩ : ∃ G, G = grownCap w n 0 43 := ⟨_, rfl⟩
    rw [← hG] at hr hge hle
    have HLE := Lib.hid hle
    unfold maxLen at hle
    have h2 : (0 : Int) < (n : Int) := by omega
    clear hG
    go_enter Try.func32, Try.ntmps32
    go_wp2_with (at_builtin; refine Lib.wpList_append_run _ rfl _ _ _ _ rfl _ _ rfl rfl _ _ (hr _) ?_)
    go_ret
    refine ⟨_, rfl, ⟨by simp, Or.inr ⟨w.heap.size, G, _, rfl, Nat.le_refl _, heap_new w.drew _, Nat.zero_le _, HLE.out, ?_, by simp⟩⟩, (New.refl w).drew.alloc _⟩
    rw [Array.size_append, size_zeroCells, size_zeroCells]
    show n * 3 + (G - n) * 3 = G * 3
    omega

theorem fl_some {flr : Option Addr} (h : ¬ flr = none) : ∃ a, flr = some a := by
  cases flr with
  | none => exact absurd rfl h
  | some a => exact ⟨a, rfl⟩

set_option maxHeartbeats 4000000 in
set_option maxRecDepth 100000 in
theorem fl_concat (B c : Nat) (ps : List (Part Fl)) (hps : ps.length ≤ 10) (htot : (ps.flatMap (·.l)).length ≤ 1000) (w : World) (H : PartsAt Fl.enc 3 w B ps) :
    Calls Try.prog 24 #[.slice (some ⟨B, 0, none⟩) ps.length c] w fun e w' => ∃ v, e = .returned v ∧ w'.ownsRow w.heap.size 43 3 v (ps.flatMap (·.l)).length ((ps.flatMap (·.l)).flatMap Fl.enc) ∧ New w w' := by
  obtain ⟨i0, hi, hz0, hz1, hz2⟩ := info_parts fl_info
  have HH := Lib.hid H
  clear H
  go_enter Try.func24, Try.ntmps24
  go_wp2_with fail
  go_loopg [3, 11] ps.length (fun k s t wr => ∃ i : Nat, t = .int .i64 i ∧ i + k = ps.length ∧ s = .int .i64 (cat ps i).length ∧ wr = w)
  case atStart => exact ⟨0, by simp, by omega, by simp [cat], rfl⟩
  case round =>
    obtain ⟨i, rfl, hik, rfl, hw⟩ := hrel
    obtain rfl : w = wr := hw.symm
    by_cases hlt : i < ps.length
    · have c0 := (HH.out i hlt).1
      have hcs := cat_succ ps i hlt
      have hle := cat_le ps (i + 1)
      rw [hcs, List.length_append] at hle
      have HCS := Lib.hid hcs
      have hd : decide ((cat ps i).length + ps[i].l.length < (0 : Int)) = false := by simp; omega
      clear hcs
      go_wp2_with fail
      go_roundg (gk - 1)
      case measure => omega
      case rel => exact ⟨i + 1, by go_num, by omega, by rw [HCS.out, List.length_append]; go_num, rfl⟩
    · obtain rfl : i = ps.length := by omega
      have HC := Lib.hid (cat_all ps)
      have hg := Lib.hid (fl_grow (cat ps ps.length).length (by rw [HC.out]; exact htot) w)
      generalize (cat ps ps.length).length = N at *
      go_wp2_with fail
      refine hg.out.mono ?_
      rintro e w1 ⟨v, rfl, hown, n1⟩
      have OW := Lib.hid hown
      clear hown hg
      go_wp2_with fail
      clear hik hlt
      have HP := Lib.hid (HH.out.keep n1)
      go_loopg [6, 27] ps.length (fun k s t wr => ∃ i : Nat, t = .int .i64 i ∧ i + k = ps.length ∧ wr.ownsRow w.heap.size 43 3 s (cat ps i).length ((cat ps i).flatMap Fl.enc) ∧ New w wr)
      case atStart => exact ⟨0, by simp, by omega, by simpa [cat] using OW.out, n1⟩
      case round =>
        clear OW n1
        obtain ⟨i, rfl, hik, hown, hn⟩ := hrel
        have OW := Lib.hid hown
        clear hown
        by_cases hlt : i < ps.length
        · have hp := HH.out.keep hn i hlt
          have c0 := hp.1
          have hcs := cat_succ ps i hlt
          have hle := cat_le ps (i + 1)
          rw [hcs, List.length_append] at hle
          have HCS := Lib.hid hcs
          have HS := Lib.hid hp.2
          have HB := hn.size
          clear hcs hp
          by_cases hnone : ps[i].a = none
          · have hrow := HS.out.row
            have hc0 := hrow.2.2.2.1 hnone
            have hl0 : ps[i].l = [] := List.eq_nil_of_length_eq_zero (by omega)
            rw [hnone, hc0, hl0] at c0
            simp only [List.length_nil] at c0
            have HL := Lib.hid hl0
            clear hrow hc0 hl0 hnone
            go_wp2_with (at_builtin; refine Lib.wpList_append_run _ rfl _ _ _ _ rfl _ _ rfl rfl _ _ (run_append_owned_none (P := Try.prog) wr w.heap.size 32 _ 43 i0 3 Try.underlying32 hi _ _ _ OW.out) ?_)
            go_roundg (gk - 1)
            case measure => omega
            case rel => exact ⟨i + 1, by go_num, by omega, by rw [HCS.out, HL.out, List.append_nil]; exact OW.out, hn⟩
          · obtain ⟨ad, had⟩ := fl_some hnone
            rw [had] at c0 HS
            clear hnone had
            go_wp2_with (at_builtin; refine wpList_append_own _ rfl _ _ 32 rfl w.heap.size 43 i0 (.agg #[.int .i64 Fl.zero.y, .int .i64 Fl.zero.top, .int .i64 Fl.zero.area]) 3 24 Try.underlying32 hi hz0 hz1 hz2 rfl (by decide) _ _ _ rfl OW.out ad _ _ (ps[i].l.flatMap Fl.enc) rfl (flatMap_len Fl.enc_len _) (sl_news Fl.enc_len HS.out) (fun u hu => by obtain ⟨x, _, hx⟩ := List.mem_flatMap.1 hu; exact Fl.enc_one x u hx) (by unfold maxLen; omega) (by omega) HB ?_; intro v' w2 hown' hgrow _)
            have hn2 : New w w2 := newGrown hn hgrow (own_block OW.out)
            have OW2 := Lib.hid hown'
            clear hown' hgrow OW c0
            go_roundg (gk - 1)
            case measure => omega
            case rel => exact ⟨i + 1, by go_num, by omega, by rw [HCS.out, List.length_append, List.flatMap_append]; exact OW2.out, hn2⟩
        · obtain rfl : i = ps.length := by omega
          go_wp2_with fail
          go_ret
          exact ⟨_, rfl, by have := OW.out; rwa [HC.out] at this, hn⟩

end Go.Proofs.Ytklopjbpfddgfaa
