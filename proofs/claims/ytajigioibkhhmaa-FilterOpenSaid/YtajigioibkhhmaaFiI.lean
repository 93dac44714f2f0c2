/- The document's own Open. -/
import Derived.Test.YtajigioibkhhmaaFiH
import Derived.Test.YtajigioibkhhmaaFiG
namespace Go.Proofs.Ytajigioibkhhmaa
open Go.RowKit
set_option linter.unusedVariables false

theorem fitB_at {C : CfgR} {l : List Sn} (hC : C.err = 0) (hl : spE l = 0) {i : Nat} (h : i < l.length) : (l[i].wk && fitB C l i) = opnB C l i := by
  obtain ⟨q1, q2⟩ := rTop_at hl h
  rw [opnB_at C h]
  unfold fitB
  rw [q1, q2]
  have es : ((l[(i : Int).toNat]?.map (·.hi)).getD 0) = l[i].hi := by simp [h]
  rw [es]
  simp [hC]
/-- The open ones of the first i. -/
def opF (C : CfgR) (l : List Sn) (i : Nat) : List Int := ((List.range i).filter (opnB C l)).map (fun k : Nat => (k : Int))
theorem opF_succ (C : CfgR) (l : List Sn) (i : Nat) : opF C l (i + 1) = opF C l i ++ (if opnB C l i = true then [(i : Int)] else []) := by
  unfold opF
  rw [List.range_succ, List.filter_append, List.map_append]
  cases h : opnB C l i <;> simp [h]
theorem opF_len (C : CfgR) (l : List Sn) (i : Nat) : (opF C l i).length ≤ i := by
  unfold opF
  rw [List.length_map]
  exact Nat.le_trans (List.length_filter_le _ _) (by rw [List.length_range]; exact Nat.le_refl _)
theorem opF_all {C : CfgR} {l : List Sn} (h : fiE C l = 0) : opF C l l.length = opI C l := by unfold opF opI opX; rw [if_pos h]; rfl

set_option maxHeartbeats 4000000 in
set_option maxRecDepth 100000 in
theorem rf_open (C : CfgR) (at0 : Option Addr) (l : List Sn) (c : Nat) (hl : l.length ≤ maxLen) (w : World) (H : RowIn Sn.enc 3 w at0 l) :
    Calls Try.prog 9 #[.agg #[.int .i64 C.cl, .int .i64 C.cb, .int .i64 C.ht, .int .i64 C.ri, .int .i64 C.ru, .int .i64 C.wd, .int .i64 C.dp], .slice at0 l.length c] w fun e w' => ∃ v, e = .returned (.tuple #[v, .int .i64 (fiE C l)]) ∧ Sl iE 1 w' v (opI C l) ∧ New w w' := by
  obtain ⟨i0, hi, hz0, hz1, hz2⟩ := info_parts int_info
  have HI := Lib.hid hi
  have KS := Lib.hid (fun W n => rs_check at0 l c hl W (H.keep (n : New w W)))
  have KC := Lib.hid (fun W => rcheck_any C.cl C.cb C.ht C.ri C.ru C.wd C.dp W)
  have KT := Lib.hid (fun k W n => rf_fits C at0 l c hl k W (H.keep (n : New w W)))
  have HH := Lib.hid H
  have h2 := fi_err_two C
  have h3 := chkE_two l
  obtain ⟨r, hr⟩ : ∃ r, r = C.err := ⟨_, rfl⟩
  obtain ⟨q, hq⟩ : ∃ q, q = spE l := ⟨_, rfl⟩
  obtain ⟨f, hf⟩ : ∃ f, f = fiE C l := ⟨_, rfl⟩
  have HF : Hid (f = if r = 0 then q else r) := Lib.hid (by rw [hf, hr, hq]; rfl)
  rw [show checkE C.cl C.cb C.ht C.ri C.ru C.wd C.dp = r from hr.symm] at KC
  rw [← hr] at h2
  rw [← hq] at h3 KS
  rw [← hf]
  have HE := Lib.hid (And.intro hr (And.intro hq hf))
  clear hr hq hf H hi
  obtain ⟨n, hn⟩ : ∃ n, n = l.length := ⟨_, rfl⟩
  rw [← hn] at KS KT ⊢
  have HN := Lib.hid hn
  clear hn
  go_enter Try.func9, Try.ntmps9
  go_upto_region 1 with fail
  refine Code.at (fun W0 hW => ?_)
  have n0 : New w W0 := by subst hW; (repeat (first | (with_reducible exact New.refl _) | (with_reducible assumption) | ((with_reducible refine New.setB ?_ ?_ _); focus (first | omega | (simp; omega) | (simp; done))) | (with_reducible refine New.alloc ?_ _) | (with_reducible refine New.drew ?_) | (with_reducible refine New.drewN ?_ _) | (with_reducible refine New.hat ?_ _) | ((with_reducible apply New.snart); (with_reducible assumption))))
  have hc : CellsAt W0 w.heap.size 0 C.enc := by subst hW; exact cells_new _ _ _
  clear hW
  obtain ⟨c0, c1, c2, c3, c4, c5, c6⟩ := CfgR.at hc
  go_wp2_with fail
  refine (KC.out _).mono ?_
  rintro e w1 ⟨rfl, n1, -⟩
  have hn1 : New w w1 := n0.trans n1
  have hc1 := Lib.hid (hc.keep n1)
  clear c0 c1 c2 c3 c4 c5 c6 hc n1 n0 KC
  rcases h2 with rfl | rfl
  rotate_left
  · have HO : Hid (opI C l = [] ∧ f = 20) := Lib.hid (by
      have e : f = 20 := HF.out
      refine ⟨?_, e⟩
      have h0 : fiE C l ≠ 0 := by rw [← HE.out.2.2, e]; decide
      unfold opI opX; rw [if_neg h0]; rfl)
    go_wp2_with fail
    rw [HO.out.2]
    refine bodyPost_ret (v := .tuple #[.slice none 0 0, .int .i64 20]) (by simp [results, Try.results9, go_sem, *]) rfl ?_
    exact ⟨_, rfl, by rw [HO.out.1]; exact Sl.nil, hn1⟩
  · go_wp2_with fail
    refine (KS.out _ hn1).mono ?_
    rintro e w2 ⟨rfl, n2⟩
    have hn2 : New w w2 := hn1.trans n2
    have hc2 := Lib.hid (hc1.out.keep n2)
    clear n2 hn1 hc1
    rcases h3 with rfl | rfl
    rotate_left
    · have HO : Hid (opI C l = [] ∧ f = 2) := Lib.hid (by
        have e : f = 2 := HF.out
        refine ⟨?_, e⟩
        have h0 : fiE C l ≠ 0 := by rw [← HE.out.2.2, e]; decide
        unfold opI opX; rw [if_neg h0]; rfl)
      go_wp2_with fail
      rw [HO.out.2]
      refine bodyPost_ret (v := .tuple #[.slice none 0 0, .int .i64 2]) (by simp [results, Try.results9, go_sem, *]) rfl ?_
      exact ⟨_, rfl, by rw [HO.out.1]; exact Sl.nil, hn2⟩
    · have hf0 : f = 0 := HF.out
      have HO : Hid (opF C l l.length = opI C l) := Lib.hid (opF_all (by rw [← HE.out.2.2]; exact hf0))
      have hl8 : n ≤ 8 := by rw [HN.out]; exact (chkE_zero HE.out.2.1.symm).1
      subst hf0
      go_wp2_with fail
      go_loopg [7, 8] n (fun gk s7 s8 wr => ∃ i : Nat, s8 = .int .i64 i ∧ i ≤ n ∧ n - i ≤ gk ∧ Hid (wr.ownsRow w2.heap.size 3 1 s7 (opF C l i).length ((opF C l i).flatMap iE)) ∧ Hid (New w2 wr))
      case atStart => exact ⟨0, rfl, by omega, by omega, Lib.hid (World.ownsRow_nil _ _ _ _), Lib.hid (New.refl _)⟩
      case round =>
        obtain ⟨i, rfl, hi', hgk, HW, hnr⟩ := hrel
        obtain ⟨c0, c1, c2, c3, c4, c5, c6⟩ := CfgR.at (hc2.out.keep hnr.out)
        have hnw := hn2.trans hnr.out
        have hfs := opF_succ C l i
        have hfl := opF_len C l i
        by_cases hlt : i < n
        · have hil : i < l.length := by rw [← HN.out]; exact hlt
          obtain ⟨b0, off, rfl, hA⟩ := HH.out (by omega)
          obtain ⟨-, -, d2⟩ := Sn.cells (hA.keep hnw) i hil
          have hop := fitB_at HE.out.1.symm HE.out.2.1.symm hil
          have T1 := fun W n => KT.out i W n
          cases hb : opnB C l i
          · rw [hb] at hop hfs
            simp only [Bool.false_eq_true, if_false, List.append_nil] at hfs
            have HFS := Lib.hid hfs
            clear hfs hb hA
            cases hwk : l[i].wk
            · rw [hwk] at d2
              have HWK := Lib.hid hwk
              clear hwk hop T1
              go_wp2_with fail
              go_roundg (n - (i + 1))
              case measure => omega
              case rel => exact ⟨i + 1, by go_num, by omega, by omega, by rw [HFS.out]; exact HW, hnr⟩
            · rw [hwk] at d2 hop
              rw [Bool.true_and] at hop
              rw [hop] at T1
              have TT := Lib.hid T1
              have HWK := Lib.hid hwk
              clear hwk hop T1
              go_wp2_with fail
              refine (TT.out _ hnw).mono ?_
              rintro e w3 ⟨rfl, n3⟩
              have hn3 := Lib.hid (hnr.out.trans n3)
              have HW3 := Lib.hid (own_new HW.out n3)
              clear n3 c0 c1 c2 c3 c4 c5 c6 d2
              go_wp2_with fail
              go_roundg (n - (i + 1))
              case measure => omega
              case rel => exact ⟨i + 1, by go_num, by omega, by omega, by rw [HFS.out]; exact HW3, hn3⟩
          · rw [hb] at hop hfs
            simp only [if_true] at hfs
            have HFS := Lib.hid hfs
            clear hfs hb hA
            have h4 : l[i].wk = true ∧ fitB C l i = true := by simpa using hop
            rw [h4.1] at d2
            rw [h4.2] at T1
            have TT := Lib.hid T1
            clear h4 hop T1
            go_wp2_with fail
            refine (TT.out _ hnw).mono ?_
            rintro e w3 ⟨rfl, n3⟩
            have hn3 := Lib.hid (hnr.out.trans n3)
            have HW3 := Lib.hid (own_new HW.out n3)
            have hws := hn3.out.size
            clear n3 c0 c1 c2 c3 c4 c5 c6 d2 hnw
            go_wp2_with (at_builtin; refine wpList_append_own _ rfl _ _ 28 rfl w2.heap.size 3 i0 (.int .i64 0) 1 8 Try.underlying28 HI.out hz0 hz1 hz2 rfl (by decide) _ _ _ rfl (World.ownsRow.alloc HW3.out _) ⟨w3.heap.size, 0, none⟩ 1 1 (iE i) rfl rfl (cells_int _ _ _) (by intro u hu; simp at hu; subst hu; rfl) (by unfold maxLen; omega) (by omega) (by simp; omega) ?_)
            intro v' w4 hown' hgrow _
            have hn4 := Lib.hid (newGrown (New.alloc hn3.out _) hgrow (own_block HW3.out))
            have HW4 := Lib.hid hown'
            clear hown' hgrow
            go_wp2_with fail
            go_roundg (n - (i + 1))
            case measure => omega
            case rel => exact ⟨i + 1, by go_num, by omega, by omega, Lib.hid (by rw [HFS.out]; simpa using HW4.out), hn4⟩
        · have hin : i = n := by omega
          have HIN := Lib.hid hin
          clear hin hfs
          go_wp2_with fail
          obtain ⟨aa, cc, NN, hNN, rfl⟩ := own_shape2 HW.out
          refine bodyPost_ret (v := .tuple #[.slice aa NN cc, .int .i64 0]) (by simp [results, Try.results9, go_sem, *]) rfl ?_
          refine ⟨_, rfl, ?_, hnw⟩
          have h5 := own_sl (e := 3) iE_len HW.out
          rw [HIN.out, HN.out, HO.out] at h5
          exact h5

end Go.Proofs.Ytajigioibkhhmaa
