import Derived.Test.YtklopjbpfddgfaaGreatOgBbZ13
import Derived.Test.YtklopjbpfddgfaaGreatRaGrZ12
import Derived.Deep.DeepCutAuto

/- The law OpenParts. (Written by gen_ogparts.py.) -/
namespace Go.Proofs.YtklopjbpfddgfaaGreat
open Go.RowKit
set_option linter.unusedVariables false

theorem bF_small8 (C : CfgR) (l : List TriR) (x z wi d : Int) (j : Nat) (h : j < (bF C l x z wi d).length) : (bF C l x z wi d)[j].length ≤ 8 := by
  have hm : (bF C l x z wi d)[j] ∈ bF C l x z wi d := List.getElem_mem h
  generalize (bF C l x z wi d)[j] = q at *
  unfold bF at hm
  obtain ⟨r, -, rfl⟩ := List.mem_map.1 hm
  exact flX_len8 C _
theorem bF_row {C : CfgR} {l : List TriR} {x z wi d : Int} {j : Nat} (h : j < (bF C l x z wi d).length) : ∃ r, (bF C l x z wi d)[j] = flX C r := by
  have hm : (bF C l x z wi d)[j] ∈ bF C l x z wi d := List.getElem_mem h
  generalize (bF C l x z wi d)[j] = q at *
  unfold bF at hm
  obtain ⟨r, -, rfl⟩ := List.mem_map.1 hm
  exact ⟨r, rfl⟩

set_option maxHeartbeats 16000000 in
set_option maxRecDepth 100000 in
theorem l_openParts (C : CfgR) (at1 : Option Addr) (ts : List TriR) (tc : Nat) (x z wi d left top less : Int) (hi64 : i64B left ∧ i64B top ∧ i64B less) (w : World) (h1 : Sl TriR.enc 10 w (.slice at1 ts.length tc) ts) :
    Calls Tryz.prog 4 #[.agg #[.int .i64 C.cl, .int .i64 C.cb, .int .i64 C.ht, .int .i64 C.ri, .int .i64 C.ru, .int .i64 C.wd, .int .i64 C.dp], .slice at1 ts.length tc, .int .i64 x, .int .i64 z, .int .i64 wi, .int .i64 d, .int .i64 left, .int .i64 top, .int .i64 less] w fun e w' => e = .returned (.bool true) ∧ New w w' := by
  have htl : ts.length ≤ maxLen := by obtain ⟨_, q1, q2, _⟩ := h1.row'; omega
  have KW := Lib.hid (fun W => og_wakes W)
  have KGr := Lib.hid (fun W => ra_great at1 ts.length tc htl W)
  have KB := Lib.hid (fun x z wi d W n => og_build C at1 ts tc htl x z wi d W ((h1.keep (n : New w W)).row'.2.2.2.2))
  clear h1 htl
  generalize ts.length = m at *
  go_enter Tryz.func4, Tryz.ntmps4
  go_upto_region 1 with fail
  refine Code.at (fun W0 hW => ?_)
  have n0 : New w W0 := by subst hW; (repeat (first | (with_reducible exact New.refl _) | (with_reducible assumption) | ((with_reducible refine New.setB ?_ ?_ _); focus (first | omega | (simp; omega) | (simp; done))) | (with_reducible refine New.alloc ?_ _) | (with_reducible refine New.drew ?_) | (with_reducible refine New.drewN ?_ _) | (with_reducible refine New.hat ?_ _) | ((with_reducible apply New.snart); (with_reducible assumption))))
  have hc : CellsAt W0 w.heap.size 0 C.enc := by subst hW; exact cells_new _ _ _
  clear hW
  have HC := Lib.hid (fun W (q : New W0 W) => CfgR.at (hc.keep q))
  have N0 := Lib.hid n0
  clear hc n0
  go_cut [37] (fun s37 Z => (∃ b : Bool, s37 = .bool b) ∧ New W0 Z)
  case first =>
    by_cases h40 : 40 < m
    · have hd : decide (40 < m) = true := decide_eq_true h40
      rw [hd] at KGr
      go_wp2_with fail
      refine (KGr.out _).mono ?_
      rintro e w1 ⟨rfl, n1⟩
      as_aux_lemma =>
        go_wp2_with fail
        all_goals
          go_meet
          exact ⟨⟨_, rfl⟩, n1⟩
    · have hd : decide (40 < m) = false := decide_eq_false h40
      rw [hd] at KGr
      go_wp2_with fail
      refine (KGr.out _).mono ?_
      rintro e w1 ⟨rfl, n1⟩
      as_aux_lemma =>
        go_wp2_with fail
        all_goals
          go_meet
          exact ⟨⟨_, rfl⟩, n1⟩
  case rest =>
    obtain ⟨⟨b, rfl⟩, n1⟩ := hcut
    cases b
    rotate_left
    · have nn := N0.out.trans n1
      go_wp2_with fail
      refine (KW.out _).mono ?_
      rintro e w2 ⟨rfl, n2⟩
      go_wp2_with fail
      go_ret
      exact ⟨rfl, nn.trans n2⟩
    have HN1 := Lib.hid n1
    obtain ⟨c0, c1, c2, c3, c4, c5, c6⟩ := HC.out _ n1
    clear n1
    have KB1 := Lib.hid (KB.out x z wi d)
    obtain ⟨er, her⟩ : ∃ q, q = bE C ts x z wi d := ⟨_, rfl⟩
    rw [← her] at KB1
    have HER := Lib.hid her
    clear her
    go_wp2_with fail
    refine (KB1.out _ (N0.out.trans HN1.out)).mono ?_
    rintro e w4 ⟨G, rfl, hG, hg1, hg2, n4⟩
    have N4 := Lib.hid (HN1.out.trans n4)
    have HGf := Lib.hid (And.intro hg1 hg2)
    have HGo := Lib.hid hG
    clear c0 c1 c2 c3 c4 c5 c6 hg1 hg2 hG n4 KB1
    obtain ⟨ga, hga⟩ : ∃ q, q = G.ga := ⟨_, rfl⟩
    obtain ⟨gn, hgn⟩ : ∃ q, q = G.L.length := ⟨_, rfl⟩
    go_upto_region 4 with fail
    refine Code.at (fun W5 hW => ?_)
    have n5 : New w4 W5 := by subst hW; (repeat (first | (with_reducible exact New.refl _) | (with_reducible assumption) | ((with_reducible refine New.setB ?_ ?_ _); focus (first | omega | (simp; omega) | (simp; done))) | (with_reducible refine New.alloc ?_ _) | (with_reducible refine New.drew ?_) | (with_reducible refine New.drewN ?_ _) | (with_reducible refine New.hat ?_ _) | ((with_reducible apply New.snart); (with_reducible assumption))))
    have hgc : CellsAt W5 w4.heap.size 0 G.enc := by subst hW; exact cells_new _ _ _
    clear hW
    have N5 := Lib.hid (N4.out.trans n5)
    have HGC := Lib.hid (fun W (q : New W5 W) => Gd.at (hgc.keep q))
    have HGo5 : Hid (RowsK Fl.enc 3 W5 (.slice G.ga G.L.length G.gc) G.L) := Lib.hid (HGo.out.keep n5)
    clear hgc n5
    generalize w4.heap.size = PG at *
    rw [← hga, ← hgn] at HGC HGo5 ⊢
    have HGN := Lib.hid (And.intro hga hgn)
    clear hga hgn
    have NW5 := Lib.hid (N0.out.trans N5.out)
    by_cases h0 : er = 0
    rotate_left
    · have hne : (er != 0) = true := by rw [bne_iff_ne]; exact h0
      obtain ⟨-, -, -, -, g4⟩ := HGC.out _ (New.refl W5)
      have hgn0 : gn = 0 := by rw [HGN.out.2, (HGf.out.2 h0).2.2.2.2]; rfl
      subst hgn0
      clear h0
      go_wp2_with fail
      refine (KW.out _).mono ?_
      rintro e w6 ⟨rfl, n6⟩
      have nn := NW5.out.trans n6
      go_wp2_with fail
      go_ret
      exact ⟨rfl, nn⟩
    have h00 : bE C ts x z wi d = 0 := by rw [← HER.out]; exact h0
    obtain ⟨f1, f2, f3, f4, f5⟩ := HGf.out.1 h0
    have hbx := boxB_iff.1 (bE_zero h00).2.1
    have HE0 := Lib.hid (built_fine h00 f1 f2 f3 f4 f5)
    have hln : (gn : Int) = wi * d := by rw [HGN.out.2, f5]; exact bF_len h00
    have hmm := mul_64 (show 0 ≤ wi by omega) (show wi ≤ 64 by omega) (show 0 ≤ d by omega) (show d ≤ 64 by omega)
    have hwm : IntKind.i64.wrap (wi * d) = wi * d := IntWalk.i64_in _ (by omega)
    have hne : ((gn : Int) != wi * d) = false := by rw [bne_eq_false_iff_eq]; exact hln
    have HL := Lib.hid hln
    have HB0 := Lib.hid h00
    have HGL := Lib.hid f5
    have HGx := Lib.hid (And.intro f1 (And.intro f2 (And.intro f3 f4)))
    have KC := Lib.hid (fun W q => by have := og_check G W q; rw [HE0.out] at this; exact this : ∀ W, G.ok W → Calls Tryz.prog 13 #[.agg #[.int .i64 G.x, .int .i64 G.z, .int .i64 G.w, .int .i64 G.d, .slice G.ga G.L.length G.gc]] W fun e w' => e = .returned (.int .i64 0) ∧ New W w')
    have HGoW := Lib.hid (fun W (q : New W5 W) => (show G.ok W from by
      have h := HGo5.out.keep q
      rw [HGN.out.1, HGN.out.2] at h
      exact h))
    have hgn4 : gn ≤ 4096 := by omega
    rw [← HGN.out.1, ← HGN.out.2] at KC
    subst h0
    clear h00 f1 f2 f3 f4 f5 hln
    obtain ⟨g0, g1, g2, g3, g4⟩ := HGC.out _ (New.refl W5)
    go_wp2_with fail
    refine (KC.out _ (HGoW.out _ (New.refl W5))).mono ?_
    rintro e w6 ⟨rfl, n6⟩
    have N6 := Lib.hid n6
    clear g0 g1 g2 g3 g4 n6
    obtain ⟨g0, g1, g2, g3, g4⟩ := HGC.out _ N6.out
    go_wp2_with fail
    clear g0 g1 g2 g3 g4
    go_loopg [73] gn (fun gk s73 wr => ∃ i : Nat, s73 = .int .i64 i ∧ i ≤ gn ∧ gn - i ≤ gk ∧ Hid (New W5 wr))
    case atStart => exact ⟨0, rfl, by omega, by omega, N6⟩
    case round =>
      obtain ⟨i, rfl, hi, hgk, hnr⟩ := hrel
      obtain ⟨g0, g1, g2, g3, g4⟩ := HGC.out _ hnr.out
      by_cases hlt : i < gn
      · have hil : i < G.L.length := by rw [← HGN.out.2]; exact hlt
        obtain ⟨b, off, a, c, rfl, hcell, hs⟩ := (HGo5.out.keep hnr.out).at i hil
        have hil2 : i < (bF C ts x z wi d).length := by rw [← HGL.out]; exact hil
        have heq : G.L[i] = (bF C ts x z wi d)[i] := by
          have : G.L[i]? = (bF C ts x z wi d)[i]? := by rw [HGL.out]
          rw [List.getElem?_eq_getElem hil, List.getElem?_eq_getElem hil2] at this
          exact Option.some.inj this
        obtain ⟨r, hr⟩ := bF_row hil2
        rw [hr] at heq
        rw [heq] at hcell hs
        have HROW := Lib.hid (hs.row'.2.2.2.2)
        have hm8 := flX_len8 C r
        obtain ⟨k8, hk8⟩ : ∃ q, q = (flX C r).length := ⟨_, rfl⟩
        rw [← hk8] at hcell hm8
        have HK8 := Lib.hid hk8
        have HGK := Lib.hid hgk
        have HNR := Lib.hid hnr.out
        clear hs hil hil2 heq hr hk8 hgk hnr
        rename World => wA
        go_wp2_with fail
        clear g0 g1 g2 g3 g4 hcell
        go_loopg [82] k8 (fun gk s82 wr => ∃ j : Nat, s82 = .int .i64 j ∧ j ≤ k8 ∧ k8 - j ≤ gk ∧ Hid (New wA wr))
        case atStart => exact ⟨0, rfl, by omega, by omega, Lib.hid (New.refl _)⟩
        case round =>
          obtain ⟨j, rfl, hj, hgk, hnr⟩ := hrel
          by_cases hjt : j < k8
          · have hjl : j < (flX C r).length := by rw [← HK8.out]; exact hjt
            obtain ⟨b1, off1, rfl, hA⟩ := HROW.out (by omega)
            obtain ⟨d0, d1, d2⟩ := Fl.cells (hA.keep hnr.out) j hjl
            obtain ⟨q1, q2⟩ := flX_room (C := C) hjl
            rw [q2] at d2
            obtain ⟨f, hf⟩ : ∃ f, f = (flX C r)[j] := ⟨_, rfl⟩
            rw [← hf] at d0 d1 q1
            have hw1 : IntKind.i64.wrap (f.top - f.y) = wrap64 (f.top - f.y) := IntWalk.i64_left _
            obtain ⟨q, hq⟩ : ∃ q, q = wrap64 (f.top - f.y) := ⟨_, rfl⟩
            rw [← hq] at q1 hw1
            have hw2 : wrap64 (f.top - f.y) = q := hq.symm
            obtain ⟨c0, c1, c2, c3, c4, c5, c6⟩ := HC.out _ (N5.out.trans (HNR.out.trans hnr.out))
            have nr := hnr.out
            have hbz := World.block_lt_of_cell? _ _ d0
            have hcz := World.block_lt_of_cell? _ _ c0
            clear hA hf q2 hq hnr
            go_wp2_with fail
            go_roundg (k8 - (j + 1))
            case measure => omega
            case rel => exact ⟨j + 1, by go_num, by omega, by omega, Lib.hid (by (repeat (first | (with_reducible exact New.refl _) | (with_reducible assumption) | ((with_reducible refine New.setB ?_ ?_ _); focus (first | omega | (simp; omega) | (simp; done))) | (with_reducible refine New.alloc ?_ _) | (with_reducible refine New.drew ?_) | (with_reducible refine New.drewN ?_ _) | (with_reducible refine New.hat ?_ _) | ((with_reducible apply New.snart); (with_reducible assumption)))))⟩
          · obtain rfl : j = k8 := by omega
            have nn := Lib.hid (HNR.out.trans hnr.out)
            go_wp2_with fail
            go_roundg (gn - (i + 1))
            case measure => have := HGK.out; omega
            case rel => exact ⟨i + 1, by go_num, by omega, by omega, nn⟩
      · obtain rfl : gn = i := by omega
        clear g0 g1 g2 g3 g4
        have HNR := Lib.hid hnr.out
        clear hnr
        rename World => wA
        go_upto_region 18 with fail
        go_cut [146] (fun s146 Z => (∃ b : Bool, s146 = .bool b ∧ (b = false → Hid ((0 ≤ left ∧ left ≤ wi) ∧ (0 ≤ top ∧ top ≤ d) ∧ (0 ≤ less ∧ less ≤ wi - left ∧ less ≤ d - top) ∧ x + left ≤ 64 ∧ z + top ≤ 64))) ∧ Z = wA)
        case first =>
          by_cases q0 : left < 0
          · have e0 : decide (left < 0) = true := decide_eq_true q0
            clear q0
            as_aux_lemma =>
              go_wp2_with fail
              go_meet
              exact ⟨⟨true, rfl, fun h => by cases h⟩, rfl⟩
          have e0 : decide (left < 0) = false := decide_eq_false q0
          by_cases q1 : wi < left
          · have e1 : decide (wi < left) = true := decide_eq_true q1
            clear q0 q1
            as_aux_lemma =>
              go_wp2_with fail
              go_meet
              exact ⟨⟨true, rfl, fun h => by cases h⟩, rfl⟩
          have e1 : decide (wi < left) = false := decide_eq_false q1
          by_cases q2 : top < 0
          · have e2 : decide (top < 0) = true := decide_eq_true q2
            clear q0 q1 q2
            as_aux_lemma =>
              go_wp2_with fail
              go_meet
              exact ⟨⟨true, rfl, fun h => by cases h⟩, rfl⟩
          have e2 : decide (top < 0) = false := decide_eq_false q2
          by_cases q3 : d < top
          · have e3 : decide (d < top) = true := decide_eq_true q3
            clear q0 q1 q2 q3
            as_aux_lemma =>
              go_wp2_with fail
              go_meet
              exact ⟨⟨true, rfl, fun h => by cases h⟩, rfl⟩
          have e3 : decide (d < top) = false := decide_eq_false q3
          by_cases q4 : less < 0
          · have e4 : decide (less < 0) = true := decide_eq_true q4
            clear q0 q1 q2 q3 q4
            as_aux_lemma =>
              go_wp2_with fail
              go_meet
              exact ⟨⟨true, rfl, fun h => by cases h⟩, rfl⟩
          have e4 : decide (less < 0) = false := decide_eq_false q4
          have v1 : IntKind.i64.wrap (wi - left) = wi - left := IntWalk.i64_in _ (by omega)
          by_cases q5 : wi - left < less
          · have e5 : decide (wi - left < less) = true := decide_eq_true q5
            clear q0 q1 q2 q3 q4 q5
            as_aux_lemma =>
              go_wp2_with fail
              go_meet
              exact ⟨⟨true, rfl, fun h => by cases h⟩, rfl⟩
          have e5 : decide (wi - left < less) = false := decide_eq_false q5
          have v2 : IntKind.i64.wrap (d - top) = d - top := IntWalk.i64_in _ (by omega)
          by_cases q6 : d - top < less
          · have e6 : decide (d - top < less) = true := decide_eq_true q6
            clear q0 q1 q2 q3 q4 q5 q6
            as_aux_lemma =>
              go_wp2_with fail
              go_meet
              exact ⟨⟨true, rfl, fun h => by cases h⟩, rfl⟩
          have e6 : decide (d - top < less) = false := decide_eq_false q6
          have v3 : IntKind.i64.wrap (x + left) = x + left := IntWalk.i64_in _ (by omega)
          by_cases q7 : 64 < x + left
          · have e7 : decide (64 < x + left) = true := decide_eq_true q7
            clear q0 q1 q2 q3 q4 q5 q6 q7
            as_aux_lemma =>
              go_wp2_with fail
              go_meet
              exact ⟨⟨true, rfl, fun h => by cases h⟩, rfl⟩
          have e7 : decide (64 < x + left) = false := decide_eq_false q7
          have v4 : IntKind.i64.wrap (z + top) = z + top := IntWalk.i64_in _ (by omega)
          by_cases q8 : 64 < z + top
          · have e8 : decide (64 < z + top) = true := decide_eq_true q8
            clear q0 q1 q2 q3 q4 q5 q6 q7 q8
            as_aux_lemma =>
              go_wp2_with fail
              go_meet
              exact ⟨⟨true, rfl, fun h => by cases h⟩, rfl⟩
          have e8 : decide (64 < z + top) = false := decide_eq_false q8
          have HR : Hid ((0 ≤ left ∧ left ≤ wi) ∧ (0 ≤ top ∧ top ≤ d) ∧ (0 ≤ less ∧ less ≤ wi - left ∧ less ≤ d - top) ∧ x + left ≤ 64 ∧ z + top ≤ 64) := Lib.hid (by omega)
          clear q0 q1 q2 q3 q4 q5 q6 q7 q8
          as_aux_lemma =>
            go_wp2_with fail
            go_meet
            exact ⟨⟨false, rfl, fun _ => HR⟩, rfl⟩
        case rest =>
          obtain ⟨⟨b, rfl, hb⟩, hZ⟩ := hcut
          obtain rfl : wA = _ := hZ.symm
          cases b
          rotate_left
          · have nn := NW5.out.trans HNR.out
            go_wp2_with fail
            refine (KW.out _).mono ?_
            rintro e w8 ⟨rfl, n8⟩
            go_wp2_with fail
            go_ret
            exact ⟨rfl, nn.trans n8⟩
          have hR := (hb rfl).out
          clear hb
          have HRR := Lib.hid hR
          have HPF := Lib.hid (part_fine HB0.out hR.1.1 hR.2.1.1 hR.2.2.1.1 hR.1.2 hR.2.1.2 hR.2.2.1.2.1 hR.2.2.1.2.2 hR.2.2.2.1 hR.2.2.2.2)
          have HPR := Lib.hid (fun (n m : Nat) hn hm e => part_row (n := n) (m := m) HB0.out hR.1.1 hR.2.1.1 hR.2.2.1.1 hR.1.2 hR.2.1.2 hR.2.2.1.2.1 hR.2.2.1.2.2 hR.2.2.2.1 hR.2.2.2.2 hn hm e)
          have HBL := Lib.hid (bF_len HPF.out)
          have HFL := Lib.hid (bF_len HB0.out)
          have HF8 := Lib.hid (bF_small8 C ts x z wi d)
          have HF28 := Lib.hid (bF_small8 C ts (x + left) (z + top) (wi - left - less) (d - top - less))
          obtain ⟨x2, hx2⟩ : ∃ q, q = x + left := ⟨_, rfl⟩
          obtain ⟨z2, hz2⟩ : ∃ q, q = z + top := ⟨_, rfl⟩
          obtain ⟨wl, hwl⟩ : ∃ q, q = wi - left := ⟨_, rfl⟩
          obtain ⟨dt, hdt⟩ : ∃ q, q = d - top := ⟨_, rfl⟩
          obtain ⟨wn, hwn⟩ : ∃ q : Nat, (q : Int) = wl - less := ⟨(wl - less).toNat, by omega⟩
          obtain ⟨dn, hdn⟩ : ∃ q : Nat, (q : Int) = dt - less := ⟨(dt - less).toNat, by omega⟩
          rw [← hx2, ← hz2, ← hwl, ← hdt, ← hwn, ← hdn] at HPF HPR HBL HF28
          have v1 : IntKind.i64.wrap (x + left) = x2 := by rw [hx2]; exact IntWalk.i64_in _ (by omega)
          have v2 : IntKind.i64.wrap (z + top) = z2 := by rw [hz2]; exact IntWalk.i64_in _ (by omega)
          have v3 : IntKind.i64.wrap (wi - left) = wl := by rw [hwl]; exact IntWalk.i64_in _ (by omega)
          have v4 : IntKind.i64.wrap (wl - less) = (wn : Int) := by rw [hwn]; exact IntWalk.i64_in _ (by omega)
          have v5 : IntKind.i64.wrap (d - top) = dt := by rw [hdt]; exact IntWalk.i64_in _ (by omega)
          have v6 : IntKind.i64.wrap (dt - less) = (dn : Int) := by rw [hdn]; exact IntWalk.i64_in _ (by omega)
          have hwn64 : wn ≤ 64 := by omega
          have hdn64 : dn ≤ 64 := by omega
          have hwd := mul_64 (a := (wn : Int)) (b := (dn : Int)) (by omega) (by omega) (by omega) (by omega)
          have v7 : IntKind.i64.wrap ((wn : Int) * (dn : Int)) = (wn : Int) * (dn : Int) := IntWalk.i64_in _ (by omega)
          have HBX := Lib.hid (And.intro hbx (And.intro hwl (And.intro hdt (And.intro hwn hdn))))
          have KB2 := Lib.hid (KB.out x2 z2 wn dn)
          rw [HPF.out] at KB2
          clear hR hx2 hz2 hwl hdt hwn hdn hwd hbx hmm hne hwm KC
          obtain ⟨c0, c1, c2, c3, c4, c5, c6⟩ := HC.out _ (N5.out.trans HNR.out)
          go_wp2_with fail
          refine (KB2.out _ (NW5.out.trans HNR.out)).mono ?_
          rintro e w8 ⟨O, rfl, hO, ho1, -, n8⟩
          obtain ⟨-, -, -, -, p5⟩ := ho1 rfl
          have HOL := Lib.hid p5
          have N8 := Lib.hid (HNR.out.trans n8)
          have HOo := Lib.hid hO
          clear c0 c1 c2 c3 c4 c5 c6 ho1 hO n8 p5 KB2
          obtain ⟨oa, hoa⟩ : ∃ q, q = O.ga := ⟨_, rfl⟩
          obtain ⟨on, hon⟩ : ∃ q, q = O.L.length := ⟨_, rfl⟩
          go_upto_region 21 with fail
          refine Code.at (fun W9 hW => ?_)
          have n9 : New w8 W9 := by subst hW; (repeat (first | (with_reducible exact New.refl _) | (with_reducible assumption) | ((with_reducible refine New.setB ?_ ?_ _); focus (first | omega | (simp; omega) | (simp; done))) | (with_reducible refine New.alloc ?_ _) | (with_reducible refine New.drew ?_) | (with_reducible refine New.drewN ?_ _) | (with_reducible refine New.hat ?_ _) | ((with_reducible apply New.snart); (with_reducible assumption))))
          have hoc : CellsAt W9 w8.heap.size 0 O.enc := by subst hW; exact cells_new _ _ _
          clear hW
          have N9 := Lib.hid (N8.out.trans n9)
          have HOC := Lib.hid (fun W (q : New W9 W) => Gd.at (hoc.keep q))
          have HOo9 : Hid (RowsK Fl.enc 3 W9 (.slice O.ga O.L.length O.gc) O.L) := Lib.hid (HOo.out.keep n9)
          clear hoc n9
          generalize w8.heap.size = PO at *
          rw [← hoa, ← hon] at HOC HOo9 ⊢
          have HON := Lib.hid (And.intro hoa hon)
          clear hoa hon
          have hon1 : (on : Int) = (wn : Int) * (dn : Int) := by rw [HON.out.2, HOL.out]; exact HBL.out
          have hne2 : ((on : Int) != (wn : Int) * (dn : Int)) = false := by rw [bne_eq_false_iff_eq]; exact hon1
          have HON1 := Lib.hid hon1
          clear hon1
          obtain ⟨-, -, -, -, o4⟩ := HOC.out _ (New.refl W9)
          go_wp2_with fail
          clear o4 hne2
          go_loopg [194] dn (fun gk s194 wr => ∃ k : Nat, s194 = .int .i64 k ∧ k ≤ dn ∧ dn - k ≤ gk ∧ Hid (New W9 wr))
          case atStart => exact ⟨0, rfl, by omega, by omega, Lib.hid (New.refl _)⟩
          case round =>
            obtain ⟨k, rfl, hk, hgk, hnr⟩ := hrel
            by_cases hkt : k < dn
            · have HGK := Lib.hid hgk
              have HNK := Lib.hid hnr.out
              clear hgk hnr
              rename World => wB
              go_wp2_with fail
              go_loopg [202] wn (fun gk s202 wr => ∃ i : Nat, s202 = .int .i64 i ∧ i ≤ wn ∧ wn - i ≤ gk ∧ Hid (New W9 wr))
              case atStart => exact ⟨0, rfl, by omega, by omega, HNK⟩
              case round =>
                obtain ⟨i, rfl, hi, hgk, hnr⟩ := hrel
                by_cases hit : i < wn
                · obtain ⟨hbx, e1, e2, e3, e4⟩ := HBX.out
                  have hr := HRR.out
                  have a1 : ((k * wn + i : Nat) : Int) = (k : Int) * wn + i := by push_cast; rfl
                  have hkw : k * wn + i < dn * wn := by
                    have h5 : (k + 1) * wn ≤ dn * wn := Nat.mul_le_mul_right _ (by omega)
                    rw [Nat.add_mul, Nat.one_mul] at h5
                    omega
                  have hdw : dn * wn ≤ 64 * 64 := Nat.mul_le_mul (by omega) (by omega)
                  have hon2 : on = dn * wn := by
                    have h := HON1.out
                    have h2 : (on : Int) = ((wn * dn : Nat) : Int) := by rw [h]; push_cast; rfl
                    rw [Nat.mul_comm]
                    exact Int.ofNat.inj h2
                  have hkn : (k : Int) * wn = ((k * wn : Nat) : Int) := by push_cast; rfl
                  have b1 : IntKind.i64.wrap ((k : Int) * (wn : Int)) = (k : Int) * (wn : Int) := IntWalk.i64_in _ (by rw [hkn]; omega)
                  have b2 : IntKind.i64.wrap ((k : Int) * (wn : Int) + (i : Int)) = ((k * wn + i : Nat) : Int) := by rw [IntWalk.i64_in _ (by rw [← a1]; omega), a1]
                  have b3 : IntKind.i64.wrap ((k : Int) + top) = (k : Int) + top := IntWalk.i64_in _ (by omega)
                  have p0 : 0 ≤ ((k : Int) + top) * wi := Int.mul_nonneg (by omega) (by omega)
                  have p1 : ((k : Int) + top) * wi ≤ (d - 1) * wi := Int.mul_le_mul_of_nonneg_right (by omega) (by omega)
                  have p2 : (d - 1) * wi = wi * d - wi := by rw [Int.sub_mul, Int.one_mul, Int.mul_comm]
                  have p3 := mul_64 (show 0 ≤ wi by omega) (show wi ≤ 64 by omega) (show 0 ≤ d by omega) (show d ≤ 64 by omega)
                  have b4 : IntKind.i64.wrap (((k : Int) + top) * wi) = ((k : Int) + top) * wi := IntWalk.i64_in _ (by omega)
                  have b5 : IntKind.i64.wrap (((k : Int) + top) * wi + (i : Int)) = ((k : Int) + top) * wi + (i : Int) := IntWalk.i64_in _ (by omega)
                  obtain ⟨mm, hmm⟩ : ∃ q : Nat, (q : Int) = ((k : Int) + top) * wi + (i : Int) + left := ⟨(((k : Int) + top) * wi + (i : Int) + left).toNat, by omega⟩
                  have b6 : IntKind.i64.wrap (((k : Int) + top) * wi + (i : Int) + left) = (mm : Int) := by rw [IntWalk.i64_in _ (by omega), hmm]
                  have hmg : mm < gn := by have := HL.out; omega
                  obtain ⟨nn, hnn⟩ : ∃ q, q = k * wn + i := ⟨_, rfl⟩
                  rw [← hnn] at b2 hkw
                  have hno : nn < on := by omega
                  have hdiv : (nn : Int) / (wn : Int) = k ∧ (nn : Int) % (wn : Int) = i := by
                    have h1 : nn / wn = k := by rw [hnn, Nat.mul_comm, Nat.mul_add_div (by omega), Nat.div_eq_of_lt hit, Nat.add_zero]
                    have h2 : nn % wn = i := by rw [hnn, Nat.mul_comm, Nat.mul_add_mod, Nat.mod_eq_of_lt hit]
                    exact ⟨by rw [← Int.natCast_ediv, h1], by rw [← Int.natCast_emod, h2]⟩
                  have hnO : nn < O.L.length := by rw [← HON.out.2]; exact hno
                  have hmG : mm < G.L.length := by rw [← HGN.out.2]; exact hmg
                  have hnF : nn < (bF C ts x2 z2 wn dn).length := by rw [← HOL.out]; exact hnO
                  have hmF : mm < (bF C ts x z wi d).length := by rw [← HGL.out]; exact hmG
                  have hrow := HPR.out nn mm hnF hmF (by rw [hdiv.1, hdiv.2]; omega)
                  have hrow2 : O.L[nn] = G.L[mm] := by
                    have q1 : O.L[nn]? = (bF C ts x2 z2 wn dn)[nn]? := by rw [HOL.out]
                    have q2 : G.L[mm]? = (bF C ts x z wi d)[mm]? := by rw [HGL.out]
                    rw [List.getElem?_eq_getElem hnO, List.getElem?_eq_getElem hnF] at q1
                    rw [List.getElem?_eq_getElem hmG, List.getElem?_eq_getElem hmF] at q2
                    rw [Option.some.inj q1, Option.some.inj q2]
                    exact hrow
                  have h8 : G.L[mm].length ≤ 8 := by
                    have q2 : G.L[mm]? = (bF C ts x z wi d)[mm]? := by rw [HGL.out]
                    rw [List.getElem?_eq_getElem hmG, List.getElem?_eq_getElem hmF] at q2
                    rw [Option.some.inj q2]
                    exact HF8.out mm hmF
                  obtain ⟨b7, off7, a7, c7, rfl, hc7, hs7⟩ := (HOo9.out.keep hnr.out).at nn hnO
                  obtain ⟨b8, off8, a8, c8, rfl, hc8, hs8⟩ := (HGo5.out.keep (N9.out.trans hnr.out)).at mm hmG
                  rw [hrow2] at hc7 hs7
                  generalize G.L[mm] = row at *
                  have KE := Lib.hid (fun W (q : New wr W) => by have := rg_floors_sl (l := row) (m := row) (by omega) (by omega) W (hs7.keep q) (hs8.keep q); rw [(Fl.allEq_iff row row).2 rfl] at this; exact this : ∀ W, New wr W → Calls Tryz.prog 11 #[.slice a7 row.length c7, .slice a8 row.length c8] W fun e w' => e = .returned (.bool true) ∧ New W w')
                  generalize row.length = rl at *
                  obtain ⟨-, -, -, -, o4⟩ := HOC.out _ hnr.out
                  obtain ⟨-, -, -, -, g4⟩ := HGC.out _ (N9.out.trans hnr.out)
                  have nr := hnr.out
                  clear hbx e1 e2 e3 e4 hr a1 hkw hdw hon2 hkn p0 p1 p2 p3 hmm hnn hdiv hnO hmG hnF hmF hrow hrow2 h8 hs7 hs8 hnr
                  as_aux_lemma =>
                    go_upto_region 29 with fail
                    (refine wp_region_hat (by kernel_rfl) (by kernel_rfl) ?_; intro hatc hatf; (repeat (go_big_quiet_step ((go_at_call 11; exact Calls.hat (KE.out _ (Hat.h _)))))); refine wpQuiet_nil ?_; rintro _ ⟨X, rfl⟩)
                    clear hatc hatf
                    have n10 := Lib.hid (nr.trans X.h)
                    generalize X.w = W6 at *
                    clear X hc7 hc8 o4 g4 nr
                    go_wp2_with fail
                    go_roundg (wn - (i + 1))
                    case measure => omega
                    case rel => exact ⟨i + 1, by go_num, by omega, by omega, n10⟩
                · obtain rfl : i = wn := by omega
                  go_wp2_with fail
                  go_roundg (dn - (k + 1))
                  case measure => have := HGK.out; omega
                  case rel => exact ⟨k + 1, by go_num, by omega, by omega, hnr⟩
            · obtain rfl : k = dn := by omega
              have nn := NW5.out.trans (N9.out.trans hnr.out)
              go_wp2_with fail
              refine (KW.out _).mono ?_
              rintro e w12 ⟨rfl, n12⟩
              go_wp2_with fail
              go_ret
              exact ⟨rfl, nn.trans n12⟩

end Go.Proofs.YtklopjbpfddgfaaGreat
