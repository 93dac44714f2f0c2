/- The contract of Straight of package geom. -/
import Derived.Test.YtgpjeijhbikjaaaGeomS
import Derived.Deep.LoopGhost
namespace Go.Proofs.Ytgpjeijhbikjaaa
open Go.RowKit
set_option linter.unusedVariables false

theorem ptCells_set : ∀ (l : List (Int × Int)) (k : Nat) (p : Int × Int), ((ptCells l).set (k * 2) (.int .i64 p.1)).set (k * 2 + 1) (.int .i64 p.2) = ptCells (l.set k p)
  | [], k, p => by simp [ptCells]
  | q :: l, 0, p => rfl
  | q :: l, k + 1, p => by
    rw [show (k + 1) * 2 = k * 2 + 1 + 1 by omega]
    simp only [ptCells, List.set_cons_succ]
    rw [ptCells_set l k p]

theorem Owns.set {w : World} {base : Nat} {e : TypeId} {g cap n : Nat} {l : List (Int × Int)} (h : Owns w base e (.slice (some ⟨g, 0, none⟩) n cap) l) (k : Nat) (hk : k < l.length) (p : Int × Int) :
    Owns ((w.setCell ⟨g, k * 2, none⟩ (.int .i64 p.1)).setCell ⟨g, k * 2 + 1, none⟩ (.int .i64 p.2)) base e (.slice (some ⟨g, 0, none⟩) n cap) (l.set k p) := by
  obtain rfl := h.at.1
  have a := (World.ownsRow.stored (World.ownsRow.stored h (k * 2) (.int .i64 p.1)).1 (k * 2 + 1) (.int .i64 p.2)).1
  unfold Owns
  rw [List.length_set, ← ptCells_set]
  exact a

def onP (a b p : Int × Int) : Bool := onB a.1 a.2 b.1 b.2 p.1 p.2

/-- The row as it is thinned: what is kept, and what is to come. -/
def runThin (K : List (Int × Int)) : List (Int × Int) → List (Int × Int)
  | [] => K
  | [p] => K ++ [p]
  | p :: r :: l => match K.getLast? with
    | some q => if onP q r p = true then runThin K (r :: l) else runThin (K ++ [p]) (r :: l)
    | none => runThin (K ++ [p]) (r :: l)

theorem runSteps_length : ∀ (l acc : List (Int × Int)), (runSteps acc l).length ≤ acc.length + l.length
  | [], acc => by simp [runSteps]
  | p :: l, acc => by
    unfold runSteps
    split
    · have := runSteps_length l acc; simp; omega
    · have := runSteps_length l (acc ++ [inP p]); simp at this ⊢; omega

def straightL (l : List (Int × Int)) : List (Int × Int) := runThin [] (runSteps [] l)

def RowPost (w : World) (R : List (Int × Int)) (e : Ending) (w' : World) : Prop :=
  ∃ at0 cap, e = .returned (.slice at0 R.length cap) ∧ PtsIn w' at0 R ∧ New w w'

theorem take_set {α : Type} (l : List α) (k : Nat) (p : α) (h : k < l.length) : (l.set k p).take (k + 1) = l.take k ++ [p] := by
  rw [List.take_succ_eq_append_getElem (by simpa using h), List.take_set, List.set_eq_of_length_le (by simp; omega)]
  simp
theorem drop_set {α : Type} (l : List α) (k i : Nat) (p : α) (h : k < i) : (l.set k p).drop i = l.drop i := by
  rw [List.drop_set]
  simp [h]

set_option maxHeartbeats 4000000 in
theorem gstraight_any (at0 : Option Addr) (l : List (Int × Int)) (c : Nat) (w : World) (hl : l.length ≤ 100) (H : PtsIn w at0 l) :
    Calls Try.prog 16 #[.slice at0 l.length c] w (RowPost w (straightL l)) := by
  unfold straightL
  have hR := runSteps_length l []
  have HC := Lib.hid (gsteps_any at0 l c w hl H)
  obtain ⟨R, hRR⟩ : ∃ R, runSteps [] l = R := ⟨_, rfl⟩
  rw [hRR] at HC hR ⊢
  simp only [List.length_nil, Nat.zero_add] at hR
  have hR1 : R.length ≤ 100 := by omega
  clear hRR hR H
  go_enter Try.func16, Try.ntmps16
  go_wp2_with fail
  refine HC.out.mono ?_
  rintro e w1 ⟨g, cap, rfl, own, hn⟩
  obtain ⟨_, hgB, hcap, hcm, hgs⟩ := own.at
  unfold maxLen at hcm
  have OW := Lib.hid own
  clear own HC
  go_wp2_with fail
  go_loopg [4, 11] R.length (fun k s t wr => ∃ (i : Nat) (cur K : List (Int × Int)), i + k = R.length ∧ t = .int .i64 i ∧ s = .int .i64 K.length ∧ K.length ≤ i ∧ (0 < i → K ≠ []) ∧ cur.length = R.length ∧ cur.take K.length = K ∧ cur.drop i = R.drop i ∧ runThin K (R.drop i) = runThin [] R ∧ Owns wr w.heap.size 23 (.slice (some ⟨g, 0, none⟩) R.length cap) cur ∧ New w wr)
  case atStart => exact ⟨0, R, [], by omega, rfl, rfl, Nat.le_refl _, by omega, rfl, rfl, rfl, rfl, OW.out, hn⟩
  case round =>
    clear OW hn
    obtain ⟨i, cur, K, hi, rfl, rfl, hK, hK0, hcl, ht, hd, hrun, own, hn⟩ := hrel
    have HR := Lib.hid hrun
    have HT := Lib.hid ht
    have HD := Lib.hid hd
    have OW := Lib.hid own
    have HK := Lib.hid hK0
    clear hrun ht hd hK0
    have hgw : g < wr.heap.size := own.at.2.2.2.2
    by_cases hlt : i < R.length
    · have hci : cur[i]'(by omega) = R[i] := by
        have := HD.out
        rw [drop_cons (l := cur) (by omega), drop_cons hlt] at this
        exact (List.cons.inj this).1
      have pt := own.pts
      have c1 := (pt i (by omega)).1
      have c2 := (pt i (by omega)).2
      rw [hci] at c1 c2
      simp only [Nat.zero_add] at c1 c2
      clear pt own hci hcl
      have hcl : cur.length = R.length := OW.out.at.1.symm
      have HCL := Lib.hid hcl
      clear hcl
      go_wp2_with fail
      refine Code.at (fun W hW => ?_)
      obtain ⟨pb, hpb⟩ : ∃ n, wr.heap.size = n := ⟨_, rfl⟩
      simp only [hpb] at hW hgw ⊢
      replace c1 : W.cell? ⟨pb, 0, none⟩ = some (.int .i64 R[i].1) := by subst hpb; subst hW; go_simp
      replace c2 : W.cell? ⟨pb, 1, none⟩ = some (.int .i64 R[i].2) := by subst hpb; subst hW; go_simp
      have n0 : New wr W := by subst hpb; subst hW; (repeat (first | (with_reducible exact New.refl _) | (with_reducible assumption) | ((with_reducible refine New.setB ?_ ?_ _); focus (first | omega | (simp; omega) | (simp; done))) | (with_reducible refine New.alloc ?_ _) | (with_reducible refine New.drew ?_) | (with_reducible refine New.drewN ?_ _) | (with_reducible refine New.hat ?_ _) | ((with_reducible apply New.snart); (with_reducible assumption))))
      clear hW hpb
      replace hn := New.trans hn n0
      replace OW := Lib.hid (Owns.new OW.out n0)
      clear n0
      have hKR : K.length < R.length := by omega
      have hdr : R.drop i = R[i] :: R.drop (i + 1) := drop_cons hlt
      have HDR := Lib.hid hdr
      clear hdr
      by_cases h0 : 0 < i
      · have hd0 : decide ((0 : Int) < (i : Int)) = true := by simp; omega
        by_cases h1 : i + 1 < R.length
        · have hd1 : decide ((i : Int) < (R.length : Int) - 1) = true := by simp; omega
          rcases nil_or_snoc K with rfl | ⟨K0, q, rfl⟩
          · exact absurd rfl (HK.out h0)
          · have e2 : (K0 ++ [q]).length = K0.length + 1 := by simp
            rw [e2] at hK hKR
            have hcur := HCL.out
            have hq : cur[K0.length]'(by omega) = q := by
              have h1 := HT.out
              rw [e2] at h1
              have h2 : (cur.take (K0.length + 1))[K0.length]? = (K0 ++ [q])[K0.length]? := by rw [h1]
              rw [List.getElem?_take, if_pos (by omega), List.getElem?_eq_getElem (by omega)] at h2
              simpa using h2
            have hr : cur[i + 1]'(by omega) = R[i + 1] := by
              have h1 := HD.out
              have h2 : (cur.drop i)[1]? = (R.drop i)[1]? := by rw [h1]
              rw [List.getElem?_drop, List.getElem?_drop, List.getElem?_eq_getElem (by omega), List.getElem?_eq_getElem (by omega)] at h2
              exact Option.some.inj h2
            have pt := OW.out.pts
            have c3 := (pt K0.length (by omega)).1
            have c4 := (pt K0.length (by omega)).2
            have c7 := (pt (i + 1) (by omega)).1
            have c8 := (pt (i + 1) (by omega)).2
            rw [hq] at c3 c4
            rw [hr] at c7 c8
            simp only [Nat.zero_add] at c3 c4 c7 c8
            have hdr2 : R.drop (i + 1) = R[i + 1] :: R.drop (i + 1 + 1) := drop_cons h1
            have HDR2 := Lib.hid hdr2
            clear pt hq hr hcur hdr2
            obtain ⟨o, ho⟩ : ∃ o, onB q.1 q.2 R[i + 1].1 R[i + 1].2 R[i].1 R[i].2 = o := ⟨_, rfl⟩
            have CO := Lib.hid (fun W => by have q' := gon_any q.1 q.2 R[i + 1].1 R[i + 1].2 R[i].1 R[i].2 W; rw [ho] at q'; exact q' : ∀ W, Calls Try.prog 12 #[.agg #[.int .i64 q.1, .int .i64 q.2], .agg #[.int .i64 R[i + 1].1, .int .i64 R[i + 1].2], .agg #[.int .i64 R[i].1, .int .i64 R[i].2]] W fun e w' => e = .returned (.bool o) ∧ New W w')
            have HO := Lib.hid ho
            clear ho
            simp only [e2]
            clear e2
            (refine wp_region_hat (by kernel_rfl) (by kernel_rfl) ?_; intro hatc hatf; (repeat (go_big_quiet_step ((go_at_call 12; exact Calls.hat (CO.out _))))); refine wpQuiet_nil ?_; rintro _ ⟨x, rfl⟩)
            have n1 := x.h
            ((replace c1 : World.cell? x.w _ = some _ := New.keep (New.trans (by (repeat (first | (with_reducible exact New.refl _) | (with_reducible assumption) | ((with_reducible refine New.setB ?_ ?_ _); focus (first | omega | (simp; omega) | (simp; done))) | (with_reducible refine New.alloc ?_ _) | (with_reducible refine New.drew ?_) | (with_reducible refine New.drewN ?_ _) | (with_reducible refine New.hat ?_ _) | ((with_reducible apply New.snart); (with_reducible assumption))))) n1) c1); (replace c2 : World.cell? x.w _ = some _ := New.keep (New.trans (by (repeat (first | (with_reducible exact New.refl _) | (with_reducible assumption) | ((with_reducible refine New.setB ?_ ?_ _); focus (first | omega | (simp; omega) | (simp; done))) | (with_reducible refine New.alloc ?_ _) | (with_reducible refine New.drew ?_) | (with_reducible refine New.drewN ?_ _) | (with_reducible refine New.hat ?_ _) | ((with_reducible apply New.snart); (with_reducible assumption))))) n1) c2); (try replace hn : New _ x.w := New.trans hn (New.trans (by (repeat (first | (with_reducible exact New.refl _) | (with_reducible assumption) | ((with_reducible refine New.setB ?_ ?_ _); focus (first | omega | (simp; omega) | (simp; done))) | (with_reducible refine New.alloc ?_ _) | (with_reducible refine New.drew ?_) | (with_reducible refine New.drewN ?_ _) | (with_reducible refine New.hat ?_ _) | ((with_reducible apply New.snart); (with_reducible assumption))))) n1)))
            replace OW := Lib.hid (Owns.new OW.out n1)
            clear n1 hatc hatf c3 c4 c7 c8 CO
            generalize x.w = W5 at *
            cases o
            · have pt := OW.out.pts
              have hKc : K0.length + 1 < cur.length := by rw [HCL.out]; omega
              have c5 := (pt (K0.length + 1) hKc).1
              have c6 := (pt (K0.length + 1) hKc).2
              simp only [Nat.zero_add] at c5 c6
              have g5 := OW.out.frozen ((K0.length + 1) * 2)
              have g6 := OW.out.frozen ((K0.length + 1) * 2 + 1)
              clear pt
              go_wp2_with fail
              have o3 := Owns.set OW.out (K0.length + 1) hKc R[i]
              have hn3 : New w _ := New.setB (p := ⟨g, (K0.length + 1) * 2 + 1, none⟩) hgB (New.setB (p := ⟨g, (K0.length + 1) * 2, none⟩) hgB hn (.int .i64 R[i].1)) (.int .i64 R[i].2)
              go_roundg (gk - 1)
              case measure => omega
              case rel =>
                refine ⟨i + 1, cur.set (K0.length + 1) R[i], (K0 ++ [q]) ++ [R[i]], by omega, by go_num, (by first | (simp; done) | (simp; omega)), by simp; omega, by simp, by rw [List.length_set]; exact HCL.out, ?_, ?_, ?_, o3, hn3⟩
                · have h1 := HT.out
                  rw [List.length_append, List.length_singleton] at h1
                  rw [List.length_append, List.length_append, List.length_singleton, List.length_singleton, take_set _ _ _ hKc, h1]
                · rw [drop_set _ _ _ _ (by omega), ← List.drop_drop, ← List.drop_drop, HD.out]
                · have := HR.out
                  rw [HDR.out, HDR2.out] at this
                  rw [HDR2.out]
                  have ho : onP q R[i + 1] R[i] = false := HO.out
                  simpa [runThin, ho] using this
            · go_wp2_with fail
              go_roundg (gk - 1)
              case measure => omega
              case rel =>
                refine ⟨i + 1, cur, K0 ++ [q], by omega, by go_num, by simp, by simp; omega, by simp, HCL.out, HT.out, ?_, ?_, OW.out, hn⟩
                · rw [← List.drop_drop, ← List.drop_drop, HD.out]
                · have := HR.out
                  rw [HDR.out, HDR2.out] at this
                  rw [HDR2.out]
                  have ho : onP q R[i + 1] R[i] = true := HO.out
                  simpa [runThin, ho] using this
        · have hd1 : decide ((i : Int) < (R.length : Int) - 1) = false := by simp; omega
          (refine wp_region_hat (by kernel_rfl) (by kernel_rfl) ?_; intro hatc hatf; (repeat (go_big_quiet_step ((fail)))); refine wpQuiet_nil ?_; rintro _ ⟨x, rfl⟩)
          have n1 := x.h
          ((replace c1 : World.cell? x.w _ = some _ := New.keep (New.trans (by (repeat (first | (with_reducible exact New.refl _) | (with_reducible assumption) | ((with_reducible refine New.setB ?_ ?_ _); focus (first | omega | (simp; omega) | (simp; done))) | (with_reducible refine New.alloc ?_ _) | (with_reducible refine New.drew ?_) | (with_reducible refine New.drewN ?_ _) | (with_reducible refine New.hat ?_ _) | ((with_reducible apply New.snart); (with_reducible assumption))))) n1) c1); (replace c2 : World.cell? x.w _ = some _ := New.keep (New.trans (by (repeat (first | (with_reducible exact New.refl _) | (with_reducible assumption) | ((with_reducible refine New.setB ?_ ?_ _); focus (first | omega | (simp; omega) | (simp; done))) | (with_reducible refine New.alloc ?_ _) | (with_reducible refine New.drew ?_) | (with_reducible refine New.drewN ?_ _) | (with_reducible refine New.hat ?_ _) | ((with_reducible apply New.snart); (with_reducible assumption))))) n1) c2); (try replace hn : New _ x.w := New.trans hn (New.trans (by (repeat (first | (with_reducible exact New.refl _) | (with_reducible assumption) | ((with_reducible refine New.setB ?_ ?_ _); focus (first | omega | (simp; omega) | (simp; done))) | (with_reducible refine New.alloc ?_ _) | (with_reducible refine New.drew ?_) | (with_reducible refine New.drewN ?_ _) | (with_reducible refine New.hat ?_ _) | ((with_reducible apply New.snart); (with_reducible assumption))))) n1)))
          replace OW := Lib.hid (Owns.new OW.out n1)
          clear n1 hatc hatf
          generalize x.w = W5 at *
          have pt := OW.out.pts
          have hKc : K.length < cur.length := by rw [HCL.out]; omega
          have c5 := (pt K.length hKc).1
          have c6 := (pt K.length hKc).2
          simp only [Nat.zero_add] at c5 c6
          have g5 := OW.out.frozen (K.length * 2)
          have g6 := OW.out.frozen (K.length * 2 + 1)
          clear pt
          go_wp2_with fail
          have o3 := Owns.set OW.out K.length hKc R[i]
          have hn3 : New w _ := New.setB (p := ⟨g, K.length * 2 + 1, none⟩) hgB (New.setB (p := ⟨g, K.length * 2, none⟩) hgB hn (.int .i64 R[i].1)) (.int .i64 R[i].2)
          go_roundg (gk - 1)
          case measure => omega
          case rel =>
            refine ⟨i + 1, cur.set K.length R[i], K ++ [R[i]], by omega, by go_num, by simp, by simp; omega, by simp, by rw [List.length_set]; exact HCL.out, ?_, ?_, ?_, o3, hn3⟩
            · rw [List.length_append, List.length_singleton, take_set _ _ _ (by omega), HT.out]
            · rw [drop_set _ _ _ _ (by omega), ← List.drop_drop, ← List.drop_drop, HD.out]
            · have := HR.out
              rw [HDR.out, List.drop_eq_nil_of_le (show R.length ≤ i + 1 by omega)] at this
              rw [List.drop_eq_nil_of_le (show R.length ≤ i + 1 by omega)]
              exact this
      · have hd0 : decide ((0 : Int) < (i : Int)) = false := by simp; omega
        have hKn : K = [] := by
          have : K.length = 0 := by omega
          exact List.eq_nil_of_length_eq_zero this
        have HKN := Lib.hid hKn
        clear hKn
        (refine wp_region_hat (by kernel_rfl) (by kernel_rfl) ?_; intro hatc hatf; (repeat (go_big_quiet_step ((fail)))); refine wpQuiet_nil ?_; rintro _ ⟨x, rfl⟩)
        have n1 := x.h
        ((replace c1 : World.cell? x.w _ = some _ := New.keep (New.trans (by (repeat (first | (with_reducible exact New.refl _) | (with_reducible assumption) | ((with_reducible refine New.setB ?_ ?_ _); focus (first | omega | (simp; omega) | (simp; done))) | (with_reducible refine New.alloc ?_ _) | (with_reducible refine New.drew ?_) | (with_reducible refine New.drewN ?_ _) | (with_reducible refine New.hat ?_ _) | ((with_reducible apply New.snart); (with_reducible assumption))))) n1) c1); (replace c2 : World.cell? x.w _ = some _ := New.keep (New.trans (by (repeat (first | (with_reducible exact New.refl _) | (with_reducible assumption) | ((with_reducible refine New.setB ?_ ?_ _); focus (first | omega | (simp; omega) | (simp; done))) | (with_reducible refine New.alloc ?_ _) | (with_reducible refine New.drew ?_) | (with_reducible refine New.drewN ?_ _) | (with_reducible refine New.hat ?_ _) | ((with_reducible apply New.snart); (with_reducible assumption))))) n1) c2); (try replace hn : New _ x.w := New.trans hn (New.trans (by (repeat (first | (with_reducible exact New.refl _) | (with_reducible assumption) | ((with_reducible refine New.setB ?_ ?_ _); focus (first | omega | (simp; omega) | (simp; done))) | (with_reducible refine New.alloc ?_ _) | (with_reducible refine New.drew ?_) | (with_reducible refine New.drewN ?_ _) | (with_reducible refine New.hat ?_ _) | ((with_reducible apply New.snart); (with_reducible assumption))))) n1)))
        replace OW := Lib.hid (Owns.new OW.out n1)
        clear n1 hatc hatf
        generalize x.w = W5 at *
        have pt := OW.out.pts
        have hKc : K.length < cur.length := by rw [HCL.out]; omega
        have c5 := (pt K.length hKc).1
        have c6 := (pt K.length hKc).2
        simp only [Nat.zero_add] at c5 c6
        have g5 := OW.out.frozen (K.length * 2)
        have g6 := OW.out.frozen (K.length * 2 + 1)
        clear pt
        go_wp2_with fail
        have o3 := Owns.set OW.out K.length hKc R[i]
        have hn3 : New w _ := New.setB (p := ⟨g, K.length * 2 + 1, none⟩) hgB (New.setB (p := ⟨g, K.length * 2, none⟩) hgB hn (.int .i64 R[i].1)) (.int .i64 R[i].2)
        go_roundg (gk - 1)
        case measure => omega
        case rel =>
          refine ⟨i + 1, cur.set K.length R[i], K ++ [R[i]], by omega, by go_num, by simp, by simp; omega, by simp, by rw [List.length_set]; exact HCL.out, ?_, ?_, ?_, o3, hn3⟩
          · rw [List.length_append, List.length_singleton, take_set _ _ _ (by omega), HT.out]
          · rw [drop_set _ _ _ _ (by omega), ← List.drop_drop, ← List.drop_drop, HD.out]
          · have := HR.out
            rw [HDR.out, HKN.out] at this
            rw [HKN.out]
            cases hq : R.drop (i + 1) with
            | nil => rw [hq] at this; exact this
            | cons r rs => rw [hq] at this; exact this
    · have hin : i = R.length := by omega
      have hlt' : decide ((i : Int) < (R.length : Int)) = false := by simp; omega
      have hKR : K = runThin [] R := by have := HR.out; rw [hin, List.drop_length] at this; exact this
      have hkc : K.length ≤ cap := by omega
      have hkc' : (K.length : Int) ≤ (cap : Int) := by omega
      have hP := own.pts
      have HP := Lib.hid hP
      have HKR := Lib.hid hKR
      clear hP own hKR
      go_wp2_with fail
      go_ret
      rw [← HKR.out]
      refine ⟨some ⟨g, 0, none⟩, K.length, rfl, fun _ => ⟨g, 0, rfl, fun j hj => ?_⟩, hn⟩
      have hjc : j < cur.length := by omega
      have hk : cur[j] = K[j] := by
        have h1 := HT.out
        have h2 : (cur.take K.length)[j]? = K[j]? := by rw [h1]
        rw [List.getElem?_take, if_pos hj, List.getElem?_eq_getElem hjc, List.getElem?_eq_getElem hj] at h2
        exact Option.some.inj h2
      have := HP.out j hjc
      rw [hk] at this
      exact this

end Go.Proofs.Ytgpjeijhbikjaaa
