/- The law of the turned segment, walked. -/
import Derived.Test.YtmpkciidhopckaaTurnC
import Derived.Deep.DeepCutAuto
import Derived.Deep.LoopGhost
import Derived.Outline
namespace Go.Proofs.Ytmpkciidhopckaa
open Go.RowKit
set_option linter.unusedVariables false

set_option maxRecDepth 100000 in
set_option maxHeartbeats 4000000 in
theorem turn_no (p0 q0 p1 q1 : Int) (hok : okB p0 q0 p1 q1 = false) (w : World) :
    Calls Try.prog 4 #[.agg #[.int .i64 p0, .int .i64 q0], .agg #[.int .i64 p1, .int .i64 q1]] w fun e w' => e = .returned (.bool true) ∧ New w w' := by
  have CC := Lib.hid (fun W => c_cells p0 q0 p1 q1 W)
  have CD := Lib.hid (fun W => c_cells p1 q1 p0 q0 W)
  have hok' : okB p1 q1 p0 q0 = false := by rw [← okB_comm]; exact hok
  have e0 : errOf p0 q0 p1 q1 = 2 := by unfold errOf; rw [hok]; rfl
  have t0 : told p0 q0 p1 q1 = [] := by unfold told; rw [hok]; rfl
  have e1 : errOf p1 q1 p0 q0 = 2 := by unfold errOf; rw [hok']; rfl
  have t1 : told p1 q1 p0 q0 = [] := by unfold told; rw [hok']; rfl
  go_enter Try.func4, Try.ntmps4
  go_wp2_with fail
  generalize hW : World.alloc _ _ = W
  have a0 : W.cell? ⟨w.heap.size, 0, none⟩ = some (.int .i64 p0) := by subst hW; go_simp
  have a1 : W.cell? ⟨w.heap.size, 1, none⟩ = some (.int .i64 q0) := by subst hW; go_simp
  have b0 : W.cell? ⟨w.heap.size + 1, 0, none⟩ = some (.int .i64 p1) := by subst hW; go_simp
  have b1 : W.cell? ⟨w.heap.size + 1, 1, none⟩ = some (.int .i64 q1) := by subst hW; go_simp
  have hn : New w W := by subst hW; (repeat (first | (with_reducible exact New.refl _) | (with_reducible assumption) | ((with_reducible refine New.setB ?_ ?_ _); focus (first | omega | (simp; omega) | (simp; done))) | (with_reducible refine New.alloc ?_ _) | (with_reducible refine New.drew ?_) | (with_reducible refine New.drewN ?_ _) | (with_reducible refine New.hat ?_ _) | ((with_reducible apply New.snart); (with_reducible assumption))))
  clear hW
  refine (CC.out _).mono ?_
  rintro e w1 ⟨v, rfl, r1, n1⟩
  ((replace a0 := n1.keep a0); (replace a1 := n1.keep a1); (replace b0 := n1.keep b0); (replace b1 := n1.keep b1))
  rw [e0, t0] at *
  obtain ⟨at0, cap, rfl⟩ := r1.len
  have hn1 := hn.trans n1
  clear r1 CC hn n1
  simp only [List.length_nil] at *
  go_wp2_with fail
  refine (CD.out _).mono ?_
  rintro e w2 ⟨v, rfl, r2, n2⟩
  rw [e1, t1] at *
  obtain ⟨at1, cap1, rfl⟩ := r2.len
  have hn2 := hn1.trans n2
  clear r2 CD hn1 n2
  simp only [List.length_nil] at *
  go_wp2_with fail
  refine (c_wakes _).mono ?_
  rintro e w3 ⟨rfl, n3⟩
  go_wp2_with fail
  go_ret
  exact ⟨rfl, hn2.trans n3⟩

set_option maxRecDepth 100000 in
set_option maxHeartbeats 4000000 in
theorem turn_yes (p0 q0 p1 q1 : Int) (hok : okB p0 q0 p1 q1 = true) (w : World) :
    Calls Try.prog 4 #[.agg #[.int .i64 p0, .int .i64 q0], .agg #[.int .i64 p1, .int .i64 q1]] w fun e w' => e = .returned (.bool true) ∧ New w w' := by
  have CC := Lib.hid (fun W => c_cells p0 q0 p1 q1 W)
  have CD := Lib.hid (fun W => c_cells p1 q1 p0 q0 W)
  have hok' : okB p1 q1 p0 q0 = true := by rw [← okB_comm]; exact hok
  have e0 : errOf p0 q0 p1 q1 = 0 := by unfold errOf; rw [hok]; rfl
  have e1 : errOf p1 q1 p0 q0 = 0 := by unfold errOf; rw [hok']; rfl
  obtain ⟨hpos, hlen, hML, hK, hS, hFA, hFB⟩ := told_turned hok
  generalize told p0 q0 p1 q1 = L at *
  generalize told p1 q1 p0 q0 = M at *
  replace hK := Lib.hid hK
  replace hS := Lib.hid hS
  replace hFA := Lib.hid hFA
  replace hFB := Lib.hid hFB
  have hMp : 0 < M.length := by omega
  go_enter Try.func4, Try.ntmps4
  go_wp2_with fail
  generalize hW : World.alloc _ _ = W
  have a0 : W.cell? ⟨w.heap.size, 0, none⟩ = some (.int .i64 p0) := by subst hW; go_simp
  have a1 : W.cell? ⟨w.heap.size, 1, none⟩ = some (.int .i64 q0) := by subst hW; go_simp
  have b0 : W.cell? ⟨w.heap.size + 1, 0, none⟩ = some (.int .i64 p1) := by subst hW; go_simp
  have b1 : W.cell? ⟨w.heap.size + 1, 1, none⟩ = some (.int .i64 q1) := by subst hW; go_simp
  have hn : New w W := by subst hW; (repeat (first | (with_reducible exact New.refl _) | (with_reducible assumption) | ((with_reducible refine New.setB ?_ ?_ _); focus (first | omega | (simp; omega) | (simp; done))) | (with_reducible refine New.alloc ?_ _) | (with_reducible refine New.drew ?_) | (with_reducible refine New.drewN ?_ _) | (with_reducible refine New.hat ?_ _) | ((with_reducible apply New.snart); (with_reducible assumption))))
  clear hW
  refine (CC.out _).mono ?_
  rintro e w1 ⟨v, rfl, r1, n1⟩
  ((replace a0 := n1.keep a0); (replace a1 := n1.keep a1); (replace b0 := n1.keep b0); (replace b1 := n1.keep b1))
  rw [e0]
  obtain ⟨g, cap, rfl, hcap, hc⟩ := r1.at hpos
  have HC := Lib.hid hc
  have hn1 := hn.trans n1
  clear r1 CC hn n1 hc e0
  go_wp2_with fail
  refine (CD.out _).mono ?_
  rintro e w2 ⟨v, rfl, r2, n2⟩
  ((replace a0 := n2.keep a0); (replace a1 := n2.keep a1); (replace b0 := n2.keep b0); (replace b1 := n2.keep b1))
  rw [e1]
  obtain ⟨g', cap', rfl, hcap', hd⟩ := r2.at hMp
  have HD := Lib.hid hd
  replace HC := Lib.hid (fun i (hi : i < L.length) => (⟨n2.keep (HC.out i hi).1, n2.keep (HC.out i hi).2.1, n2.keep (HC.out i hi).2.2.1, n2.keep (HC.out i hi).2.2.2.1, n2.keep (HC.out i hi).2.2.2.2.1, n2.keep (HC.out i hi).2.2.2.2.2⟩ :
    w2.cell? ⟨g, i * 6, none⟩ = some (.int .i64 L[i].x) ∧ w2.cell? ⟨g, i * 6 + 1, none⟩ = some (.int .i64 L[i].z) ∧ w2.cell? ⟨g, i * 6 + 2, none⟩ = some (.int .i64 L[i].m.fn) ∧
    w2.cell? ⟨g, i * 6 + 3, none⟩ = some (.int .i64 L[i].m.fd) ∧ w2.cell? ⟨g, i * 6 + 4, none⟩ = some (.int .i64 L[i].m.ln) ∧ w2.cell? ⟨g, i * 6 + 5, none⟩ = some (.int .i64 L[i].m.ld)))
  have hn2 := hn1.trans n2
  have hTM : M.take L.length = M := by rw [← hML, List.take_length]
  have HTM := Lib.hid hTM
  have HML := Lib.hid hML
  rw [hML]
  rw [hML] at hcap'
  clear r2 CD hn1 n2 hd e1 hTM hML hMp
  go_wp2_with fail
  go_loopg [51, 9, 10] L.length (fun k i f l wr => ∃ m : Nat, m + k = L.length ∧ i = .int .i64 m ∧ f = .bool ((L.take m).any fun c => holdsB c.x c.z p0 q0) ∧ l = .bool ((L.take m).any fun c => holdsB c.x c.z p1 q1) ∧ New w2 wr)
  case atStart => exact ⟨0, by omega, rfl, rfl, rfl, New.refl _⟩
  case round =>
    obtain ⟨m, hm, rfl, rfl, rfl, hw⟩ := hrel
    ((replace a0 := hw.keep a0); (replace a1 := hw.keep a1); (replace b0 := hw.keep b0); (replace b1 := hw.keep b1))
    by_cases hlt : m < L.length
    · obtain ⟨c0, c1, c2, c3, c4, c5⟩ := HC.out m hlt
      replace c0 := hw.keep c0
      replace c1 := hw.keep c1
      replace c2 := hw.keep c2
      replace c3 := hw.keep c3
      replace c4 := hw.keep c4
      replace c5 := hw.keep c5
      have gd := L[m].ok
      have kf := Lib.hid (hK.out m hlt)
      have sf := Lib.hid (hS.out m hlt)
      have st1 := any_take_succ (fun c : Col => holdsB c.x c.z p0 q0) L m hlt
      have st2 := any_take_succ (fun c : Col => holdsB c.x c.z p1 q1) L m hlt
      have CH1 := Lib.hid (fun W => c_holds L[m].x L[m].z L[m].m.fn L[m].m.fd L[m].m.ln L[m].m.ld p0 q0 ⟨gd.1.1, gd.1.2.1⟩ gd.1.2.2 W)
      have CH2 := Lib.hid (fun W => c_holds L[m].x L[m].z L[m].m.fn L[m].m.fd L[m].m.ln L[m].m.ld p1 q1 ⟨gd.1.1, gd.1.2.1⟩ gd.1.2.2 W)
      generalize hF1 : (L.take m).any (fun c => holdsB c.x c.z p0 q0) = F1 at *
      generalize hF2 : (L.take m).any (fun c => holdsB c.x c.z p1 q1) = F2 at *
      clear gd hF1 hF2
      generalize L[m] = P at *
      obtain ⟨px, pz, ⟨pn, pd, pl, pk⟩, _⟩ := P
      simp only [] at *
      generalize holdsB px pz p0 q0 = h1 at *
      generalize holdsB px pz p1 q1 = h2 at *
      have ST1 := Lib.hid st1
      have ST2 := Lib.hid st2
      clear st1 st2
      go_upto_region 11 with fail
      refine Code.at (fun Y hY => ?_)
      have n3 : New wr Y := by subst hY; (repeat (first | (with_reducible exact New.refl _) | (with_reducible assumption) | ((with_reducible refine New.setB ?_ ?_ _); focus (first | omega | (simp; omega) | (simp; done))) | (with_reducible refine New.alloc ?_ _) | (with_reducible refine New.drew ?_) | (with_reducible refine New.drewN ?_ _) | (with_reducible refine New.hat ?_ _) | ((with_reducible apply New.snart); (with_reducible assumption))))
      have x0 : Y.cell? ⟨wr.heap.size, 0, none⟩ = some (.int .i64 px) := by subst hY; go_simp
      have x1 : Y.cell? ⟨wr.heap.size, 1, none⟩ = some (.int .i64 pz) := by subst hY; go_simp
      have x2 : Y.cell? ⟨wr.heap.size, 2, none⟩ = some (.int .i64 pn) := by subst hY; go_simp
      have x3 : Y.cell? ⟨wr.heap.size, 3, none⟩ = some (.int .i64 pd) := by subst hY; go_simp
      have x4 : Y.cell? ⟨wr.heap.size, 4, none⟩ = some (.int .i64 pl) := by subst hY; go_simp
      have x5 : Y.cell? ⟨wr.heap.size, 5, none⟩ = some (.int .i64 pk) := by subst hY; go_simp
      clear hY c0 c1 c2 c3 c4 c5
      ((replace a0 := n3.keep a0); (replace a1 := n3.keep a1); (replace b0 := n3.keep b0); (replace b1 := n3.keep b1))
      obtain ⟨X, hX⟩ : ∃ X, X = wr.heap.size := ⟨_, rfl⟩
      rw [← hX] at x0 x1 x2 x3 x4 x5 ⊢
      have hwY := hw.trans n3
      clear hX n3 hw
      go_wp2_with fail
      go_loopg [58, 13] L.length (fun k i t wr2 => ∃ s : Nat, s + k = L.length ∧ i = .int .i64 s ∧ t = .bool ((M.take s).any fun d => px == d.x && pz == d.z) ∧ New Y wr2)
      case atStart => exact ⟨0, by omega, rfl, rfl, New.refl _⟩
      case round =>
        obtain ⟨s, hs, rfl, rfl, hu⟩ := hrel
        ((replace a0 := hu.keep a0); (replace a1 := hu.keep a1); (replace b0 := hu.keep b0); (replace b1 := hu.keep b1))
        ((replace x0 := hu.keep x0); (replace x1 := hu.keep x1); (replace x2 := hu.keep x2); (replace x3 := hu.keep x3); (replace x4 := hu.keep x4); (replace x5 := hu.keep x5))
        by_cases hlt2 : s < L.length
        · have hltM : s < M.length := by rw [HML.out]; exact hlt2
          obtain ⟨c0, c1, c2, c3, c4, c5⟩ := HD.out s hltM
          have hwu := hwY.trans hu
          replace c0 := hwu.keep c0
          replace c1 := hwu.keep c1
          replace c2 := hwu.keep c2
          replace c3 := hwu.keep c3
          replace c4 := hwu.keep c4
          replace c5 := hwu.keep c5
          have st := any_take_succ (fun d : Col => px == d.x && pz == d.z) M s hltM
          generalize hF : (M.take s).any (fun d => px == d.x && pz == d.z) = F at *
          generalize M[s] = Q at *
          obtain ⟨qx, qz, ⟨qn, qd, ql, qk⟩, _⟩ := Q
          simp only [] at *
          clear hF hwu hltM
          go_upto_region 15 with fail
          refine Code.at (fun Z hZ => ?_)
          have n4 : New wr Z := by subst hZ; (repeat (first | (with_reducible exact New.refl _) | (with_reducible assumption) | ((with_reducible refine New.setB ?_ ?_ _); focus (first | omega | (simp; omega) | (simp; done))) | (with_reducible refine New.alloc ?_ _) | (with_reducible refine New.drew ?_) | (with_reducible refine New.drewN ?_ _) | (with_reducible refine New.hat ?_ _) | ((with_reducible apply New.snart); (with_reducible assumption))))
          have y0 : Z.cell? ⟨wr.heap.size, 0, none⟩ = some (.int .i64 qx) := by subst hZ; go_simp
          have y1 : Z.cell? ⟨wr.heap.size, 1, none⟩ = some (.int .i64 qz) := by subst hZ; go_simp
          clear hZ c0 c1 c2 c3 c4 c5
          ((replace x0 := n4.keep x0); (replace x1 := n4.keep x1); (replace x2 := n4.keep x2); (replace x3 := n4.keep x3); (replace x4 := n4.keep x4); (replace x5 := n4.keep x5))
          have huZ := hu.trans n4
          clear n4 hu a0 a1 b0 b1
          cases F with
          | true =>
            have ST := Lib.hid st
            clear st
            go_wp2_with fail
            go_roundg (L.length - (s + 1))
            case measure => omega
            case rel => exact ⟨s + 1, by omega, by go_num, (congrArg Value.bool ST.out).symm, huZ⟩
          | false =>
            cases hx : (px == qx) with
            | false =>
              rw [hx] at st
              have ST := Lib.hid st
              clear st
              go_wp2_with fail
              go_roundg (L.length - (s + 1))
              case measure => omega
              case rel => exact ⟨s + 1, by omega, by go_num, (congrArg Value.bool ST.out).symm, huZ⟩
            | true =>
              rw [hx] at st
              have ST := Lib.hid st
              clear st
              go_wp2_with fail
              go_roundg (L.length - (s + 1))
              case measure => omega
              case rel => exact ⟨s + 1, by omega, by go_num, (congrArg Value.bool ST.out).symm, huZ⟩
        · obtain rfl : s = L.length := by omega
          have htrue : (M.take L.length).any (fun d => px == d.x && pz == d.z) = true := by rw [HTM.out]; exact kf.out
          rw [htrue]
          have hwu := hwY.trans hu
          clear hu hwY htrue kf
          rename World => w5
          obtain ⟨z, hz⟩ : ∃ z, ((m : Int) == 0) = z := ⟨_, rfl⟩
          go_wp2_with fail
          go_loopg [84, 16] m (fun k i t wr3 => ∃ s : Nat, s + k = m ∧ i = .int .i64 s ∧ t = .bool (z || (L.take s).any fun d => shareB p0 q0 p1 q1 px pz d.x d.z) ∧ New w5 wr3)
          case atStart => exact ⟨0, by omega, rfl, by simp, New.refl _⟩
          case round =>
            obtain ⟨s, hs, rfl, rfl, hu⟩ := hrel
            ((replace a0 := hu.keep a0); (replace a1 := hu.keep a1); (replace b0 := hu.keep b0); (replace b1 := hu.keep b1))
            ((replace x0 := hu.keep x0); (replace x1 := hu.keep x1); (replace x2 := hu.keep x2); (replace x3 := hu.keep x3); (replace x4 := hu.keep x4); (replace x5 := hu.keep x5))
            by_cases hlt2 : s < m
            · obtain ⟨c0, c1, c2, c3, c4, c5⟩ := HC.out s (by omega)
              have hwv := hwu.trans hu
              replace c0 := hwv.keep c0
              replace c1 := hwv.keep c1
              replace c2 := hwv.keep c2
              replace c3 := hwv.keep c3
              replace c4 := hwv.keep c4
              replace c5 := hwv.keep c5
              have st := any_take_succ (fun d : Col => shareB p0 q0 p1 q1 px pz d.x d.z) L s (by omega)
              replace st : (z || (L.take (s + 1)).any fun d => shareB p0 q0 p1 q1 px pz d.x d.z) = ((z || (L.take s).any fun d => shareB p0 q0 p1 q1 px pz d.x d.z) || shareB p0 q0 p1 q1 px pz L[s].x L[s].z) := by rw [st, Bool.or_assoc]
              have CS := Lib.hid (fun W => c_share p0 q0 p1 q1 px pz pn pd pl pk L[s].x L[s].z L[s].m.fn L[s].m.fd L[s].m.ln L[s].m.ld W)
              generalize hF : (z || (L.take s).any fun d => shareB p0 q0 p1 q1 px pz d.x d.z) = F at *
              generalize L[s] = Q at *
              obtain ⟨qx, qz, ⟨qn, qd, ql, qk⟩, _⟩ := Q
              simp only [] at *
              generalize shareB p0 q0 p1 q1 px pz qx qz = u at *
              clear hF hwv
              go_upto_region 21 with fail
              refine Code.at (fun Z hZ => ?_)
              have n4 : New wr Z := by subst hZ; (repeat (first | (with_reducible exact New.refl _) | (with_reducible assumption) | ((with_reducible refine New.setB ?_ ?_ _); focus (first | omega | (simp; omega) | (simp; done))) | (with_reducible refine New.alloc ?_ _) | (with_reducible refine New.drew ?_) | (with_reducible refine New.drewN ?_ _) | (with_reducible refine New.hat ?_ _) | ((with_reducible apply New.snart); (with_reducible assumption))))
              have y0 : Z.cell? ⟨wr.heap.size, 0, none⟩ = some (.int .i64 qx) := by subst hZ; go_simp
              have y1 : Z.cell? ⟨wr.heap.size, 1, none⟩ = some (.int .i64 qz) := by subst hZ; go_simp
              have y2 : Z.cell? ⟨wr.heap.size, 2, none⟩ = some (.int .i64 qn) := by subst hZ; go_simp
              have y3 : Z.cell? ⟨wr.heap.size, 3, none⟩ = some (.int .i64 qd) := by subst hZ; go_simp
              have y4 : Z.cell? ⟨wr.heap.size, 4, none⟩ = some (.int .i64 ql) := by subst hZ; go_simp
              have y5 : Z.cell? ⟨wr.heap.size, 5, none⟩ = some (.int .i64 qk) := by subst hZ; go_simp
              clear hZ c0 c1 c2 c3 c4 c5
              ((replace a0 := n4.keep a0); (replace a1 := n4.keep a1); (replace b0 := n4.keep b0); (replace b1 := n4.keep b1))
              ((replace x0 := n4.keep x0); (replace x1 := n4.keep x1); (replace x2 := n4.keep x2); (replace x3 := n4.keep x3); (replace x4 := n4.keep x4); (replace x5 := n4.keep x5))
              have huZ := hu.trans n4
              have ST := Lib.hid st
              clear n4 hu st
              cases F with
              | true =>
                go_wp2_with fail
                go_roundg (m - (s + 1))
                case measure => omega
                case rel => exact ⟨s + 1, by omega, by go_num, (congrArg Value.bool ST.out).symm, huZ⟩
              | false =>
                go_wp2_with fail
                refine (CS.out _).mono ?_
                rintro e w6 ⟨rfl, n6⟩
                go_wp2_with fail
                go_roundg (m - (s + 1))
                case measure => omega
                case rel => exact ⟨s + 1, by omega, by go_num, (congrArg Value.bool ST.out).symm, huZ.trans n6⟩
            · obtain rfl : s = m := by omega
              have htrue : (z || (L.take s).any fun d => shareB p0 q0 p1 q1 px pz d.x d.z) = true := by
                rcases Nat.eq_zero_or_pos s with h | h
                · rw [← hz, h]; rfl
                · rw [sf.out h, Bool.or_true]
              rw [htrue]
              have hwv := hwu.trans hu
              clear hu hwu htrue sf hz
              cases F1 with
              | true =>
                cases F2 with
                | true =>
                  go_wp2_with fail
                  go_roundg (L.length - (s + 1))
                  case measure => omega
                  case rel => exact ⟨s + 1, by omega, by go_num, (congrArg Value.bool ST1.out).symm, (congrArg Value.bool ST2.out).symm, hwv⟩
                | false =>
                  go_wp2_with fail
                  refine (CH2.out _).mono ?_
                  rintro e w6 ⟨rfl, n6⟩
                  go_wp2_with fail
                  go_roundg (L.length - (s + 1))
                  case measure => omega
                  case rel => exact ⟨s + 1, by omega, by go_num, (congrArg Value.bool ST1.out).symm, (congrArg Value.bool ST2.out).symm, hwv.trans n6⟩
              | false =>
                go_wp2_with fail
                refine (CH1.out _).mono ?_
                rintro e w6 ⟨rfl, n6⟩
                ((replace a0 := n6.keep a0); (replace a1 := n6.keep a1); (replace b0 := n6.keep b0); (replace b1 := n6.keep b1))
                ((replace x0 := n6.keep x0); (replace x1 := n6.keep x1); (replace x2 := n6.keep x2); (replace x3 := n6.keep x3); (replace x4 := n6.keep x4); (replace x5 := n6.keep x5))
                cases F2 with
                | true =>
                  go_wp2_with fail
                  go_roundg (L.length - (s + 1))
                  case measure => omega
                  case rel => exact ⟨s + 1, by omega, by go_num, (congrArg Value.bool ST1.out).symm, (congrArg Value.bool ST2.out).symm, hwv.trans n6⟩
                | false =>
                  go_wp2_with fail
                  refine (CH2.out _).mono ?_
                  rintro e w7 ⟨rfl, n7⟩
                  go_wp2_with fail
                  go_roundg (L.length - (s + 1))
                  case measure => omega
                  case rel => exact ⟨s + 1, by omega, by go_num, (congrArg Value.bool ST1.out).symm, (congrArg Value.bool ST2.out).symm, (hwv.trans n6).trans n7⟩
    · obtain rfl : m = L.length := by omega
      rw [List.take_length, hFA.out, hFB.out]
      go_wp2_with fail
      refine (c_wakes _).mono ?_
      rintro e w4 ⟨rfl, n4⟩
      go_wp2_with fail
      go_ret
      exact ⟨rfl, (hn2.trans hw).trans n4⟩

theorem turn_any (p0 q0 p1 q1 : Int) (w : World) :
    Calls Try.prog 4 #[.agg #[.int .i64 p0, .int .i64 q0], .agg #[.int .i64 p1, .int .i64 q1]] w fun e w' => e = .returned (.bool true) ∧ New w w' := by
  cases hok : okB p0 q0 p1 q1 with
  | false => exact turn_no p0 q0 p1 q1 hok w
  | true => exact turn_yes p0 q0 p1 q1 hok w

end Go.Proofs.Ytmpkciidhopckaa
