import Derived.Test.YtljcebahjfifhaaDoorLkBc
import Derived.Test.YtljcebahjfifhaaDoorLkBd
import Derived.ChangeKeysEq
import Derived.Deep.LoopGhost

/- The document's Build. -/
namespace Go.Proofs.YtljcebahjfifhaaDoor
open Go.RowKit
set_option linter.unusedVariables false

set_option maxHeartbeats 4000000 in
set_option maxRecDepth 100000 in
theorem lr_Build_bad (C : CfgR) (G : Gd) (hb : lkE C G ≠ 0) (w : World) (h : G.ok w) : Calls Tryd.prog 20 #[.agg #[.int .i64 C.cl, .int .i64 C.cb, .int .i64 C.ht, .int .i64 C.ri, .int .i64 C.ru, .int .i64 C.wd, .int .i64 C.dp], .agg #[.int .i64 G.x, .int .i64 G.z, .int .i64 G.w, .int .i64 G.d, .slice G.ga G.L.length G.gc]] w (LBuilt (lkE C G) [] w) := by
  have KC : Hid (∀ W, Calls Tryd.prog 22 #[.agg #[.int .i64 C.cl, .int .i64 C.cb, .int .i64 C.ht, .int .i64 C.ri, .int .i64 C.ru, .int .i64 C.wd, .int .i64 C.dp]] W fun e w' => e = .returned (.int .i64 C.err) ∧ New W w') := Lib.hid (fun W => (rcheck_any C.cl C.cb C.ht C.ri C.ru C.wd C.dp W).mono fun e w' h => ⟨h.1, h.2.1⟩)
  have KG := Lib.hid (fun W n => rg_check G W (h.keep (n : New w W)))
  have h1 := err_or C
  have h2 := gE_two G
  have HL : Hid (lkE C G = if C.err = 0 then gE G else 20) := Lib.hid rfl
  obtain ⟨Q, hQ⟩ : ∃ Q, Q = LBuilt (lkE C G) [] w := ⟨_, rfl⟩
  rw [← hQ]
  have HQ := Lib.hid hQ
  clear hQ
  generalize lkE C G = le at *
  generalize C.err = ce at *
  generalize gE G = ge at *
  obtain ⟨n, hn⟩ : ∃ n, n = G.L.length := ⟨_, rfl⟩
  rw [← hn] at KG ⊢
  clear hn h
  have HB := Lib.hid hb
  clear hb
  go_enter Tryd.func20, Tryd.ntmps20
  go_wp2_with fail
  refine Calls.at (fun W hW => ?_)
  have n0 : New w W := by subst hW; (repeat (first | (with_reducible exact New.refl _) | (with_reducible assumption) | ((with_reducible refine New.setB ?_ ?_ _); focus (first | omega | (simp; omega) | (simp; done))) | (with_reducible refine New.alloc ?_ _) | (with_reducible refine New.drew ?_) | (with_reducible refine New.drewN ?_ _) | (with_reducible refine New.hat ?_ _) | ((with_reducible apply New.snart); (with_reducible assumption))))
  have g0 : W.cell? ⟨w.heap.size + 1, 0, none⟩ = some (.int .i64 G.x) := by subst hW; go_simp
  have g1 : W.cell? ⟨w.heap.size + 1, 1, none⟩ = some (.int .i64 G.z) := by subst hW; go_simp
  have g2 : W.cell? ⟨w.heap.size + 1, 2, none⟩ = some (.int .i64 G.w) := by subst hW; go_simp
  have g3 : W.cell? ⟨w.heap.size + 1, 3, none⟩ = some (.int .i64 G.d) := by subst hW; go_simp
  have g4 : W.cell? ⟨w.heap.size + 1, 4, none⟩ = some (.slice G.ga n G.gc) := by subst hW; go_simp
  clear hW
  refine (KC.out _).mono ?_
  rintro e w1 ⟨rfl, n1⟩
  have N1 := n0.trans n1
  rcases h1 with rfl | rfl
  rotate_left
  · have hle : le = 20 := HL.out
    subst hle
    clear HL HB g0 g1 g2 g3 g4 n0 n1
    go_wp2_with fail
    rw [HQ.out]
    exact ⟨_, rfl, RowsK.nil, N1⟩
  replace g0 := n1.keep g0
  replace g1 := n1.keep g1
  replace g2 := n1.keep g2
  replace g3 := n1.keep g3
  replace g4 := n1.keep g4
  clear n0 n1
  go_wp2_with fail
  refine (KG.out _ N1).mono ?_
  rintro e w2 ⟨rfl, n2⟩
  have N2 := N1.trans n2
  clear g0 g1 g2 g3 g4 n2 N1 KG KC
  rcases h2 with rfl | rfl
  · exact absurd HL.out HB.out
  · have hle : le = 2 := HL.out
    subst hle
    clear HL HB
    go_wp2_with fail
    rw [HQ.out]
    exact ⟨_, rfl, RowsK.nil, N2⟩

set_option maxHeartbeats 16000000 in
set_option maxRecDepth 100000 in
theorem lr_Build_fine (C : CfgR) (G : Gd) (hC : C.err = 0) (hE : gE G = 0) (w : World) (h : G.ok w) : Calls Tryd.prog 20 #[.agg #[.int .i64 C.cl, .int .i64 C.cb, .int .i64 C.ht, .int .i64 C.ri, .int .i64 C.ru, .int .i64 C.wd, .int .i64 C.dp], .agg #[.int .i64 G.x, .int .i64 G.z, .int .i64 G.w, .int .i64 G.d, .slice G.ga G.L.length G.gc]] w (LBuilt 0 (lkL C G) w) := by
  obtain ⟨i0, hi0, hz0, hz1, hz2⟩ := info_parts lk_info
  obtain ⟨i1, hi1, hy0, hy1, hy2⟩ := info_parts lks_info
  have KC : Hid (∀ W, Calls Tryd.prog 22 #[.agg #[.int .i64 C.cl, .int .i64 C.cb, .int .i64 C.ht, .int .i64 C.ri, .int .i64 C.ru, .int .i64 C.wd, .int .i64 C.dp]] W fun e w' => e = .returned (.int .i64 0) ∧ New W w') := Lib.hid (fun W => (rcheck_any C.cl C.cb C.ht C.ri C.ru C.wd C.dp W).mono fun e w' h => ⟨by rw [h.1]; show Ending.returned (.int .i64 C.err) = _; rw [hC], h.2.1⟩)
  have KG : Hid (∀ W, New w W → Calls Tryd.prog 23 #[.agg #[.int .i64 G.x, .int .i64 G.z, .int .i64 G.w, .int .i64 G.d, .slice G.ga G.L.length G.gc]] W fun e w' => e = .returned (.int .i64 0) ∧ New W w') := Lib.hid (fun W n => by have := rg_check G W (h.keep (n : New w W)); rw [hE] at this; exact this)
  have KT := Lib.hid (fun x z k d W (q : New w W) => lr_to C G hC hE x z k d w W q h)
  have HH : Hid (RowsK Fl.enc 3 w (.slice G.ga G.L.length G.gc) G.L) := Lib.hid h
  have hb := placeB_iff.1 (gd_is hE).1
  have HE := Lib.hid hE
  have HLN := Lib.hid (gd_is hE).2.1
  have hlen : G.L.length ≤ 4096 := by
    have := mul_64 hb.2.2.1.1 hb.2.2.1.2 hb.2.2.2.1 hb.2.2.2.2
    have := (gd_is hE).2.1
    omega
  obtain ⟨n, hn⟩ : ∃ n, n = G.L.length := ⟨_, rfl⟩
  rw [← hn] at KG KT HH hlen ⊢
  have HN := Lib.hid hn
  obtain ⟨ga, hga⟩ : ∃ q, q = G.ga := ⟨_, rfl⟩
  rw [← hga] at KG KT HH ⊢
  obtain ⟨wN, hwN⟩ : ∃ q, q = G.w.toNat := ⟨_, rfl⟩
  have HW := Lib.hid hwN
  have hwi : G.w = wN := by omega
  have HWI := Lib.hid hwi
  rw [hwi] at KG KT ⊢
  have hw64 : wN ≤ 64 := by omega
  have hx64 : -64 ≤ G.x ∧ G.x ≤ 64 := by omega
  have hz64 : -64 ≤ G.z ∧ G.z ≤ 64 := by omega
  have hwp : Hid (0 < n → 0 < wN) := Lib.hid (fun hp => by
    have h1 := HLN.out
    rw [hwi, ← hn] at h1
    rcases Nat.eq_zero_or_pos wN with q | q
    · rw [q] at h1; simp at h1; omega
    · exact q)
  have hdv : Hid (∀ i, i < n → i / wN ≤ 4096) := Lib.hid (fun i h => by have := Nat.div_le_self i wN; omega)
  have HLL : Hid (lkL C G = (List.range n).map (lkC C G)) := Lib.hid (by unfold lkL; rw [← hn])
  have HTK := Lib.hid (fun i k (q : k < (gcol G i).length) => lkC_take C G i q)
  have HTL := Lib.hid (fun i => lkL_take C G i)
  have HCL := Lib.hid (fun i => lkC_len C G i)
  generalize lkL C G = LL at *
  clear hn h hE hga hwN hwi hb hC
  obtain ⟨Q, hQ⟩ : ∃ Q, Q = LBuilt 0 LL w := ⟨_, rfl⟩
  rw [← hQ]
  have HQ := Lib.hid hQ
  clear hQ
  go_enter Tryd.func20, Tryd.ntmps20
  go_wp2_with fail
  refine Calls.at (fun W0 hW => ?_)
  have n0 : New w W0 := by subst hW; (repeat (first | (with_reducible exact New.refl _) | (with_reducible assumption) | ((with_reducible refine New.setB ?_ ?_ _); focus (first | omega | (simp; omega) | (simp; done))) | (with_reducible refine New.alloc ?_ _) | (with_reducible refine New.drew ?_) | (with_reducible refine New.drewN ?_ _) | (with_reducible refine New.hat ?_ _) | ((with_reducible apply New.snart); (with_reducible assumption))))
  have c0 : W0.cell? ⟨w.heap.size, 0, none⟩ = some (.int .i64 C.cl) := by subst hW; go_simp
  have c1 : W0.cell? ⟨w.heap.size, 1, none⟩ = some (.int .i64 C.cb) := by subst hW; go_simp
  have c2 : W0.cell? ⟨w.heap.size, 2, none⟩ = some (.int .i64 C.ht) := by subst hW; go_simp
  have c3 : W0.cell? ⟨w.heap.size, 3, none⟩ = some (.int .i64 C.ri) := by subst hW; go_simp
  have c4 : W0.cell? ⟨w.heap.size, 4, none⟩ = some (.int .i64 C.ru) := by subst hW; go_simp
  have c5 : W0.cell? ⟨w.heap.size, 5, none⟩ = some (.int .i64 C.wd) := by subst hW; go_simp
  have c6 : W0.cell? ⟨w.heap.size, 6, none⟩ = some (.int .i64 C.dp) := by subst hW; go_simp
  have g0 : W0.cell? ⟨w.heap.size + 1, 0, none⟩ = some (.int .i64 G.x) := by subst hW; go_simp
  have g1 : W0.cell? ⟨w.heap.size + 1, 1, none⟩ = some (.int .i64 G.z) := by subst hW; go_simp
  have g2 : W0.cell? ⟨w.heap.size + 1, 2, none⟩ = some (.int .i64 wN) := by subst hW; go_simp
  have g3 : W0.cell? ⟨w.heap.size + 1, 3, none⟩ = some (.int .i64 G.d) := by subst hW; go_simp
  have g4 : W0.cell? ⟨w.heap.size + 1, 4, none⟩ = some (.slice ga n G.gc) := by subst hW; go_simp
  clear hW
  have HCG := Lib.hid (fun W2 (q : New W0 W2) => And.intro (q.keep c0) (And.intro (q.keep c1) (And.intro (q.keep c2) (And.intro (q.keep c3) (And.intro (q.keep c4) (And.intro (q.keep c5) (And.intro (q.keep c6) (And.intro (q.keep g0) (And.intro (q.keep g1) (And.intro (q.keep g2) (And.intro (q.keep g3) (q.keep g4))))))))))))
  have N0 := Lib.hid n0
  clear c0 c1 c2 c3 c4 c5 c6 g0 g1 g2 g3 g4
  refine (KC.out _).mono ?_
  rintro e w1 ⟨rfl, n1⟩
  obtain ⟨c0, c1, c2, c3, c4, c5, c6, g0, g1, g2, g3, g4⟩ := HCG.out _ n1
  go_wp2_with fail
  refine (KG.out _ (n0.trans n1)).mono ?_
  rintro e w2 ⟨rfl, n2⟩
  have N2 := Lib.hid (n1.trans n2)
  clear c0 c1 c2 c3 c4 c5 c6 g0 g1 g2 g3 g4
  clear n0 n1 n2 KC KG
  obtain ⟨base, hbase⟩ : ∃ q, q = W0.heap.size := ⟨_, rfl⟩
  have HBS := Lib.hid hbase
  clear hbase
  go_wp2_with fail
  go_loopg [7, 6] n (fun gk s7 s6 wr => ∃ (i : Nat) (ra : Option Addr) (rn rc : Nat) (us : List Value), s7 = .int .i64 i ∧ s6 = .slice ra rn rc ∧ i ≤ n ∧ n - i ≤ gk ∧ Hid (RowsOK Lk.enc 4 69 base wr (.slice ra rn rc) us ((List.range i).map (lkC C G))) ∧ Hid (New W0 wr))
  case atStart => exact ⟨0, none, 0, 0, [], rfl, rfl, by omega, by omega, Lib.hid RowsOK.nil, N2⟩
  case round =>
    obtain ⟨i, ra, rn, rc, us, rfl, rfl, hi', hgk, HRO, hnr⟩ := hrel
    obtain ⟨-, -, -, -, -, -, -, -, -, -, -, g4⟩ := HCG.out _ hnr.out
    by_cases hlt : i < n
    · have HGK := Lib.hid hgk
      have hil : i < G.L.length := by rw [← HN.out]; exact hlt
      have hc8 := gcol_len HE.out i
      have hcl := gcol_at hil
      obtain ⟨m, hm⟩ : ∃ q, q = (gcol G i).length := ⟨_, rfl⟩
      rw [← hm] at hc8
      have HM := Lib.hid hm
      have HCLL := Lib.hid hcl
      rename World => Wo
      obtain ⟨base2, hb2⟩ : ∃ q, q = Wo.heap.size := ⟨_, rfl⟩
      have HB2 := Lib.hid hb2
      clear hb2 hgk hm hcl
      go_wp2_with fail
      clear g4
      go_loopg [9, 8] m (fun gk s9 s8 wr => ∃ (k : Nat) (ca : Option Addr) (cn cc : Nat), s9 = .int .i64 k ∧ s8 = .slice ca cn cc ∧ k ≤ m ∧ m - k ≤ gk ∧ Hid (wr.ownsRow base2 67 4 (.slice ca cn cc) ((lkC C G i).take k).length (((lkC C G i).take k).flatMap Lk.enc)) ∧ Hid (New Wo wr))
      case atStart => exact ⟨0, none, 0, 0, rfl, rfl, by omega, by omega, Lib.hid (by rw [List.take_zero]; exact World.ownsRow_nil _ _ _ _), Lib.hid (New.refl _)⟩
      case round =>
        obtain ⟨k, ca, cn, cc, rfl, rfl, hk, hgk, hown, hnk⟩ := hrel
        obtain ⟨-, -, -, -, -, -, -, -, -, -, -, g4⟩ := HCG.out _ (hnr.out.trans hnk.out)
        obtain ⟨b, off, a, c, rfl, hc, hs⟩ := (HH.out.keep (N0.out.trans (hnr.out.trans hnk.out))).at i hil
        rw [← HCLL.out, ← HM.out] at hc
        clear hs
        by_cases hkt : k < m
        · have hkl : k < (gcol G i).length := by rw [← HM.out]; exact hkt
          have hsu := HTK.out i k hkl
          have hst : sdI G i k = ⟨G.x + ((i % wN : Nat) : Int), G.z + ((i / wN : Nat) : Int), k⟩ := by unfold sdI; rw [← HW.out]
          rw [hst] at hsu
          have hsl : ((lkC C G i).take k).length ≤ k := by rw [List.length_take]; omega
          have hwp' := hwp.out (by omega)
          have hmod : i % wN < wN := Nat.mod_lt _ hwp'
          have hdv' := hdv.out i hlt
          obtain ⟨xm, hxm⟩ : ∃ q, q = i % wN := ⟨_, rfl⟩
          obtain ⟨zm, hzm⟩ : ∃ q, q = i / wN := ⟨_, rfl⟩
          have hr1 : ((i : Int).tmod (wN : Int)) = (xm : Int) := by rw [hxm]; rfl
          have hr2 : ((i : Int).tdiv (wN : Int)) = (zm : Int) := by rw [hzm]; rfl
          rw [← hxm] at hmod hsu
          rw [← hzm] at hdv' hsu
          have HSU := Lib.hid hsu
          have hxw : IntKind.i64.wrap (G.x + (xm : Int)) = G.x + xm := IntWalk.i64_in _ (by omega)
          have hzw : IntKind.i64.wrap (G.z + (zm : Int)) = G.z + zm := IntWalk.i64_in _ (by omega)
          have hw1 : IntKind.i64.wrap (xm : Int) = xm := IntWalk.i64_in _ (by omega)
          have hw2 : IntKind.i64.wrap (zm : Int) = zm := IntWalk.i64_in _ (by omega)
          have hwne : ¬ wN = 0 := by omega
          obtain ⟨S, hS⟩ : ∃ S : Sd, S = ⟨G.x + (xm : Nat), G.z + (zm : Nat), k⟩ := ⟨_, rfl⟩
          have KTi : Hid (∀ (d : Int) (W : World), New w W → Calls Tryd.prog 28 #[.agg #[.int .i64 C.cl, .int .i64 C.cb, .int .i64 C.ht, .int .i64 C.ri, .int .i64 C.ru, .int .i64 C.wd, .int .i64 C.dp], .agg #[.int .i64 G.x, .int .i64 G.z, .int .i64 (wN : Nat), .int .i64 G.d, .slice (some ⟨b, off, none⟩) n G.gc], .int .i64 (G.x + (xm : Nat)), .int .i64 (G.z + (zm : Nat)), .int .i64 (k : Nat), .int .i64 d] W fun e w' => e = .returned (.tuple #[.int .i64 (sdO (toS C G S d)).k, .bool (toS C G S d).isSome]) ∧ New W w') := Lib.hid (fun d W q => by
            have := KT.out (G.x + (xm : Nat)) (G.z + (zm : Nat)) k d W q
            rw [← hS] at this
            exact this)
          rw [← hS] at HSU
          have HTS := Lib.hid (fun i j => lkTo_succ C G S i j)
          have H4 : Hid (lkTo C G S 4 0 = (lkS C G S).a ∧ lkTo C G S 4 1 = (lkS C G S).b ∧ lkTo C G S 4 2 = (lkS C G S).c ∧ lkTo C G S 4 3 = (lkS C G S).d) := Lib.hid ⟨rfl, rfl, rfl, rfl⟩
          have H0 : Hid (∀ j, lkTo C G S 0 j = 0) := Lib.hid (fun j => by unfold lkTo; rw [if_neg (by omega)])
          generalize lkTo C G S = lt at *
          generalize lkS C G S = x at *
          generalize toS C G S = tn at *
          clear hS
          obtain ⟨pre, hpre⟩ : ∃ q, q = (lkC C G i).take k := ⟨_, rfl⟩
          rw [← hpre] at HSU hown hsl
          clear hpre hxm hzm hst hsu
          have hHW := Lib.hid (And.intro hmod hdv')
          rename World => Wm
          have HPM := Lib.hid (N0.out.trans (hnr.out.trans hnk.out))
          have HGM := Lib.hid (hnr.out.trans hnk.out)
          have hb2m : base2 ≤ Wm.heap.size := by rw [HB2.out]; exact hnk.out.size
          go_upto_region 14 with fail
          refine Code.at (fun Wk hW => ?_)
          have NK : Hid (New Wm Wk) := Lib.hid (by subst hW; (repeat (first | (with_reducible exact New.refl _) | (with_reducible assumption) | ((with_reducible refine New.setB ?_ ?_ _); focus (first | omega | (simp; omega) | (simp; done))) | (with_reducible refine New.alloc ?_ _) | (with_reducible refine New.drew ?_) | (with_reducible refine New.drewN ?_ _) | (with_reducible refine New.hat ?_ _) | ((with_reducible apply New.snart); (with_reducible assumption)))))
          have HL : Hid (LiAt (lt 0) Wk Wm.heap.size) := Lib.hid (by
            subst hW
            intro j hj
            rw [H0.out]
            rcases (show j = 0 ∨ j = 1 ∨ j = 2 ∨ j = 3 by omega) with rfl | rfl | rfl | rfl <;> exact ⟨by go_simp, by go_simp⟩)
          clear hW hc g4
          obtain ⟨P, hP⟩ : ∃ P, P = Wm.heap.size := ⟨_, rfl⟩
          rw [← hP] at HL ⊢
          have HPP := Lib.hid hP
          clear hP
          go_wp2_with fail
          have HGK2 := Lib.hid hgk
          clear hgk
          go_loopg [11] 4 (fun gk s11 wr => ∃ j : Nat, s11 = .int .i64 j ∧ j ≤ 4 ∧ 4 - j ≤ gk ∧ Hid (LiAt (lt j) wr P) ∧ Hid (New Wm wr))
          case atStart => exact ⟨0, rfl, by omega, by omega, HL, NK⟩
          case round =>
            obtain ⟨j, rfl, hj, hgk, HLr, HNr⟩ := hrel
            by_cases hjt : j < 4
            · obtain ⟨l0, l1⟩ := HLr.out j hjt
              go_upto_region 18 with fail
              refine Code.at (fun W5 hW => ?_)
              have HL5 : Hid (LiAt (fun i => if i = j then -1 else lt j i) W5 P) := Lib.hid (by subst hW; exact HLr.out.put hjt (-1) (fun j _ => rfl))
              have HN5 : Hid (New Wm W5) := Lib.hid (by subst hW; exact New.setB (p := ⟨P, j, none⟩) (by have := HPP.out; show Wm.heap.size ≤ P; omega) HNr.out _)
              clear hW l0 l1 HLr HNr
              have HSj := Lib.hid (HTS.out j)
              have KTj := Lib.hid (KTi.out j)
              obtain ⟨o, ho⟩ : ∃ o, o = tn j := ⟨_, rfl⟩
              rw [← ho] at KTj HSj
              clear ho
              obtain ⟨c0, c1, c2, c3, c4, c5, c6, g0, g1, g2, g3, g4⟩ := HCG.out _ (HGM.out.trans HN5.out)
              have F0 := Lib.hid (fun (q : Hat W5) => KTj.out q.w (HPM.out.trans (HN5.out.trans q.h)))
              obtain ⟨hmod, hdv'⟩ := hHW.out
              (refine wp_region_hat (by kernel_rfl) (by kernel_rfl) ?_; intro hatc hatf; (repeat (go_big_quiet_step (((go_at_call 28; with_reducible exact Calls.hat (F0.out _)))))); refine wpQuiet_nil ?_; rintro _ ⟨q, rfl⟩)
              replace HL5 := Lib.hid (HL5.out.new q.h)
              replace HN5 := Lib.hid (HN5.out.trans q.h)
              clear c0 c1 c2 c3 c4 c5 c6 g0 g1 g2 g3 g4
              clear hatc hatf F0 hmod hdv'
              generalize q.w = W7 at *
              clear q
              obtain ⟨l0, l1⟩ := HL5.out j hjt
              rcases o with _ | t
              · simp only [Option.isSome_none]
                have hnx : Hid (LiAt (lt (j + 1)) W7 P) := Lib.hid (fun i hi => by
                  have := HL5.out i hi
                  rw [HSj.out i]
                  exact this)
                go_wp2_with fail
                go_roundg (4 - (j + 1))
                case measure => omega
                case rel => exact ⟨j + 1, by go_num, by omega, by omega, hnx, HN5⟩
              · simp only [Option.isSome_some]
                have hkt : (sdO (some t)).k = t.k := rfl
                rw [hkt]
                clear hkt
                have hnx : Hid (LiAt (lt (j + 1)) (W7.setCell ⟨P, j, none⟩ (.int .i64 t.k)) P) := Lib.hid (HL5.out.put hjt t.k (fun i hi => by
                  rw [HSj.out i]
                  by_cases e : i = j
                  · simp [e, oneL]
                  · simp [e]))
                have HN6 : Hid (New Wm (W7.setCell ⟨P, j, none⟩ (.int .i64 t.k))) := Lib.hid (New.setB (p := ⟨P, j, none⟩) (by have := HPP.out; show Wm.heap.size ≤ P; omega) HN5.out _)
                clear HL5 HN5
                go_wp2_with fail
                go_roundg (4 - (j + 1))
                case measure => omega
                case rel => exact ⟨j + 1, by go_num, by omega, by omega, hnx, HN6⟩
            · obtain rfl : j = 4 := by omega
              have l0 := (HLr.out 0 (by omega)).1
              have l1 := (HLr.out 1 (by omega)).1
              have l2 := (HLr.out 2 (by omega)).1
              have l3 := (HLr.out 3 (by omega)).1
              rw [H4.out.1] at l0
              rw [H4.out.2.1] at l1
              rw [H4.out.2.2.1] at l2
              rw [H4.out.2.2.2] at l3
              have nn5 := hnk.out.trans HNr.out
              have own6 := own_new hown.out HNr.out
              have hr6 : base2 ≤ wr.heap.size := by rw [HB2.out]; exact nn5.size
              clear hgk HLr HNr hHW
              go_wp2_with (at_builtin; refine wpList_append_sl rfl _ _ 69 rfl Lk.enc_len Lk.enc_one base2 67 i0 _ 32 Tryd.underlying69 hi0 hz0 hz1 hz2 rfl (by decide) _ pre rfl (own_new own6 ((New.refl _).alloc _)) _ [x] rfl (lk_new _ x _) (by unfold maxLen; simp; omega) (by simp; omega) (by simp; omega) ?_; intro v' w1 hown' hnew _; obtain ⟨a', d', N', hN', rfl⟩ := own_shape2 hown'; clear hN'; have nw1 := hnew Wo (nn5.alloc _) (Nat.le_of_eq HB2.out.symm))
              have hgk := HGK2.out
              go_roundg (m - (k + 1))
              case measure => omega
              case rel => exact ⟨k + 1, a', N', d', by go_num, rfl, by omega, by omega, Lib.hid (by rw [HSU.out]; exact hown'), Lib.hid nw1⟩
        · obtain rfl : k = m := by omega
          have HOW : Hid (wr.ownsRow base2 67 4 (.slice ca cn cc) (lkC C G i).length ((lkC C G i).flatMap Lk.enc)) := Lib.hid (by
            have h := hown.out
            rw [List.take_of_length_le (by rw [HCL.out, HM.out]; exact Nat.le_refl _)] at h
            exact h)
          have HRn := Lib.hid (HRO.out.new hnk.out)
          have HNN := Lib.hid (hnr.out.trans hnk.out)
          have hbz : base ≤ wr.heap.size := by rw [HBS.out]; exact HNN.out.size
          have hsl := own_sl Lk.enc_len HOW.out
          have hcn : (lkC C G i).length = cn := by obtain ⟨a1, c1, e1, -⟩ := hsl; injection e1 with _ e1; exact e1.symm
          have HSL := Lib.hid hsl
          have HT := Lib.hid (HTL.out i)
          have HOB := Lib.hid (fun g e => own_block HOW.out g e)
          generalize lkC C G i = col at *
          clear hown hsl hgk
          go_upto_region 8 with (at_builtin; refine wpList_append_own_at _ rfl _ _ 38 rfl base 69 i1 (.slice none 0 0) 1 24 Tryd.underlying38 hi1 hy0 hy1 hy2 rfl (by decide) _ _ _ rfl (own_new HRn.out.own ((New.refl _).alloc _)) ⟨wr.heap.size, 0, none⟩ 1 1 [.slice ca cn cc] rfl rfl (by intro j u hj; cases j with | zero => (simp at hj; subst hj; go_simp) | succ j => simp at hj) (by intro u hu; rw [List.mem_singleton] at hu; subst hu; rfl) (by have := HRn.out.len; unfold maxLen; simp at this; omega) (by have := HRn.out.len; simp at this; omega) (by simp; omega) ?_; intro v' w4 hown' hgrow _ hat; obtain ⟨a', d', N', hN', rfl⟩ := own_shape2 hown'; clear hN')
          have hgrow' : (wr.alloc (.cells #[.slice ca cn cc] 69)).grownBy w4 (Value.slice ra rn rc).ownBlock := hgrow
          have hat' : (Value.slice a' N' d').ownBlock = (Value.slice ra rn rc).ownBlock ∨ (Value.slice a' N' d').ownBlock = some (wr.alloc (.cells #[.slice ca cn cc] 69)).heap.size := hat
          have na : New wr (wr.alloc (.cells #[.slice ca cn cc] 69)) := (New.refl _).alloc _
          have HP : Hid (RowsOK Lk.enc 4 69 base w4 (.slice a' N' d') (us ++ [.slice ca cn cc]) ((List.range (i + 1)).map (lkC C G))) := Lib.hid (by
            rw [HT.out]
            refine (HRn.out.new na).push Lk.enc_len (by omega) (HSL.out.keep na) (fun _ g e e2 => ?_) hown' hgrow' hat'
            have q1 := HOB.out g e
            have q2 := (HRO.out.own.lt g e2).2
            have q3 := HB2.out
            omega)
          have HN4 : Hid (New W0 w4) := Lib.hid (newGrown (HNN.out.trans na) hgrow' (fun j hj => by have := (HRO.out.own.lt j hj).1; have := HBS.out; omega))
          clear hgrow hgrow' hat hat' hown' na hcn hc g4
          go_wp2_with fail
          go_roundg (n - (i + 1))
          case measure => have := HGK.out; omega
          case rel => exact ⟨i + 1, a', N', d', _, by go_num, rfl, by omega, by omega, HP, HN4⟩
    · obtain rfl : i = n := by omega
      have HO : Hid (RowsK Lk.enc 4 wr (.slice ra rn rc) LL) := Lib.hid (by
        rw [HLL.out]
        exact HRO.out.rows)
      go_wp2_with fail
      rw [HQ.out]
      exact ⟨_, rfl, HO.out, N0.out.trans hnr.out⟩

theorem lr_Build (C : CfgR) (G : Gd) (w : World) (h : G.ok w) : Calls Tryd.prog 20 #[.agg #[.int .i64 C.cl, .int .i64 C.cb, .int .i64 C.ht, .int .i64 C.ri, .int .i64 C.ru, .int .i64 C.wd, .int .i64 C.dp], .agg #[.int .i64 G.x, .int .i64 G.z, .int .i64 G.w, .int .i64 G.d, .slice G.ga G.L.length G.gc]] w (LBuilt (lkE C G) (lkT C G) w) := by
  by_cases q : lkE C G = 0
  · have := lr_Build_fine C G (lkE_is.1 q).1 (lkE_is.1 q).2 w h
    unfold lkT
    rw [if_pos q, q]
    exact this
  · have := lr_Build_bad C G q w h
    unfold lkT
    rw [if_neg q]
    exact this

end Go.Proofs.YtljcebahjfifhaaDoor

/- The document's Same, of the same links; what the laws say of three pairs. -/
namespace Go.Proofs.YtljcebahjfifhaaDoor
open Go.RowKit
set_option linter.unusedVariables false

theorem lk_neq (x : Lk) (w : World) : (binOp .neq 67 (.agg #[.int .i64 x.a, .int .i64 x.b, .int .i64 x.c, .int .i64 x.d]) (.agg #[.int .i64 x.a, .int .i64 x.b, .int .i64 x.c, .int .i64 x.d])).run Tryd.prog w = .ok (.bool false) w := by
  have hi : (Tryd.prog.info? 3).map (fun i => i.size) = some 1 := by kernel_rfl
  obtain ⟨i0, hi0⟩ : ∃ i0, Tryd.prog.info? 3 = some i0 := by
    cases h : Tryd.prog.info? 3 with
    | none => rw [h] at hi; cases hi
    | some i => exact ⟨i, rfl⟩
  have hc : Tryd.prog.cellsOf 3 = 1 := by kernel_rfl
  have e := run_equalIn_array (P := Tryd.prog) w 9999 (t := 67) (e := 3) (n := 4) (i := i0) #[.int .i64 x.a, .int .i64 x.b, .int .i64 x.c, .int .i64 x.d] #[.int .i64 x.a, .int .i64 x.b, .int .i64 x.c, .int .i64 x.d] (by kernel_rfl) hi0
  have hr : List.range 4 = [0, 1, 2, 3] := rfl
  rw [hr, hc] at e
  have h2 : (Op.eqItems 9999 3 1 #[.int .i64 x.a, .int .i64 x.b, .int .i64 x.c, .int .i64 x.d] #[.int .i64 x.a, .int .i64 x.b, .int .i64 x.c, .int .i64 x.d] [0, 1, 2, 3]).run Tryd.prog w = .ok true w := by
    simp only [Op.eqItems]
    go_simp
  go_simp

set_option maxHeartbeats 8000000 in
set_option maxRecDepth 100000 in
theorem lr_Same (va vb : Value) (L : List (List Lk)) (w : World) (ha : RowsK Lk.enc 4 w va L) (hb : RowsK Lk.enc 4 w vb L) (hL : L.length ≤ 5000) (hL2 : ∀ l ∈ L, l.length ≤ 100) : Calls Tryd.prog 21 #[va, vb] w fun e w' => e = .returned (.bool true) ∧ New w w' := by
  obtain ⟨aa, ac, rfl⟩ := ha.shape
  obtain ⟨ba, bc, rfl⟩ := hb.shape
  have HA := Lib.hid ha
  have HB := Lib.hid hb
  have HQ := lk_neq
  obtain ⟨n, hn⟩ : ∃ n, n = L.length := ⟨_, rfl⟩
  have HN := Lib.hid hn
  rw [← hn] at HA HB hL ⊢
  have HL2 := Lib.hid hL2
  clear hn ha hb hL2
  go_enter Tryd.func21, Tryd.ntmps21
  go_wp2_with fail
  go_loopg [5] n (fun gk s5 wr => ∃ i : Nat, s5 = .int .i64 i ∧ i ≤ n ∧ n - i ≤ gk ∧ Hid (New w wr))
  case atStart => exact ⟨0, rfl, by omega, by omega, Lib.hid (New.refl _)⟩
  case round =>
    obtain ⟨i, rfl, hi, hgk, hnr⟩ := hrel
    by_cases hlt : i < n
    · have hil : i < L.length := by rw [← HN.out]; exact hlt
      obtain ⟨b1, o1, r1, d1, rfl, hc1, hs1⟩ := (HA.out.keep hnr.out).at i hil
      obtain ⟨b2, o2, r2, d2, rfl, hc2, hs2⟩ := (HB.out.keep hnr.out).at i hil
      have hm := HL2.out L[i] (List.getElem_mem hil)
      obtain ⟨l, hl⟩ : ∃ l, l = L[i] := ⟨_, rfl⟩
      rw [← hl] at hc1 hs1 hc2 hs2 hm
      obtain ⟨m, hmm⟩ : ∃ m, m = l.length := ⟨_, rfl⟩
      rw [← hmm] at hc1 hc2 hm
      have HM := Lib.hid hmm
      have HS1 := Lib.hid hs1.row'.2.2.2.2
      have HS2 := Lib.hid hs2.row'.2.2.2.2
      have HGK := Lib.hid hgk
      clear hl hmm hs1 hs2 hgk
      rename World => Wo
      have HC := Lib.hid (fun W (q : New Wo W) => And.intro (q.keep hc1) (q.keep hc2))
      go_wp2_with fail
      (refine wp_region_hat (by kernel_rfl) (by kernel_rfl) ?_; intro hatc hatf; (repeat (go_big_quiet_step ((fail)))); refine wpQuiet_nil ?_; rintro _ ⟨q, rfl⟩)
      clear hc1 hc2 hatc hatf
      go_wp2_with fail
      have HN0 := Lib.hid q.h
      generalize q.w = w5 at *
      clear q
      go_loopg [6] m (fun gk s6 wr => ∃ k : Nat, s6 = .int .i64 k ∧ k ≤ m ∧ m - k ≤ gk ∧ Hid (New Wo wr))
      case atStart => exact ⟨0, rfl, by omega, by omega, HN0⟩
      case round =>
        obtain ⟨k, rfl, hk, hgk, hnk⟩ := hrel
        obtain ⟨hc1, hc2⟩ := HC.out _ hnk.out
        by_cases hkt : k < m
        · have hkl : k < l.length := by rw [← HM.out]; exact hkt
          obtain ⟨p1, q1, rfl, hA1⟩ := HS1.out (by omega)
          obtain ⟨p2, q2, rfl, hA2⟩ := HS2.out (by omega)
          obtain ⟨c0, c1, c2, c3⟩ := Lk.cells (hA1.keep hnk.out) k hkl
          obtain ⟨e0, e1, e2, e3⟩ := Lk.cells (hA2.keep hnk.out) k hkl
          have HQk := fun w => lk_neq l[k] w
          generalize l[k] = x at *
          clear hA1 hA2
          go_upto_region 11 with fail
          (refine wp_region_hat (by kernel_rfl) (by kernel_rfl) ?_; intro hatc hatf; (repeat (go_big_quiet_step ((fail)))); refine wpQuiet_nil ?_; rintro _ ⟨q, rfl⟩)
          clear hc1 hc2 hatc hatf c0 c1 c2 c3 e0 e1 e2 e3
          have HN1 := Lib.hid (hnk.out.trans q.h)
          generalize q.w = w6 at *
          clear q
          go_wp2_with fail
          go_roundg (m - (k + 1))
          case measure => omega
          case rel => exact ⟨k + 1, by go_num, by omega, by omega, HN1⟩
        · obtain rfl : k = m := by omega
          go_wp2_with fail
          have hgk := HGK.out
          go_roundg (n - (i + 1))
          case measure => omega
          case rel => exact ⟨i + 1, by go_num, by omega, by omega, Lib.hid (hnr.out.trans hnk.out)⟩
    · obtain rfl : i = n := by omega
      go_wp2_with fail
      go_ret
      exact ⟨rfl, hnr.out⟩

theorem lkT_small (C : CfgR) (G : Gd) : (lkT C G).length ≤ 5000 ∧ ∀ l ∈ lkT C G, l.length ≤ 100 := by
  unfold lkT
  split
  · rename_i h
    have hE := (lkE_is.1 h).2
    have hb := placeB_iff.1 (gd_is hE).1
    have := mul_64 hb.2.2.1.1 hb.2.2.1.2 hb.2.2.2.1 hb.2.2.2.2
    have := (gd_is hE).2.1
    refine ⟨by rw [lkL_len]; omega, fun l hl => ?_⟩
    unfold lkL at hl
    obtain ⟨i, -, rfl⟩ := List.mem_map.1 hl
    rw [lkC_len]
    have := gcol_len hE i
    omega
  · exact ⟨by simp, fun l hl => by cases hl⟩

end Go.Proofs.YtljcebahjfifhaaDoor
