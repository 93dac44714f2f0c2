import Derived.Test.YtgoggogcbjfofaaDoorLkXY14
import Derived.Test.YtgoggogcbjfofaaDoorLkNY14
import Derived.Test.YtgoggogcbjfofaaDoorFdRY14
import Derived.Test.YtgoggogcbjfofaaDoorFdPRY14
import Derived.OwnWalk
import Derived.Laws.OwnMore

/- The document's Build. -/
namespace Go.Proofs.YtgoggogcbjfofaaDoor
open Go.RowKit
set_option linter.unusedVariables false

set_option maxHeartbeats 4000000 in
set_option maxRecDepth 100000 in
theorem lr_Build_bad (C : CfgR) (G : Gd) (hb : lkE C G ≠ 0) (w : World) (h : G.ok w) : Calls Tryd.prog 22 #[.agg #[.int .i64 C.cl, .int .i64 C.cb, .int .i64 C.ht, .int .i64 C.ri, .int .i64 C.ru, .int .i64 C.wd, .int .i64 C.dp], .agg #[.int .i64 G.x, .int .i64 G.z, .int .i64 G.w, .int .i64 G.d, .slice G.ga G.L.length G.gc]] w (LBuilt (lkE C G) [] w) := by
  have KC : Hid (∀ W, Calls Tryd.prog 25 #[.agg #[.int .i64 C.cl, .int .i64 C.cb, .int .i64 C.ht, .int .i64 C.ri, .int .i64 C.ru, .int .i64 C.wd, .int .i64 C.dp]] W fun e w' => e = .returned (.int .i64 C.err) ∧ New W w') := Lib.hid (fun W => (rcheck_any C.cl C.cb C.ht C.ri C.ru C.wd C.dp W).mono fun e w' h => ⟨h.1, h.2.1⟩)
  have KG := Lib.hid (fun W n => rg_check G W (h.keep (n : New w W)))
  have h1 := err_or C
  have h2 := gE_two G
  have HL : Hid (lkE C G = if C.err = 0 then gE G else 20) := Lib.hid rfl
  obtain ⟨Q, hQ⟩ : ∃ Q, Q = LBuilt (lkE C G) [] w := ⟨_, rfl⟩
  rw [← hQ]
  have HQ := Lib.hid hQ
  clear hQ
  generalize lkE C G = le at *
  generalize C.err = ce at *
  generalize gE G = ge at *
  obtain ⟨n, hn⟩ : ∃ n, n = G.L.length := ⟨_, rfl⟩
  rw [← hn] at KG ⊢
  clear hn h
  have HB := Lib.hid hb
  clear hb
  go_enter Tryd.func22, Tryd.ntmps22
  go_wp2_with fail
  refine Calls.at (fun W hW => ?_)
  have n0 : New w W := by subst hW; (repeat (first | (with_reducible exact New.refl _) | (with_reducible assumption) | ((with_reducible refine New.setB ?_ ?_ _); focus (first | omega | (simp; omega) | (simp; done))) | (with_reducible refine New.alloc ?_ _) | (with_reducible refine New.drew ?_) | (with_reducible refine New.drewN ?_ _) | (with_reducible refine New.hat ?_ _) | ((with_reducible apply New.snart); (with_reducible assumption))))
  have g0 : W.cell? ⟨w.heap.size + 1, 0, none⟩ = some (.int .i64 G.x) := by subst hW; go_simp
  have g1 : W.cell? ⟨w.heap.size + 1, 1, none⟩ = some (.int .i64 G.z) := by subst hW; go_simp
  have g2 : W.cell? ⟨w.heap.size + 1, 2, none⟩ = some (.int .i64 G.w) := by subst hW; go_simp
  have g3 : W.cell? ⟨w.heap.size + 1, 3, none⟩ = some (.int .i64 G.d) := by subst hW; go_simp
  have g4 : W.cell? ⟨w.heap.size + 1, 4, none⟩ = some (.slice G.ga n G.gc) := by subst hW; go_simp
  clear hW
  refine (KC.out _).mono ?_
  rintro e w1 ⟨rfl, n1⟩
  have N1 := n0.trans n1
  rcases h1 with rfl | rfl
  rotate_left
  · have hle : le = 20 := HL.out
    subst hle
    clear HL HB g0 g1 g2 g3 g4 n0 n1
    go_wp2_with fail
    rw [HQ.out]
    exact ⟨_, rfl, RowsK.nil, N1⟩
  replace g0 := n1.keep g0
  replace g1 := n1.keep g1
  replace g2 := n1.keep g2
  replace g3 := n1.keep g3
  replace g4 := n1.keep g4
  clear n0 n1
  go_wp2_with fail
  refine (KG.out _ N1).mono ?_
  rintro e w2 ⟨rfl, n2⟩
  have N2 := N1.trans n2
  clear g0 g1 g2 g3 g4 n2 N1 KG KC
  rcases h2 with rfl | rfl
  · exact absurd HL.out HB.out
  · have hle : le = 2 := HL.out
    subst hle
    clear HL HB
    go_wp2_with fail
    rw [HQ.out]
    exact ⟨_, rfl, RowsK.nil, N2⟩

set_option maxHeartbeats 16000000 in
set_option maxRecDepth 100000 in
theorem lr_Build_fine (C : CfgR) (G : Gd) (hC : C.err = 0) (hE : gE G = 0) (w : World) (h : G.ok w) : Calls Tryd.prog 22 #[.agg #[.int .i64 C.cl, .int .i64 C.cb, .int .i64 C.ht, .int .i64 C.ri, .int .i64 C.ru, .int .i64 C.wd, .int .i64 C.dp], .agg #[.int .i64 G.x, .int .i64 G.z, .int .i64 G.w, .int .i64 G.d, .slice G.ga G.L.length G.gc]] w (LBuilt 0 (lkL C G) w) := by
  obtain ⟨i0, hi0, hz0, hz1, hz2⟩ := info_parts lk_info
  obtain ⟨i1, hi1, hy0, hy1, hy2⟩ := info_parts lks_info
  have KC : Hid (∀ W, Calls Tryd.prog 25 #[.agg #[.int .i64 C.cl, .int .i64 C.cb, .int .i64 C.ht, .int .i64 C.ri, .int .i64 C.ru, .int .i64 C.wd, .int .i64 C.dp]] W fun e w' => e = .returned (.int .i64 0) ∧ New W w') := Lib.hid (fun W => (rcheck_any C.cl C.cb C.ht C.ri C.ru C.wd C.dp W).mono fun e w' h => ⟨by rw [h.1]; show Ending.returned (.int .i64 C.err) = _; rw [hC], h.2.1⟩)
  have KG : Hid (∀ W, New w W → Calls Tryd.prog 24 #[.agg #[.int .i64 G.x, .int .i64 G.z, .int .i64 G.w, .int .i64 G.d, .slice G.ga G.L.length G.gc]] W fun e w' => e = .returned (.int .i64 0) ∧ New W w') := Lib.hid (fun W n => by have := rg_check G W (h.keep (n : New w W)); rw [hE] at this; exact this)
  have KT := Lib.hid (fun x z k d W (q : New w W) => lr_to C G hC hE x z k d w W q h)
  have HH : Hid (RowsK Fl.enc 3 w (.slice G.ga G.L.length G.gc) G.L) := Lib.hid h
  have hb := placeB_iff.1 (gd_is hE).1
  have HE := Lib.hid hE
  have HLN := Lib.hid (gd_is hE).2.1
  have hlen : G.L.length ≤ 4096 := by
    have := mul_64 hb.2.2.1.1 hb.2.2.1.2 hb.2.2.2.1 hb.2.2.2.2
    have := (gd_is hE).2.1
    omega
  obtain ⟨n, hn⟩ : ∃ n, n = G.L.length := ⟨_, rfl⟩
  rw [← hn] at KG KT HH hlen ⊢
  have HN := Lib.hid hn
  obtain ⟨ga, hga⟩ : ∃ q, q = G.ga := ⟨_, rfl⟩
  rw [← hga] at KG KT HH ⊢
  obtain ⟨wN, hwN⟩ : ∃ q, q = G.w.toNat := ⟨_, rfl⟩
  have HW := Lib.hid hwN
  have hwi : G.w = wN := by omega
  have HWI := Lib.hid hwi
  rw [hwi] at KG KT ⊢
  have hw64 : wN ≤ 64 := by omega
  have hx64 : -64 ≤ G.x ∧ G.x ≤ 64 := by omega
  have hz64 : -64 ≤ G.z ∧ G.z ≤ 64 := by omega
  have hwp : Hid (0 < n → 0 < wN) := Lib.hid (fun hp => by
    have h1 := HLN.out
    rw [hwi, ← hn] at h1
    rcases Nat.eq_zero_or_pos wN with q | q
    · rw [q] at h1; simp at h1; omega
    · exact q)
  have hdv : Hid (∀ i, i < n → i / wN ≤ 4096) := Lib.hid (fun i h => by have := Nat.div_le_self i wN; omega)
  have HLL : Hid (lkL C G = (List.range n).map (lkC C G)) := Lib.hid (by unfold lkL; rw [← hn])
  have HTK := Lib.hid (fun i k (q : k < (gcol G i).length) => lkC_take C G i q)
  have HTL := Lib.hid (fun i => lkL_take C G i)
  have HCL := Lib.hid (fun i => lkC_len C G i)
  generalize lkL C G = LL at *
  clear hn h hE hga hwN hwi hb hC
  obtain ⟨Q, hQ⟩ : ∃ Q, Q = LBuilt 0 LL w := ⟨_, rfl⟩
  rw [← hQ]
  have HQ := Lib.hid hQ
  clear hQ
  go_enter Tryd.func22, Tryd.ntmps22
  go_wp2_with fail
  refine Calls.at (fun W0 hW => ?_)
  have n0 : New w W0 := by subst hW; (repeat (first | (with_reducible exact New.refl _) | (with_reducible assumption) | ((with_reducible refine New.setB ?_ ?_ _); focus (first | omega | (simp; omega) | (simp; done))) | (with_reducible refine New.alloc ?_ _) | (with_reducible refine New.drew ?_) | (with_reducible refine New.drewN ?_ _) | (with_reducible refine New.hat ?_ _) | ((with_reducible apply New.snart); (with_reducible assumption))))
  have c0 : W0.cell? ⟨w.heap.size, 0, none⟩ = some (.int .i64 C.cl) := by subst hW; go_simp
  have c1 : W0.cell? ⟨w.heap.size, 1, none⟩ = some (.int .i64 C.cb) := by subst hW; go_simp
  have c2 : W0.cell? ⟨w.heap.size, 2, none⟩ = some (.int .i64 C.ht) := by subst hW; go_simp
  have c3 : W0.cell? ⟨w.heap.size, 3, none⟩ = some (.int .i64 C.ri) := by subst hW; go_simp
  have c4 : W0.cell? ⟨w.heap.size, 4, none⟩ = some (.int .i64 C.ru) := by subst hW; go_simp
  have c5 : W0.cell? ⟨w.heap.size, 5, none⟩ = some (.int .i64 C.wd) := by subst hW; go_simp
  have c6 : W0.cell? ⟨w.heap.size, 6, none⟩ = some (.int .i64 C.dp) := by subst hW; go_simp
  have g0 : W0.cell? ⟨w.heap.size + 1, 0, none⟩ = some (.int .i64 G.x) := by subst hW; go_simp
  have g1 : W0.cell? ⟨w.heap.size + 1, 1, none⟩ = some (.int .i64 G.z) := by subst hW; go_simp
  have g2 : W0.cell? ⟨w.heap.size + 1, 2, none⟩ = some (.int .i64 wN) := by subst hW; go_simp
  have g3 : W0.cell? ⟨w.heap.size + 1, 3, none⟩ = some (.int .i64 G.d) := by subst hW; go_simp
  have g4 : W0.cell? ⟨w.heap.size + 1, 4, none⟩ = some (.slice ga n G.gc) := by subst hW; go_simp
  clear hW
  have HCG := Lib.hid (fun W2 (q : New W0 W2) => And.intro (q.keep c0) (And.intro (q.keep c1) (And.intro (q.keep c2) (And.intro (q.keep c3) (And.intro (q.keep c4) (And.intro (q.keep c5) (And.intro (q.keep c6) (And.intro (q.keep g0) (And.intro (q.keep g1) (And.intro (q.keep g2) (And.intro (q.keep g3) (q.keep g4))))))))))))
  have N0 := Lib.hid n0
  clear c0 c1 c2 c3 c4 c5 c6 g0 g1 g2 g3 g4
  refine (KC.out _).mono ?_
  rintro e w1 ⟨rfl, n1⟩
  obtain ⟨c0, c1, c2, c3, c4, c5, c6, g0, g1, g2, g3, g4⟩ := HCG.out _ n1
  go_wp2_with fail
  refine (KG.out _ (n0.trans n1)).mono ?_
  rintro e w2 ⟨rfl, n2⟩
  have N2 := Lib.hid (n1.trans n2)
  clear c0 c1 c2 c3 c4 c5 c6 g0 g1 g2 g3 g4
  clear n0 n1 n2 KC KG
  obtain ⟨base, hbase⟩ : ∃ q, q = W0.heap.size := ⟨_, rfl⟩
  have HBS := Lib.hid hbase
  clear hbase
  go_wp2_with fail
  go_loopg [7, 6] n (fun gk s7 s6 wr => ∃ (i : Nat) (ra : Option Addr) (rn rc : Nat) (us : List Value), s7 = .int .i64 i ∧ s6 = .slice ra rn rc ∧ i ≤ n ∧ n - i ≤ gk ∧ Hid (RowsOK Lk.enc 4 70 base wr (.slice ra rn rc) us ((List.range i).map (lkC C G))) ∧ Hid (New W0 wr))
  case atStart => exact ⟨0, none, 0, 0, [], rfl, rfl, by omega, by omega, Lib.hid RowsOK.nil, N2⟩
  case round =>
    obtain ⟨i, ra, rn, rc, us, rfl, rfl, hi', hgk, HRO, hnr⟩ := hrel
    obtain ⟨-, -, -, -, -, -, -, -, -, -, -, g4⟩ := HCG.out _ hnr.out
    by_cases hlt : i < n
    · have HGK := Lib.hid hgk
      have hil : i < G.L.length := by rw [← HN.out]; exact hlt
      have hc8 := gcol_len HE.out i
      have hcl := gcol_at hil
      obtain ⟨m, hm⟩ : ∃ q, q = (gcol G i).length := ⟨_, rfl⟩
      rw [← hm] at hc8
      have HM := Lib.hid hm
      have HCLL := Lib.hid hcl
      rename World => Wo
      obtain ⟨base2, hb2⟩ : ∃ q, q = Wo.heap.size := ⟨_, rfl⟩
      have HB2 := Lib.hid hb2
      clear hb2 hgk hm hcl
      go_wp2_with fail
      clear g4
      go_loopg [9, 8] m (fun gk s9 s8 wr => ∃ (k : Nat) (ca : Option Addr) (cn cc : Nat), s9 = .int .i64 k ∧ s8 = .slice ca cn cc ∧ k ≤ m ∧ m - k ≤ gk ∧ Hid (wr.ownsRow base2 72 4 (.slice ca cn cc) ((lkC C G i).take k).length (((lkC C G i).take k).flatMap Lk.enc)) ∧ Hid (New Wo wr))
      case atStart => exact ⟨0, none, 0, 0, rfl, rfl, by omega, by omega, Lib.hid (by rw [List.take_zero]; exact World.ownsRow_nil _ _ _ _), Lib.hid (New.refl _)⟩
      case round =>
        obtain ⟨k, ca, cn, cc, rfl, rfl, hk, hgk, hown, hnk⟩ := hrel
        obtain ⟨-, -, -, -, -, -, -, -, -, -, -, g4⟩ := HCG.out _ (hnr.out.trans hnk.out)
        obtain ⟨b, off, a, c, rfl, hc, hs⟩ := (HH.out.keep (N0.out.trans (hnr.out.trans hnk.out))).at i hil
        rw [← HCLL.out, ← HM.out] at hc
        clear hs
        by_cases hkt : k < m
        · have hkl : k < (gcol G i).length := by rw [← HM.out]; exact hkt
          have hsu := HTK.out i k hkl
          have hst : sdI G i k = ⟨G.x + ((i % wN : Nat) : Int), G.z + ((i / wN : Nat) : Int), k⟩ := by unfold sdI; rw [← HW.out]
          rw [hst] at hsu
          have hsl : ((lkC C G i).take k).length ≤ k := by rw [List.length_take]; omega
          have hwp' := hwp.out (by omega)
          have hmod : i % wN < wN := Nat.mod_lt _ hwp'
          have hdv' := hdv.out i hlt
          obtain ⟨xm, hxm⟩ : ∃ q, q = i % wN := ⟨_, rfl⟩
          obtain ⟨zm, hzm⟩ : ∃ q, q = i / wN := ⟨_, rfl⟩
          have hr1 : ((i : Int).tmod (wN : Int)) = (xm : Int) := by rw [hxm]; rfl
          have hr2 : ((i : Int).tdiv (wN : Int)) = (zm : Int) := by rw [hzm]; rfl
          rw [← hxm] at hmod hsu
          rw [← hzm] at hdv' hsu
          have HSU := Lib.hid hsu
          have hxw : IntKind.i64.wrap (G.x + (xm : Int)) = G.x + xm := IntWalk.i64_in _ (by omega)
          have hzw : IntKind.i64.wrap (G.z + (zm : Int)) = G.z + zm := IntWalk.i64_in _ (by omega)
          have hw1 : IntKind.i64.wrap (xm : Int) = xm := IntWalk.i64_in _ (by omega)
          have hw2 : IntKind.i64.wrap (zm : Int) = zm := IntWalk.i64_in _ (by omega)
          have hwne : ¬ wN = 0 := by omega
          obtain ⟨S, hS⟩ : ∃ S : Sd, S = ⟨G.x + (xm : Nat), G.z + (zm : Nat), k⟩ := ⟨_, rfl⟩
          have KTi : Hid (∀ (d : Int) (W : World), New w W → Calls Tryd.prog 40 #[.agg #[.int .i64 C.cl, .int .i64 C.cb, .int .i64 C.ht, .int .i64 C.ri, .int .i64 C.ru, .int .i64 C.wd, .int .i64 C.dp], .agg #[.int .i64 G.x, .int .i64 G.z, .int .i64 (wN : Nat), .int .i64 G.d, .slice (some ⟨b, off, none⟩) n G.gc], .int .i64 (G.x + (xm : Nat)), .int .i64 (G.z + (zm : Nat)), .int .i64 (k : Nat), .int .i64 d] W fun e w' => e = .returned (.tuple #[.int .i64 (sdO (toS C G S d)).k, .bool (toS C G S d).isSome]) ∧ New W w') := Lib.hid (fun d W q => by
            have := KT.out (G.x + (xm : Nat)) (G.z + (zm : Nat)) k d W q
            rw [← hS] at this
            exact this)
          rw [← hS] at HSU
          have HTS := Lib.hid (fun i j => lkTo_succ C G S i j)
          have H4 : Hid (lkTo C G S 4 0 = (lkS C G S).a ∧ lkTo C G S 4 1 = (lkS C G S).b ∧ lkTo C G S 4 2 = (lkS C G S).c ∧ lkTo C G S 4 3 = (lkS C G S).d) := Lib.hid ⟨rfl, rfl, rfl, rfl⟩
          have H0 : Hid (∀ j, lkTo C G S 0 j = 0) := Lib.hid (fun j => by unfold lkTo; rw [if_neg (by omega)])
          generalize lkTo C G S = lt at *
          generalize lkS C G S = x at *
          generalize toS C G S = tn at *
          clear hS
          obtain ⟨pre, hpre⟩ : ∃ q, q = (lkC C G i).take k := ⟨_, rfl⟩
          rw [← hpre] at HSU hown hsl
          clear hpre hxm hzm hst hsu
          have hHW := Lib.hid (And.intro hmod hdv')
          rename World => Wm
          have HPM := Lib.hid (N0.out.trans (hnr.out.trans hnk.out))
          have HGM := Lib.hid (hnr.out.trans hnk.out)
          have hb2m : base2 ≤ Wm.heap.size := by rw [HB2.out]; exact hnk.out.size
          go_upto_region 14 with fail
          refine Code.at (fun Wk hW => ?_)
          have NK : Hid (New Wm Wk) := Lib.hid (by subst hW; (repeat (first | (with_reducible exact New.refl _) | (with_reducible assumption) | ((with_reducible refine New.setB ?_ ?_ _); focus (first | omega | (simp; omega) | (simp; done))) | (with_reducible refine New.alloc ?_ _) | (with_reducible refine New.drew ?_) | (with_reducible refine New.drewN ?_ _) | (with_reducible refine New.hat ?_ _) | ((with_reducible apply New.snart); (with_reducible assumption)))))
          have HL : Hid (LiAt (lt 0) Wk Wm.heap.size) := Lib.hid (by
            subst hW
            intro j hj
            rw [H0.out]
            rcases (show j = 0 ∨ j = 1 ∨ j = 2 ∨ j = 3 by omega) with rfl | rfl | rfl | rfl <;> exact ⟨by go_simp, by go_simp⟩)
          clear hW hc g4
          obtain ⟨P, hP⟩ : ∃ P, P = Wm.heap.size := ⟨_, rfl⟩
          rw [← hP] at HL ⊢
          have HPP := Lib.hid hP
          clear hP
          go_wp2_with fail
          have HGK2 := Lib.hid hgk
          clear hgk
          go_loopg [11] 4 (fun gk s11 wr => ∃ j : Nat, s11 = .int .i64 j ∧ j ≤ 4 ∧ 4 - j ≤ gk ∧ Hid (LiAt (lt j) wr P) ∧ Hid (New Wm wr))
          case atStart => exact ⟨0, rfl, by omega, by omega, HL, NK⟩
          case round =>
            obtain ⟨j, rfl, hj, hgk, HLr, HNr⟩ := hrel
            by_cases hjt : j < 4
            · obtain ⟨l0, l1⟩ := HLr.out j hjt
              go_upto_region 18 with fail
              refine Code.at (fun W5 hW => ?_)
              have HL5 : Hid (LiAt (fun i => if i = j then -1 else lt j i) W5 P) := Lib.hid (by subst hW; exact HLr.out.put hjt (-1) (fun j _ => rfl))
              have HN5 : Hid (New Wm W5) := Lib.hid (by subst hW; exact New.setB (p := ⟨P, j, none⟩) (by have := HPP.out; show Wm.heap.size ≤ P; omega) HNr.out _)
              clear hW l0 l1 HLr HNr
              have HSj := Lib.hid (HTS.out j)
              have KTj := Lib.hid (KTi.out j)
              obtain ⟨o, ho⟩ : ∃ o, o = tn j := ⟨_, rfl⟩
              rw [← ho] at KTj HSj
              clear ho
              obtain ⟨c0, c1, c2, c3, c4, c5, c6, g0, g1, g2, g3, g4⟩ := HCG.out _ (HGM.out.trans HN5.out)
              have F0 := Lib.hid (fun (q : Hat W5) => KTj.out q.w (HPM.out.trans (HN5.out.trans q.h)))
              obtain ⟨hmod, hdv'⟩ := hHW.out
              (refine wp_region_hat (by kernel_rfl) (by kernel_rfl) ?_; intro hatc hatf; (repeat (go_big_quiet_step (((go_at_call 40; with_reducible exact Calls.hat (F0.out _)))))); refine wpQuiet_nil ?_; rintro _ ⟨q, rfl⟩)
              replace HL5 := Lib.hid (HL5.out.new q.h)
              replace HN5 := Lib.hid (HN5.out.trans q.h)
              clear c0 c1 c2 c3 c4 c5 c6 g0 g1 g2 g3 g4
              clear hatc hatf F0 hmod hdv'
              generalize q.w = W7 at *
              clear q
              obtain ⟨l0, l1⟩ := HL5.out j hjt
              rcases o with _ | t
              · simp only [Option.isSome_none]
                have hnx : Hid (LiAt (lt (j + 1)) W7 P) := Lib.hid (fun i hi => by
                  have := HL5.out i hi
                  rw [HSj.out i]
                  exact this)
                go_wp2_with fail
                go_roundg (4 - (j + 1))
                case measure => omega
                case rel => exact ⟨j + 1, by go_num, by omega, by omega, hnx, HN5⟩
              · simp only [Option.isSome_some]
                have hkt : (sdO (some t)).k = t.k := rfl
                rw [hkt]
                clear hkt
                have hnx : Hid (LiAt (lt (j + 1)) (W7.setCell ⟨P, j, none⟩ (.int .i64 t.k)) P) := Lib.hid (HL5.out.put hjt t.k (fun i hi => by
                  rw [HSj.out i]
                  by_cases e : i = j
                  · simp [e, oneL]
                  · simp [e]))
                have HN6 : Hid (New Wm (W7.setCell ⟨P, j, none⟩ (.int .i64 t.k))) := Lib.hid (New.setB (p := ⟨P, j, none⟩) (by have := HPP.out; show Wm.heap.size ≤ P; omega) HN5.out _)
                clear HL5 HN5
                go_wp2_with fail
                go_roundg (4 - (j + 1))
                case measure => omega
                case rel => exact ⟨j + 1, by go_num, by omega, by omega, hnx, HN6⟩
            · obtain rfl : j = 4 := by omega
              have l0 := (HLr.out 0 (by omega)).1
              have l1 := (HLr.out 1 (by omega)).1
              have l2 := (HLr.out 2 (by omega)).1
              have l3 := (HLr.out 3 (by omega)).1
              rw [H4.out.1] at l0
              rw [H4.out.2.1] at l1
              rw [H4.out.2.2.1] at l2
              rw [H4.out.2.2.2] at l3
              have nn5 := hnk.out.trans HNr.out
              have own6 := own_new hown.out HNr.out
              have hr6 : base2 ≤ wr.heap.size := by rw [HB2.out]; exact nn5.size
              clear hgk HLr HNr hHW
              go_wp2_with (at_builtin; refine wpList_append_sl rfl _ _ 70 rfl Lk.enc_len Lk.enc_one base2 72 i0 _ 32 Tryd.underlying70 hi0 hz0 hz1 hz2 rfl (by decide) _ pre rfl (own_new own6 ((New.refl _).alloc _)) _ [x] rfl (lk_new _ x _) (by unfold maxLen; simp; omega) (by simp; omega) (by simp; omega) ?_; intro v' w1 hown' hnew _; obtain ⟨a', d', N', hN', rfl⟩ := own_shape2 hown'; clear hN'; have nw1 := hnew Wo (nn5.alloc _) (Nat.le_of_eq HB2.out.symm))
              have hgk := HGK2.out
              go_roundg (m - (k + 1))
              case measure => omega
              case rel => exact ⟨k + 1, a', N', d', by go_num, rfl, by omega, by omega, Lib.hid (by rw [HSU.out]; exact hown'), Lib.hid nw1⟩
        · obtain rfl : k = m := by omega
          have HOW : Hid (wr.ownsRow base2 72 4 (.slice ca cn cc) (lkC C G i).length ((lkC C G i).flatMap Lk.enc)) := Lib.hid (by
            have h := hown.out
            rw [List.take_of_length_le (by rw [HCL.out, HM.out]; exact Nat.le_refl _)] at h
            exact h)
          have HRn := Lib.hid (HRO.out.new hnk.out)
          have HNN := Lib.hid (hnr.out.trans hnk.out)
          have hbz : base ≤ wr.heap.size := by rw [HBS.out]; exact HNN.out.size
          have hsl := own_sl Lk.enc_len HOW.out
          have hcn : (lkC C G i).length = cn := by obtain ⟨a1, c1, e1, -⟩ := hsl; injection e1 with _ e1; exact e1.symm
          have HSL := Lib.hid hsl
          have HT := Lib.hid (HTL.out i)
          have HOB := Lib.hid (fun g e => own_block HOW.out g e)
          generalize lkC C G i = col at *
          clear hown hsl hgk
          go_upto_region 8 with (at_builtin; refine wpList_append_own_at _ rfl _ _ 41 rfl base 70 i1 (.slice none 0 0) 1 24 Tryd.underlying41 hi1 hy0 hy1 hy2 rfl (by decide) _ _ _ rfl (own_new HRn.out.own ((New.refl _).alloc _)) ⟨wr.heap.size, 0, none⟩ 1 1 [.slice ca cn cc] rfl rfl (by intro j u hj; cases j with | zero => (simp at hj; subst hj; go_simp) | succ j => simp at hj) (by intro u hu; rw [List.mem_singleton] at hu; subst hu; rfl) (by have := HRn.out.len; unfold maxLen; simp at this; omega) (by have := HRn.out.len; simp at this; omega) (by simp; omega) ?_; intro v' w4 hown' hgrow _ hat; obtain ⟨a', d', N', hN', rfl⟩ := own_shape2 hown'; clear hN')
          have hgrow' : (wr.alloc (.cells #[.slice ca cn cc] 70)).grownBy w4 (Value.slice ra rn rc).ownBlock := hgrow
          have hat' : (Value.slice a' N' d').ownBlock = (Value.slice ra rn rc).ownBlock ∨ (Value.slice a' N' d').ownBlock = some (wr.alloc (.cells #[.slice ca cn cc] 70)).heap.size := hat
          have na : New wr (wr.alloc (.cells #[.slice ca cn cc] 70)) := (New.refl _).alloc _
          have HP : Hid (RowsOK Lk.enc 4 70 base w4 (.slice a' N' d') (us ++ [.slice ca cn cc]) ((List.range (i + 1)).map (lkC C G))) := Lib.hid (by
            rw [HT.out]
            refine (HRn.out.new na).push Lk.enc_len (by omega) (HSL.out.keep na) (fun _ g e e2 => ?_) hown' hgrow' hat'
            have q1 := HOB.out g e
            have q2 := (HRO.out.own.lt g e2).2
            have q3 := HB2.out
            omega)
          have HN4 : Hid (New W0 w4) := Lib.hid (newGrown (HNN.out.trans na) hgrow' (fun j hj => by have := (HRO.out.own.lt j hj).1; have := HBS.out; omega))
          clear hgrow hgrow' hat hat' hown' na hcn hc g4
          go_wp2_with fail
          go_roundg (n - (i + 1))
          case measure => have := HGK.out; omega
          case rel => exact ⟨i + 1, a', N', d', _, by go_num, rfl, by omega, by omega, HP, HN4⟩
    · obtain rfl : i = n := by omega
      have HO : Hid (RowsK Lk.enc 4 wr (.slice ra rn rc) LL) := Lib.hid (by
        rw [HLL.out]
        exact HRO.out.rows)
      go_wp2_with fail
      rw [HQ.out]
      exact ⟨_, rfl, HO.out, N0.out.trans hnr.out⟩

theorem lr_Build (C : CfgR) (G : Gd) (w : World) (h : G.ok w) : Calls Tryd.prog 22 #[.agg #[.int .i64 C.cl, .int .i64 C.cb, .int .i64 C.ht, .int .i64 C.ri, .int .i64 C.ru, .int .i64 C.wd, .int .i64 C.dp], .agg #[.int .i64 G.x, .int .i64 G.z, .int .i64 G.w, .int .i64 G.d, .slice G.ga G.L.length G.gc]] w (LBuilt (lkE C G) (lkT C G) w) := by
  by_cases q : lkE C G = 0
  · have := lr_Build_fine C G (lkE_is.1 q).1 (lkE_is.1 q).2 w h
    unfold lkT
    rw [if_pos q, q]
    exact this
  · have := lr_Build_bad C G q w h
    unfold lkT
    rw [if_neg q]
    exact this

end Go.Proofs.YtgoggogcbjfofaaDoor

/- The document's Build. -/
namespace Go.Proofs.YtgoggogcbjfofaaDoor
open Go.RowKit
set_option linter.unusedVariables false

/-- A column's clearances where the first k are told a round more. -/
def mixC (N : Net) (f i k m : Nat) : List Int := (List.range m).map fun j => ((clr N.go (if j < k then f + 1 else f) ⟨i, j⟩ : Nat) : Int)
theorem mixC_len (N : Net) (f i k m : Nat) : (mixC N f i k m).length = m := by unfold mixC; simp
theorem mixC_zero (N : Net) (f i m : Nat) : mixC N f i 0 m = fcC N f i m := by
  unfold mixC fcC
  exact List.map_congr_left (fun j _ => by rw [if_neg (by omega)])
theorem mixC_all (N : Net) (f i m : Nat) : mixC N f i m m = fcC N (f + 1) i m := by
  unfold mixC fcC
  exact List.map_congr_left (fun j hj => by rw [if_pos (List.mem_range.1 hj)])
theorem mixC_get (N : Net) (f i k m : Nat) {j : Nat} (h : j < m) : (mixC N f i k m)[j]? = some ((clr N.go (if j < k then f + 1 else f) ⟨i, j⟩ : Nat) : Int) := by
  unfold mixC
  rw [List.getElem?_map, List.getElem?_range h]
  rfl
theorem fcC_get (N : Net) (f i k : Nat) {j : Nat} (h : j < k) : (fcC N f i k)[j]? = some ((clr N.go f ⟨i, j⟩ : Nat) : Int) := by
  unfold fcC
  rw [List.getElem?_map, List.getElem?_range h]
  rfl
theorem clT_get (N : Net) (f n : Nat) {c : Nat} (h : c < n) : (clT N f n)[c]? = some (fcC N f c (colM N.M c).length) := by
  unfold clT
  rw [List.getElem?_map, List.getElem?_range h]
  rfl
theorem mixC_set (N : Net) (f i m : Nat) {k : Nat} (hk : k < m) : (mixC N f i k m).set k ((clr N.go (f + 1) ⟨i, k⟩ : Nat) : Int) = mixC N f i (k + 1) m := by
  refine List.ext_getElem? (fun j => ?_)
  rw [List.getElem?_set, mixC_len]
  by_cases hj : j < m
  · rw [mixC_get N f i (k + 1) m hj]
    by_cases e : k = j
    · subst e
      rw [if_pos rfl, if_pos hk, if_pos (by omega)]
    · rw [if_neg e, mixC_get N f i k m hj]
      by_cases q : j < k
      · rw [if_pos q, if_pos (by omega)]
      · rw [if_neg q, if_neg (by omega)]
  · rw [if_neg (by omega), List.getElem?_eq_none (by rw [mixC_len]; omega), List.getElem?_eq_none (by rw [mixC_len]; omega)]
theorem mixC_same (N : Net) (f i m : Nat) {k : Nat} (hk : k < m) (h : geB N.go (f + 1) ⟨i, k⟩ = false) : mixC N f i (k + 1) m = mixC N f i k m := by
  unfold mixC
  refine List.map_congr_left (fun j _ => ?_)
  by_cases e : j = k
  · subst e
    rw [if_pos (by omega), if_neg (by omega), clr, if_neg (by rw [h]; simp)]
  · by_cases q : j < k
    · rw [if_pos q, if_pos (by omega)]
    · rw [if_neg q, if_neg (by omega)]
theorem iE_flat (l : List Int) : l.flatMap iE = l.map (fun t => Value.int .i64 t) := by
  induction l with
  | nil => rfl
  | cons x l ih => rw [List.flatMap_cons, ih]; rfl
theorem iE_set (l : List Int) (k : Nat) (v : Int) : (l.flatMap iE).set k (.int .i64 v) = (l.set k v).flatMap iE := by
  rw [iE_flat, iE_flat, List.map_set]
theorem zeros_fcC (N : Net) (i m : Nat) : (madeCells (Value.int .i64 0).cells (m * 1)).toList = (fcC N 0 i m).flatMap iE := by
  have h : (Value.int .i64 0).cells = #[.int .i64 0] := rfl
  rw [h, Nat.mul_one, toList_madeCells_one, iE_flat]
  unfold fcC
  rw [List.map_map]
  refine List.ext_getElem? (fun j => ?_)
  rw [List.getElem?_replicate, List.getElem?_map]
  by_cases hj : j < m
  · rw [if_pos hj, List.getElem?_range hj]
    rfl
  · rw [if_neg hj, List.getElem?_eq_none (by rw [List.length_range]; omega)]
    rfl

set_option maxHeartbeats 4000000 in
set_option maxRecDepth 100000 in
theorem fr_Build_bad (C : CfgR) (G : Gd) (hb : lkE C G ≠ 0) (w : World) (h : G.ok w) : Calls Tryd.prog 12 #[.agg #[.int .i64 C.cl, .int .i64 C.cb, .int .i64 C.ht, .int .i64 C.ri, .int .i64 C.ru, .int .i64 C.wd, .int .i64 C.dp], .agg #[.int .i64 G.x, .int .i64 G.z, .int .i64 G.w, .int .i64 G.d, .slice G.ga G.L.length G.gc]] w (FBuilt (lkE C G) [] w) := by
  have KB := Lib.hid (fun W (q : New w W) => lr_Build C G W (h.keep q))
  unfold LBuilt at KB
  generalize lkE C G = le at *
  generalize lkT C G = L at *
  have hne : (le != 0) = true := by rw [bne_iff_ne]; exact hb
  clear hb h
  obtain ⟨gn, hgn⟩ : ∃ n, n = G.L.length := ⟨_, rfl⟩
  rw [← hgn] at KB ⊢
  clear hgn
  obtain ⟨Q, hQ⟩ : ∃ Q, Q = FBuilt le [] w := ⟨_, rfl⟩
  rw [← hQ]
  have HQ := Lib.hid hQ
  clear hQ
  go_enter Tryd.func12, Tryd.ntmps12
  go_wp2_with fail
  refine Calls.at (fun W hW => ?_)
  have n0 : New w W := by subst hW; (repeat (first | (with_reducible exact New.refl _) | (with_reducible assumption) | ((with_reducible refine New.setB ?_ ?_ _); focus (first | omega | (simp; omega) | (simp; done))) | (with_reducible refine New.alloc ?_ _) | (with_reducible refine New.drew ?_) | (with_reducible refine New.drewN ?_ _) | (with_reducible refine New.hat ?_ _) | ((with_reducible apply New.snart); (with_reducible assumption))))
  clear hW
  refine (KB.out _ n0).mono ?_
  rintro e w1 ⟨v, rfl, -, n1⟩
  have N1 := Lib.hid (n0.trans n1)
  clear n0 n1 KB
  go_wp2_with fail
  rw [HQ.out]
  exact ⟨_, rfl, RowsK.nil, N1.out⟩

set_option maxHeartbeats 32000000 in
set_option maxRecDepth 100000 in
theorem fr_Build_fine (C : CfgR) (G : Gd) (hC : C.err = 0) (hE : gE G = 0) (w : World) (h : G.ok w) : Calls Tryd.prog 12 #[.agg #[.int .i64 C.cl, .int .i64 C.cb, .int .i64 C.ht, .int .i64 C.ri, .int .i64 C.ru, .int .i64 C.wd, .int .i64 C.dp], .agg #[.int .i64 G.x, .int .i64 G.z, .int .i64 G.w, .int .i64 G.d, .slice G.ga G.L.length G.gc]] w (FBuilt 0 (fdL C G) w) := by
  obtain ⟨i0, hi0, hz0, hz1, hz2⟩ := info_parts int_info
  obtain ⟨i1, hi1, hy0, hy1, hy2⟩ := info_parts ints_info
  have hle : lkE C G = 0 := lkE_is.2 ⟨hC, hE⟩
  have KB := Lib.hid (fun W (q : New w W) => lr_Build C G W (h.keep q))
  unfold LBuilt at KB
  rw [hle, show lkT C G = lkL C G from by unfold lkT; rw [if_pos hle]] at KB
  obtain ⟨p1, p2, p3, p4⟩ := capN_is hC
  have KC : Hid (∀ W, Calls Tryd.prog 15 #[.agg #[.int .i64 C.cl, .int .i64 C.cb, .int .i64 C.ht, .int .i64 C.ri, .int .i64 C.ru, .int .i64 C.wd, .int .i64 C.dp]] W fun e w' => e = .returned (.int .i64 ((capN C : Nat) : Int)) ∧ New W w') := Lib.hid (fun W => by have := fr_Cap C W; rw [p4] at this; exact this)
  have hb := placeB_iff.1 (gd_is hE).1
  have hw : G.w = ((G.w.toNat : Nat) : Int) := by omega
  have HGR : Hid (RowsK Fl.enc 3 w (.slice G.ga G.L.length G.gc) G.L) := Lib.hid h
  rw [← fdL_is hC hE]
  obtain ⟨N, hN⟩ : ∃ N, N = fdN hC hE := ⟨_, rfl⟩
  have hNM : N.M = lkL C G := by rw [hN]; rfl
  have hNW : N.W = G.w.toNat := by rw [hN]; rfl
  have hNC : Hid (∀ c, (colM N.M c).length = (gcol G c).length) := Lib.hid (fun c => by rw [hNM]; exact colM_lk c)
  rw [← hN]
  rw [← hNM] at KB
  have hgn2 : N.M.length = G.L.length := by rw [hNM, lkL_len]
  have hw2 : G.w = ((N.W : Nat) : Int) := by rw [hNW]; exact hw
  have KE := Lib.hid (fun la lc s hs w0 W q hr => fr_Eight N G hw2 la lc s hs w0 W q hr)
  unfold EightV at KE
  have HLEN := Lib.hid N.len
  have HCOL := Lib.hid N.col
  have HSM := Lib.hid (fun s (q : SpIn N.M s) => N.small q)
  have HSY := Lib.hid (fun s (q : SpIn N.M s) t ht => (N.sym s q t ht).1)
  have HML := Lib.hid (fun f i k m => mixC_len N f i k m)
  have HM0 := Lib.hid (fun f i m => mixC_zero N f i m)
  have HMA := Lib.hid (fun f i m => mixC_all N f i m)
  have HMS := Lib.hid (fun f i m k (q : k < m) => mixC_set N f i m q)
  have HMN := Lib.hid (fun f i m k (q : k < m) g => mixC_same N f i m q g)
  have HCT := Lib.hid (fun f i => clT_succ N f i)
  have HCTL := Lib.hid (fun f i => clT_len N f i)
  have HCZ := Lib.hid (fun i m => zeros_fcC N i m)
  have HT0 : Hid (∀ f, clT N f 0 = []) := Lib.hid (fun f => rfl)
  have HGS : Hid (∀ f s, geB N.go (f + 1) s = (fulP N.go s && (arP N.go s).all (geB N.go f))) := Lib.hid (fun f s => rfl)
  have HGT : Hid (∀ f s, geB N.go (f + 1) s = true → clr N.go (f + 1) s = f + 1) := Lib.hid (fun f s q => clr_top q)
  have HGI : Hid (∀ f s, (f ≤ clr N.go f s) ↔ geB N.go f s = true) := Lib.hid (fun f s => clr_iff (Nat.le_refl f) s)
  have HCLE : Hid (∀ f s, clr N.go f s ≤ f) := Lib.hid (fun f s => clr_le f s)
  have HCT2 : Hid (∀ f t, SpIn N.M t → ∃ (h1 : t.c < (clT N f N.M.length).length), ∃ (h2 : t.k < ((clT N f N.M.length)[t.c]).length), ((clT N f N.M.length)[t.c])[t.k] = ((clr N.go f t : Nat) : Int)) := Lib.hid (fun f t ht => by
    obtain ⟨h1, e1⟩ := List.getElem?_eq_some_iff.1 (clT_get N f N.M.length ht.1)
    refine ⟨h1, ?_⟩
    rw [e1]
    obtain ⟨h2, e2⟩ := List.getElem?_eq_some_iff.1 (fcC_get N f t.c (colM N.M t.c).length ht.2)
    exact ⟨h2, e2⟩)
  unfold clL
  obtain ⟨m, hm⟩ : ∃ m, m = capN C := ⟨_, rfl⟩
  rw [← hm] at KC p2 p3 ⊢
  obtain ⟨gn, hgn⟩ : ∃ n, n = G.L.length := ⟨_, rfl⟩
  have HGN := Lib.hid hgn
  rw [hgn2] at KE HLEN HCT2
  rw [hgn2]
  rw [← hgn] at KB KE HGR HLEN HCT2 ⊢
  have HGM : Hid (gn = N.M.length) := Lib.hid (by rw [hgn, hgn2])
  obtain ⟨ga, hga⟩ : ∃ q, q = G.ga := ⟨_, rfl⟩
  rw [← hga] at KB KE HGR ⊢
  clear hm p1 p4 hb hw hNM hNW hgn hgn2 hga hle hN hC hE h hw2
  obtain ⟨Q, hQ⟩ : ∃ Q, Q = FBuilt 0 (clT N m gn) w := ⟨_, rfl⟩
  rw [← hQ]
  have HQ := Lib.hid hQ
  clear hQ
  have hgnl := HLEN.out
  go_enter Tryd.func12, Tryd.ntmps12
  go_wp2_with fail
  refine Calls.at (fun W0 hW => ?_)
  have n0 : New w W0 := by subst hW; (repeat (first | (with_reducible exact New.refl _) | (with_reducible assumption) | ((with_reducible refine New.setB ?_ ?_ _); focus (first | omega | (simp; omega) | (simp; done))) | (with_reducible refine New.alloc ?_ _) | (with_reducible refine New.drew ?_) | (with_reducible refine New.drewN ?_ _) | (with_reducible refine New.hat ?_ _) | ((with_reducible apply New.snart); (with_reducible assumption))))
  have c0 : W0.cell? ⟨w.heap.size, 0, none⟩ = some (.int .i64 C.cl) := by subst hW; go_simp
  have c1 : W0.cell? ⟨w.heap.size, 1, none⟩ = some (.int .i64 C.cb) := by subst hW; go_simp
  have c2 : W0.cell? ⟨w.heap.size, 2, none⟩ = some (.int .i64 C.ht) := by subst hW; go_simp
  have c3 : W0.cell? ⟨w.heap.size, 3, none⟩ = some (.int .i64 C.ri) := by subst hW; go_simp
  have c4 : W0.cell? ⟨w.heap.size, 4, none⟩ = some (.int .i64 C.ru) := by subst hW; go_simp
  have c5 : W0.cell? ⟨w.heap.size, 5, none⟩ = some (.int .i64 C.wd) := by subst hW; go_simp
  have c6 : W0.cell? ⟨w.heap.size, 6, none⟩ = some (.int .i64 C.dp) := by subst hW; go_simp
  have g0 : W0.cell? ⟨w.heap.size + 1, 0, none⟩ = some (.int .i64 G.x) := by subst hW; go_simp
  have g1 : W0.cell? ⟨w.heap.size + 1, 1, none⟩ = some (.int .i64 G.z) := by subst hW; go_simp
  have g2 : W0.cell? ⟨w.heap.size + 1, 2, none⟩ = some (.int .i64 G.w) := by subst hW; go_simp
  have g3 : W0.cell? ⟨w.heap.size + 1, 3, none⟩ = some (.int .i64 G.d) := by subst hW; go_simp
  have g4 : W0.cell? ⟨w.heap.size + 1, 4, none⟩ = some (.slice ga gn G.gc) := by subst hW; go_simp
  clear hW
  have HCF := Lib.hid (fun W2 (q : New W0 W2) => And.intro (q.keep c0) (And.intro (q.keep c1) (And.intro (q.keep c2) (And.intro (q.keep c3) (And.intro (q.keep c4) (And.intro (q.keep c5) (q.keep c6)))))))
  have HGF := Lib.hid (fun W2 (q : New W0 W2) => And.intro (q.keep g0) (And.intro (q.keep g1) (And.intro (q.keep g2) (And.intro (q.keep g3) (q.keep g4)))))
  have N0 := Lib.hid n0
  clear c0 c1 c2 c3 c4 c5 c6 g0 g1 g2 g3 g4
  refine (KB.out _ n0).mono ?_
  rintro e w1 ⟨v, rfl, hr, n1⟩
  obtain ⟨la, lc, rfl⟩ := hr.shape
  rw [← HGM.out] at hr ⊢
  have HLK := Lib.hid hr
  have N1 := Lib.hid n1
  have N01 := Lib.hid (n0.trans n1)
  clear hr n1 n0 KB
  obtain ⟨base, hbase⟩ : ∃ q, q = w1.heap.size := ⟨_, rfl⟩
  have HBS := Lib.hid hbase
  clear hbase
  go_wp2_with fail
  -- rows of zeros
  go_loopg [9, 8] gn (fun gk s9 s8 wr => ∃ (i : Nat) (ra : Option Addr) (rn rc : Nat) (us : List Value), s9 = .int .i64 i ∧ s8 = .slice ra rn rc ∧ i ≤ gn ∧ gn - i ≤ gk ∧ Hid (RowsOK iE 1 50 base wr (.slice ra rn rc) us (clT N 0 i)) ∧ Hid (New w1 wr))
  case atStart => exact ⟨0, none, 0, 0, [], rfl, rfl, by omega, by omega, Lib.hid (by rw [HT0.out]; exact RowsOK.nil), Lib.hid (New.refl _)⟩
  case round =>
    obtain ⟨i, ra, rn, rc, us, rfl, rfl, hi, hgk, HRO, hnr⟩ := hrel
    obtain ⟨-, -, -, -, g4⟩ := HGF.out _ (N1.out.trans hnr.out)
    by_cases hlt : i < gn
    · have hgl : i < G.L.length := by rw [← HGN.out]; exact hlt
      obtain ⟨b, off, a, c, rfl, hc, -⟩ := (HGR.out.keep (N01.out.trans hnr.out)).at i hgl
      have hgc := gcol_at hgl
      rw [← hgc, ← hNC.out i] at hc
      have hc8 := HCOL.out i
      have HTI := Lib.hid (HCT.out 0 i)
      have HCZI := Lib.hid (HCZ.out i (colM N.M i).length)
      have hclen := fcC_len N 0 i (colM N.M i).length
      obtain ⟨k0, hk0⟩ : ∃ q, q = (colM N.M i).length := ⟨_, rfl⟩
      rw [← hk0] at hc hc8 HTI HCZI hclen
      have hul := HRO.out.len
      rw [HCTL.out] at hul
      have hbz : base ≤ wr.heap.size := by rw [HBS.out]; exact hnr.out.size
      clear hgc hk0
      go_upto_region 8 with fail
      obtain ⟨cZ, hcZ⟩ : ∃ q, q = fcC N 0 i k0 := ⟨_, rfl⟩
      rw [← hcZ] at HTI HCZI hclen
      clear hcZ
      go_wp2_with (first
        | (at_make; refine wpList_make_full _ rfl _ _ 50 rfl wr.heap.size 3 i0 (.int .i64 0) 1 Tryd.underlying50 hi0 hz0 hz1 .i64 .i64 _ _ k0 rfl rfl rfl rfl (by rw [hz2]; omega) (by unfold maxLen; omega) (Nat.le_refl _) ?_; intro w3 hown3 hgrow3; rw [HCZI.out] at hown3; have hn3 := newGrown (New.refl wr) hgrow3 (fun j hj => by cases hj); have hs3 : Sl iE 1 w3 (.slice (some ⟨wr.heap.size, 0, none⟩) k0 k0) cZ := (by apply own_sl iE_len (base := wr.heap.size) (e := 3); rw [hclen]; exact hown3))
        | (at_builtin; obtain ⟨w9, hw9⟩ : ∃ q, q = w3.alloc (.cells #[.slice (some ⟨wr.heap.size, 0, none⟩) k0 k0] 50) := ⟨_, rfl⟩; rw [← hw9]; have n9 : New w3 w9 := (by subst hw9; exact (New.refl _).alloc _); have hp : w9.cell? ⟨w3.heap.size, 0, none⟩ = some (.slice (some ⟨wr.heap.size, 0, none⟩) k0 k0) := (by subst hw9; exact cell_of_heap (heap_new _ _) rfl); have HR9 := Lib.hid (HRO.out.new (hn3.trans n9)); have hb9 : base ≤ w9.heap.size := (Nat.le_trans hbz (hn3.trans n9).size); have ho9 := HR9.out.own; refine wpList_append_own_at _ rfl _ _ 29 rfl base 50 i1 (.slice none 0 0) 1 24 Tryd.underlying29 hi1 hy0 hy1 hy2 rfl (by decide) _ _ _ rfl ho9 ⟨w3.heap.size, 0, none⟩ 1 1 [.slice (some ⟨wr.heap.size, 0, none⟩) k0 k0] rfl rfl (by intro j u hj; cases j with | zero => (simp at hj; subst hj; exact hp) | succ j => simp at hj) (by intro u hu; rw [List.mem_singleton] at hu; subst hu; rfl) (by unfold maxLen; omega) (by omega) hb9 ?_; intro v' w4 hown' hgrow _ hat; obtain ⟨a', d', N', hN', rfl⟩ := own_shape2 hown'; clear hN'))
      replace hgrow : w9.grownBy w4 (Value.slice ra rn rc).ownBlock := hgrow
      replace hat : (Value.slice a' N' d').ownBlock = (Value.slice ra rn rc).ownBlock ∨ (Value.slice a' N' d').ownBlock = some w9.heap.size := hat
      have HP : Hid (RowsOK iE 1 50 base w4 (.slice a' N' d') (us ++ [.slice (some ⟨wr.heap.size, 0, none⟩) k0 k0]) (clT N 0 (i + 1))) := Lib.hid (by
        rw [HTI.out]
        refine HR9.out.push iE_len (by omega) (hs3.keep n9) (fun _ g e e2 => ?_) hown' hgrow hat
        have q1 : wr.heap.size = g := by simpa [Value.ownBlock] using e
        have q2 := (HRO.out.own.lt g e2).2
        omega)
      have HN4 : Hid (New w1 w4) := Lib.hid (newGrown (hnr.out.trans (hn3.trans n9)) hgrow (fun j hj => by have := (HRO.out.own.lt j hj).1; have := HBS.out; omega))
      clear hgrow hat hown' n9 hp hown3 hgrow3 hn3 hs3 HR9
      go_roundg (gn - (i + 1))
      case measure => omega
      case rel => exact ⟨i + 1, a', N', d', _, by go_num, rfl, by omega, by omega, HP, HN4⟩
    · obtain rfl : i = gn := by omega
      have hrn : rn = i := by
        obtain ⟨q1, q2, q3⟩ := HRO.out.rows.shape
        injection q3 with _ q4 _
        rw [HCTL.out] at q4
        exact q4
      replace hrn := hrn.symm
      subst hrn
      have HO : Hid (RowsK iE 1 wr (.slice ra i rc) (clT N 0 i)) := Lib.hid HRO.out.rows
      have HNR := Lib.hid (hnr.out)
      clear HRO hnr HCZ HT0 HBS
      go_wp2_with fail
      clear g4
      go_loopg [10, 8] m (fun gk s10 s8 wr => ∃ (f : Nat) (oa : Option Addr) (oc : Nat), s10 = .int .i64 ((f + 1 : Nat) : Int) ∧ s8 = .slice oa i oc ∧ f ≤ m ∧ m - f ≤ gk ∧ Hid (RowsK iE 1 wr (.slice oa i oc) (clT N f i)) ∧ Hid (New w1 wr))
      case atStart => exact ⟨0, _, _, rfl, rfl, by omega, by omega, HO, HNR⟩
      case round =>
        clear HO HNR
        obtain ⟨f, oa, oc, rfl, rfl, hf, hgk, HOUT, hnr⟩ := hrel
        obtain ⟨c0, c1, c2, c3, c4, c5, c6⟩ := HCF.out _ (N1.out.trans hnr.out)
        go_wp2_with fail
        refine (KC.out _).mono ?_
        rintro e w3 ⟨rfl, n3⟩
        have HOUT3 := Lib.hid (HOUT.out.keep n3)
        have HN13 := Lib.hid (hnr.out.trans n3)
        have HN3 := Lib.hid (N1.out.trans HN13.out)
        clear c0 c1 c2 c3 c4 c5 c6 n3 HOUT hnr
        by_cases hlt : f + 1 ≤ m
        rotate_left
        · obtain rfl : f = m := by omega
          have hd : decide (((f + 1 : Nat) : Int) ≤ (f : Int)) = false := decide_eq_false (by omega)
          have hd2 : ¬ ((f : Int) + 1 ≤ (f : Int)) := by omega
          clear hlt hgk
          go_wp2_with fail
          rw [HQ.out]
          exact ⟨_, rfl, HOUT3.out, N0.out.trans HN3.out⟩
        have hd : decide (((f + 1 : Nat) : Int) ≤ (m : Int)) = true := decide_eq_true (by omega)
        have hd2 : ¬ ((m : Int) < (f : Int) + 1) := by omega
        have hd3 : (f : Int) + 1 ≤ (m : Int) := by omega
        have HLT := Lib.hid (And.intro hlt hgk)
        have hf6 : f ≤ 6 := by omega
        obtain ⟨base2, hbase2⟩ : ∃ q, q = w3.heap.size := ⟨_, rfl⟩
        have HBS2 := Lib.hid hbase2
        clear hlt hgk hbase2
        go_wp2_with fail
        clear hd hd2 hd3
        go_loopg [12, 11] i (fun gk s12 s11 wr => ∃ (j : Nat) (ra : Option Addr) (rn rc : Nat) (us : List Value), s12 = .int .i64 j ∧ s11 = .slice ra rn rc ∧ j ≤ i ∧ i - j ≤ gk ∧ Hid (RowsOK iE 1 50 base2 wr (.slice ra rn rc) us (clT N (f + 1) j)) ∧ Hid (New w3 wr))
        case atStart => exact ⟨0, none, 0, 0, [], rfl, rfl, by omega, by omega, Lib.hid RowsOK.nil, Lib.hid (New.refl _)⟩
        case round =>
          obtain ⟨j, ra, rn, rc, us, rfl, rfl, hj, hgk, HRO, hnj⟩ := hrel
          obtain ⟨-, -, -, -, g4⟩ := HGF.out _ (HN3.out.trans hnj.out)
          by_cases hjt : j < i
          rotate_left
          · obtain rfl : j = i := by omega
            have HO2 : Hid (RowsK iE 1 wr (.slice ra rn rc) (clT N (f + 1) j)) := Lib.hid HRO.out.rows
            have hrn : rn = j := by
              have h1 := HRO.out.rows.shape
              obtain ⟨q1, q2, q3⟩ := h1
              injection q3 with _ q4 _
              rw [HCTL.out] at q4
              exact q4
            replace hrn := hrn.symm
            subst hrn
            have HGK := Lib.hid hgk
            clear hgk
            go_wp2_with fail
            obtain ⟨hl1, hl2⟩ := HLT.out
            go_roundg (m - (f + 1))
            case measure => omega
            case rel => exact ⟨f + 1, ra, rc, by go_num, rfl, by omega, by omega, HO2, Lib.hid (HN13.out.trans hnj.out)⟩
          have HGK := Lib.hid hgk
          have hjn : j < N.M.length := by rw [← HGM.out]; exact hjt
          have hjc : j < (clT N f i).length := by rw [HCTL.out]; exact hjt
          obtain ⟨b, off, a, c, rfl, hc, hs⟩ := (HOUT3.out.keep hnj.out).at j hjc
          have hrow : (clT N f i)[j] = fcC N f j (colM N.M j).length := by
            obtain ⟨h1, e1⟩ := List.getElem?_eq_some_iff.1 (clT_get N f i hjt)
            exact e1
          simp only [hrow] at hc hs
          have hclen := fcC_len N f j (colM N.M j).length
          rw [hclen] at hc hs
          have hc8 := HCOL.out j
          have HKIN : Hid (∀ k, k < (colM N.M j).length → SpIn N.M ⟨j, k⟩) := Lib.hid (fun k hk => ⟨hjn, hk⟩)
          have HTI := Lib.hid (HCT.out (f + 1) j)
          obtain ⟨k0, hk0⟩ : ∃ q, q = (colM N.M j).length := ⟨_, rfl⟩
          rw [← hk0] at hc hs hc8 HTI HKIN hclen
          have HM00 := Lib.hid (HM0.out f j k0)
          have HMAA := Lib.hid (HMA.out f j k0)
          have hs2 := hs
          obtain ⟨cC, hcC⟩ : ∃ q, q = fcC N f j k0 := ⟨_, rfl⟩
          rw [← hcC] at hs2 HM00 hclen
          rename World => Wj
          obtain ⟨base3, hbase3⟩ : ∃ q, q = Wj.heap.size := ⟨_, rfl⟩
          have HBS3 := Lib.hid hbase3
          have hs3 := hs2
          clear hcC hrow hjc hs hk0 hgk hs2
          have hbl := World.block_lt_of_cell? _ _ hc
          simp only [] at hbl
          go_upto_region 17 with (at_builtin; refine wpList_append_sl rfl _ _ 50 rfl iE_len iE_one base3 3 i0 _ 8 Tryd.underlying50 hi0 hz0 hz1 hz2 rfl (by decide) _ ([] : List Int) rfl ⟨rfl, .inr ⟨Wj.heap.size, 0, #[], rfl, Nat.le_of_eq hbase3, heap_new _ _, Nat.le_refl _, Nat.zero_le _, rfl, rfl⟩⟩ _ cC rfl (hs3.keep ((New.refl _).alloc _)) (by unfold maxLen; simp only [List.length_nil]; omega) (by simp only [List.length_nil]; omega) (by rw [hbase3]; simp) ?_; intro v' w4 hown hnew _; obtain ⟨a', d', N', hN', rfl⟩ := own_shape2 hown; have HN'' := Lib.hid hN'; have HO4 := Lib.hid hown; have HN4 := Lib.hid (hnew Wj ((New.refl _).alloc _) (Nat.le_of_eq hbase3.symm)); clear hN' hown hnew)
          have hN' := HN''.out
          rw [List.nil_append, hclen] at hN'
          subst hN'
          rw [List.nil_append, hclen, ← HM00.out] at HO4
          clear hc hs3 hclen HM00 hbase3 g4 HN'' hbl
          go_wp2_with fail
          go_loopg [14] N' (fun gk s14 wr => ∃ k : Nat, s14 = .int .i64 k ∧ k ≤ N' ∧ N' - k ≤ gk ∧ Hid (wr.ownsRow base3 3 1 (.slice a' N' d') N' ((mixC N f j k N').flatMap iE)) ∧ Hid (New Wj wr))
          case atStart => exact ⟨0, rfl, by omega, by omega, HO4, HN4⟩
          case round =>
            clear HO4 HN4
            obtain ⟨k, rfl, hk, hgk, hown, hnk⟩ := hrel
            by_cases hkt : k < N'
            rotate_left
            · obtain rfl : k = N' := by omega
              rw [HMAA.out] at hown
              have HRn := Lib.hid (HRO.out.new hnk.out)
              have HNN := Lib.hid (hnj.out.trans hnk.out)
              have hbz : base2 ≤ wr.heap.size := by rw [HBS2.out]; exact HNN.out.size
              have hclen2 := fcC_len N (f + 1) j k
              have hsl : Sl iE 1 wr (.slice a' k d') (fcC N (f + 1) j k) := by
                have h := hown.out
                have : wr.ownsRow base3 3 1 (.slice a' k d') (fcC N (f + 1) j k).length ((fcC N (f + 1) j k).flatMap iE) := by rw [hclen2]; exact h
                exact own_sl iE_len this
              have HSL := Lib.hid hsl
              have HOB := Lib.hid (fun g e => own_block hown.out g e)
              have htl := HCTL.out (f + 1) j
              have hul := HRn.out.len
              rw [htl] at hul
              clear hown hsl hgk htl hclen2
              go_upto_region 27 with fail
              obtain ⟨w9, hw9⟩ : ∃ q, q = wr.alloc (.cells #[.slice a' k d'] 50) := ⟨_, rfl⟩
              have n9 : New wr w9 := by subst hw9; exact (New.refl _).alloc _
              have hp : w9.cell? ⟨wr.heap.size, 0, none⟩ = some (.slice a' k d') := by subst hw9; exact cell_of_heap (heap_new _ _) rfl
              have HR9 := Lib.hid (HRn.out.new n9)
              have hb9 : base2 ≤ w9.heap.size := Nat.le_trans hbz n9.size
              have ho9 := HR9.out.own
              go_wp2_with (at_builtin; rw [← hw9]; refine wpList_append_own_at _ rfl _ _ 29 rfl base2 50 i1 (.slice none 0 0) 1 24 Tryd.underlying29 hi1 hy0 hy1 hy2 rfl (by decide) _ _ _ rfl ho9 ⟨wr.heap.size, 0, none⟩ 1 1 [.slice a' k d'] rfl rfl (by intro j u hj; cases j with | zero => (simp at hj; subst hj; exact hp) | succ j => simp at hj) (by intro u hu; rw [List.mem_singleton] at hu; subst hu; rfl) (by unfold maxLen; omega) (by omega) hb9 ?_; intro v' w4 hown' hgrow _ hat; obtain ⟨a'', d'', N'', hN'', rfl⟩ := own_shape2 hown'; clear hN'')
              replace hgrow : w9.grownBy w4 (Value.slice ra rn rc).ownBlock := hgrow
              replace hat : (Value.slice a'' N'' d'').ownBlock = (Value.slice ra rn rc).ownBlock ∨ (Value.slice a'' N'' d'').ownBlock = some w9.heap.size := hat
              have HP : Hid (RowsOK iE 1 50 base2 w4 (.slice a'' N'' d'') (us ++ [.slice a' k d']) (clT N (f + 1) (j + 1))) := Lib.hid (by
                rw [HTI.out]
                refine HR9.out.push iE_len (by omega) (HSL.out.keep n9) (fun _ g e e2 => ?_) hown' hgrow hat
                have q1 := HOB.out g e
                have q2 := (HRO.out.own.lt g e2).2
                have q3 := HBS3.out
                omega)
              have HN4 : Hid (New w3 w4) := Lib.hid (newGrown (HNN.out.trans n9) hgrow (fun j hj => by have := (HRO.out.own.lt j hj).1; have := HBS2.out; omega))
              clear hgrow hat hown' n9 hp
              have hgk := HGK.out
              go_roundg (i - (j + 1))
              case measure => omega
              case rel => exact ⟨j + 1, a'', N'', d'', _, by go_num, rfl, by omega, by omega, HP, HN4⟩
            have hin := HKIN.out k hkt
            have KEi := Lib.hid (fun W q => KE.out la lc ⟨j, k⟩ hin w1 W q HLK.out)
            have HSYI := Lib.hid (HSY.out ⟨j, k⟩ hin)
            have HGSI := Lib.hid (HGS.out f ⟨j, k⟩)
            have HGTI := Lib.hid (HGT.out f ⟨j, k⟩)
            have HMSI := Lib.hid (HMS.out f j N' k hkt)
            have HMNI := Lib.hid (HMN.out f j N' k hkt)
            have hal := arP_len (go := N.go) ⟨j, k⟩
            obtain ⟨fb, hfb⟩ : ∃ q, q = fulP N.go ⟨j, k⟩ := ⟨_, rfl⟩
            obtain ⟨ar, har⟩ : ∃ q, q = arP N.go ⟨j, k⟩ := ⟨_, rfl⟩
            rw [← hfb, ← har] at KEi HGSI
            rw [← har] at HSYI hal
            clear hfb har hin
            obtain ⟨g0, g1, g2, g3, g4⟩ := HGF.out _ (HN3.out.trans (hnj.out.trans hnk.out))
            go_wp2_with fail
            refine (KEi.out _ (HN13.out.trans (hnj.out.trans hnk.out))).mono ?_
            rintro e w5 ⟨ev, rfl, hsl5, n5⟩
            obtain ⟨lst, hlst⟩ : ∃ q, q = (if fb = true then ar else []) := ⟨_, rfl⟩
            rw [← hlst] at hsl5
            have hln8 : lst.length ≤ 8 := by rw [hlst]; split; exact hal; simp
            have HIN : Hid (∀ t ∈ lst, SpIn N.M t) := Lib.hid (fun t ht => by
              rw [hlst] at ht
              by_cases q : fb = true
              · rw [if_pos q] at ht; exact HSYI.out t ht
              · rw [if_neg q] at ht; cases ht)
            have HGE : Hid (geB N.go (f + 1) ⟨j, k⟩ = (fb && lst.all (geB N.go f))) := Lib.hid (by
              rw [HGSI.out, hlst]
              cases fb
              · rfl
              · rfl)
            obtain ⟨ea, ec, rfl, -, -, -, hrow5⟩ := hsl5
            have HR5 := Lib.hid hrow5
            obtain ⟨ln, hln⟩ : ∃ q, q = lst.length := ⟨_, rfl⟩
            rw [← hln] at hln8 ⊢
            have HLN := Lib.hid hln
            have HN5 := Lib.hid (hnk.out.trans n5)
            have HO5 := Lib.hid (own_new hown.out n5)
            have HGK2 := Lib.hid hgk
            clear hlst hln hrow5 n5 hown hnk HSYI HGSI KEi hal g0 g1 g2 g3 g4 hgk ar
            rename World => W5
            go_wp2_with fail
            go_loopg [17, 16] ln (fun gk s17 s16 wr => ∃ q : Nat, s17 = .int .i64 q ∧ s16 = .bool (fb && (lst.take q).all (geB N.go f)) ∧ q ≤ ln ∧ ln - q ≤ gk ∧ Hid (New W5 wr))
            case atStart => exact ⟨0, rfl, by simp, by omega, by omega, Lib.hid (New.refl _)⟩
            case round =>
              obtain ⟨q, rfl, rfl, hq, hgk, hnq⟩ := hrel
              by_cases hqt : q < ln
              · have hql : q < lst.length := by rw [← HLN.out]; exact hqt
                obtain ⟨b5, o5, rfl, hA5⟩ := HR5.out (by omega)
                obtain ⟨e0, e1⟩ := Sp.cells (w := wr) (b := b5) (off := o5) (l := lst) (fun j hj i hi => hnq.out.keep (hA5 j hj i hi)) q hql
                have hTin := HIN.out lst[q] (List.getElem_mem hql)
                obtain ⟨h1, h2, h3⟩ := HCT2.out f lst[q] hTin
                obtain ⟨hc1, hc2⟩ := HSM.out lst[q] hTin
                have htk : (lst.take (q + 1)).all (geB N.go f) = ((lst.take q).all (geB N.go f) && geB N.go f lst[q]) := by
                  rw [List.take_succ_eq_append_getElem hql, List.all_append]
                  simp
                have hgi := HGI.out f lst[q]
                have hle := HCLE.out f lst[q]
                obtain ⟨b6, o6, a6, c6, e6, hc6, hs6⟩ := (HOUT3.out.keep (hnj.out.trans (HN5.out.trans hnq.out))).at lst[q].c h1
                obtain ⟨a7, c7, e7, -, -, hrow7⟩ := sl_at hs6
                injection e7 with e7a e7b e7c
                subst e7a
                obtain ⟨b8, o8, e8, hx8⟩ := hrow7 lst[q].k h2
                rw [h3] at hx8
                injection e6 with e6
                injection e6 with e6a e6b
                subst e6a
                subst e6b
                subst e8
                obtain ⟨r6, hr6⟩ : ∃ r, r = ((clT N f i)[lst[q].c]).length := ⟨_, rfl⟩
                rw [← hr6] at hc6 h2
                rw [HCTL.out] at h1
                clear hs6 hrow7 h3 hr6 hTin
                generalize lst[q] = T at *
                obtain ⟨x, hx⟩ : ∃ x, x = clr N.go f T := ⟨_, rfl⟩
                rw [← hx] at hx8 hgi hle
                clear hx
                obtain ⟨bT, hbT⟩ : ∃ b, b = geB N.go f T := ⟨_, rfl⟩
                rw [← hbT] at hgi htk
                clear hbT
                have HTK := Lib.hid htk
                obtain ⟨pre, hpre⟩ : ∃ b, b = (lst.take q).all (geB N.go f) := ⟨_, rfl⟩
                rw [← hpre] at HTK ⊢
                clear hpre htk
                have hw1 : IntKind.i64.wrap ((f : Int) + 1 - 1) = f := by rw [show (f : Int) + 1 - 1 = f by omega]; exact IntWalk.i64_in _ (by omega)
                have HGI2 := Lib.hid hgi
                clear hgi
                cases hok : (fb && pre)
                · have hnx : Hid ((fb && (lst.take (q + 1)).all (geB N.go f)) = false) := Lib.hid (by rw [HTK.out, ← Bool.and_assoc, hok]; rfl)
                  go_upto_region 24 with fail
                  (refine wp_region_hat (by kernel_rfl) (by kernel_rfl) ?_; intro hatc hatf; (repeat (go_big_quiet_step ((fail)))); refine wpQuiet_nil ?_; rintro _ ⟨qq, rfl⟩)
                  have HNQ := Lib.hid (hnq.out.trans qq.h)
                  clear hatc hatf e0 e1 hc6 hx8 hok
                  generalize qq.w = w9 at *
                  clear qq
                  go_wp2_with fail
                  go_roundg (ln - (q + 1))
                  case measure => omega
                  case rel => exact ⟨q + 1, by go_num, by rw [hnx.out], by omega, by omega, HNQ⟩
                · by_cases hfx : f ≤ x
                  · have hnx : Hid ((fb && (lst.take (q + 1)).all (geB N.go f)) = true) := Lib.hid (by rw [HTK.out, ← Bool.and_assoc, hok, HGI2.out.1 hfx]; rfl)
                    have hd : decide ((f : Int) ≤ (x : Int)) = true := decide_eq_true (by omega)
                    have hd2 : decide (f ≤ x) = true := decide_eq_true hfx
                    go_upto_region 24 with fail
                    (refine wp_region_hat (by kernel_rfl) (by kernel_rfl) ?_; intro hatc hatf; (repeat (go_big_quiet_step ((fail)))); refine wpQuiet_nil ?_; rintro _ ⟨qq, rfl⟩)
                    have HNQ := Lib.hid (hnq.out.trans qq.h)
                    clear hatc hatf e0 e1 hc6 hx8 hok hd hd2
                    generalize qq.w = w9 at *
                    clear qq
                    go_wp2_with fail
                    go_roundg (ln - (q + 1))
                    case measure => omega
                    case rel => exact ⟨q + 1, by go_num, by rw [hnx.out], by omega, by omega, HNQ⟩
                  · have hnx : Hid ((fb && (lst.take (q + 1)).all (geB N.go f)) = false) := Lib.hid (by
                      cases e : bT
                      · rw [HTK.out, e]; simp
                      · exact absurd (HGI2.out.2 e) hfx)
                    have hd : decide ((f : Int) ≤ (x : Int)) = false := decide_eq_false (by omega)
                    have hd2 : decide (f ≤ x) = false := decide_eq_false hfx
                    go_upto_region 24 with fail
                    (refine wp_region_hat (by kernel_rfl) (by kernel_rfl) ?_; intro hatc hatf; (repeat (go_big_quiet_step ((fail)))); refine wpQuiet_nil ?_; rintro _ ⟨qq, rfl⟩)
                    have HNQ := Lib.hid (hnq.out.trans qq.h)
                    clear hatc hatf e0 e1 hc6 hx8 hok hd hd2
                    generalize qq.w = w9 at *
                    clear qq
                    go_wp2_with fail
                    go_roundg (ln - (q + 1))
                    case measure => omega
                    case rel => exact ⟨q + 1, by go_num, by rw [hnx.out], by omega, by omega, HNQ⟩
              · obtain rfl : q = ln := by omega
                have hall : (fb && (lst.take q).all (geB N.go f)) = geB N.go (f + 1) ⟨j, k⟩ := by rw [HGE.out, List.take_of_length_le (by rw [HLN.out]; exact Nat.le_refl _)]
                rw [hall]
                clear hall
                have HNQ := Lib.hid (HN5.out.trans hnq.out)
                have HOQ := Lib.hid (own_new HO5.out hnq.out)
                have hgk := HGK2.out
                cases hg : geB N.go (f + 1) ⟨j, k⟩
                · have hmx : Hid (mixC N f j (k + 1) N' = mixC N f j k N') := Lib.hid (HMNI.out hg)
                  have HO9 : Hid (wr.ownsRow base3 3 1 (.slice a' N' d') N' ((mixC N f j (k + 1) N').flatMap iE)) := Lib.hid (by rw [hmx.out]; exact HOQ.out)
                  clear HOQ hmx hg
                  go_wp2_with fail
                  go_roundg (N' - (k + 1))
                  case measure => omega
                  case rel => exact ⟨k + 1, by go_num, by omega, by omega, HO9, HNQ⟩
                · have hmx : Hid ((mixC N f j k N').set k ((f : Int) + 1) = mixC N f j (k + 1) N') := Lib.hid (by
                    have h1 := HGTI.out hg
                    have h2 := HMSI.out
                    rw [h1] at h2
                    exact h2)
                  obtain ⟨g, hga⟩ : ∃ g, a' = some ⟨g, 0, none⟩ := by
                    rcases HOQ.out.2 with ⟨e, -⟩ | ⟨g, cap, cur, e, -⟩
                    · injection e with e1 e2 e3
                      omega
                    · injection e with e1 e2 e3
                      exact ⟨g, e1⟩
                  subst hga
                  have hgb : base3 ≤ g := own_block HOQ.out g (by simp [Value.ownBlock])
                  have hcl := HOQ.out.cellAt k (by omega)
                  have hfz := HOQ.out.frozenAt k
                  have hst := (HOQ.out.stored k (.int .i64 ((f : Int) + 1))).1
                  rw [iE_set, hmx.out] at hst
                  have HO9 := Lib.hid hst
                  have HN9 : Hid (New Wj (wr.setCell ⟨g, k, none⟩ (.int .i64 ((f : Int) + 1)))) := Lib.hid (New.setB (p := ⟨g, k, none⟩) (by have := HBS3.out; show Wj.heap.size ≤ g; omega) HNQ.out _)
                  obtain ⟨old, hold⟩ : ∃ u, ((mixC N f j k N').flatMap iE)[k]? = some u := by
                    rw [iE_flat, List.getElem?_map, mixC_get N f j k N' hkt]
                    exact ⟨_, rfl⟩
                  rw [hold] at hcl
                  clear hold hst hmx HOQ hg HNQ hgb
                  go_wp2_with fail
                  go_roundg (N' - (k + 1))
                  case measure => omega
                  case rel => exact ⟨k + 1, by go_num, by omega, by omega, HO9, HN9⟩

theorem fr_Build (C : CfgR) (G : Gd) (w : World) (h : G.ok w) : Calls Tryd.prog 12 #[.agg #[.int .i64 C.cl, .int .i64 C.cb, .int .i64 C.ht, .int .i64 C.ri, .int .i64 C.ru, .int .i64 C.wd, .int .i64 C.dp], .agg #[.int .i64 G.x, .int .i64 G.z, .int .i64 G.w, .int .i64 G.d, .slice G.ga G.L.length G.gc]] w (FBuilt (lkE C G) (fdT C G) w) := by
  by_cases q : lkE C G = 0
  · have := fr_Build_fine C G (lkE_is.1 q).1 (lkE_is.1 q).2 w h
    unfold fdT
    rw [if_pos q, q]
    exact this
  · have := fr_Build_bad C G q w h
    unfold fdT
    rw [if_neg q]
    exact this

end Go.Proofs.YtgoggogcbjfofaaDoor
