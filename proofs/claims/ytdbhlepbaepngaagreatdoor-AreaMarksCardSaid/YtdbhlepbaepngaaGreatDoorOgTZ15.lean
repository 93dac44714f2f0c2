import Derived.Test.YtdbhlepbaepngaaGreatDoorOgQZ15
import Derived.Test.YtdbhlepbaepngaaGreatDoorOgNZ15
import Derived.Test.YtdbhlepbaepngaaGreatDoorLoose

/- The document's own All. -/
namespace Go.Proofs.YtdbhlepbaepngaaGreatDoor
open Go.RowKit
set_option linter.unusedVariables false

theorem sp_info : (Tryz.prog.info? 61).map (fun i => (i.zero, i.size, i.bytes)) = some (some (.agg #[.int .i64 0, .int .i64 0, .int .i64 0, .int .i64 0, .int .i64 0, .int .i64 0]), 6, 48) := by kernel_rfl

theorem allG_bad {G : Gd} (h : gE G ≠ 0) : allG (colG G) = [] := by
  unfold colG
  rw [if_neg h]
  rfl
theorem allG_fine {G : Gd} (h : gE G = 0) : allG (colG G) = allG G := by unfold colG; rw [if_pos h]

set_option maxHeartbeats 2000000 in
set_option maxRecDepth 100000 in
theorem rg_All_bad (G : Gd) (hE : gE G = 2) (w : World) (h : G.ok w) : Calls Tryz.prog 21 #[.agg #[.int .i64 G.x, .int .i64 G.z, .int .i64 G.w, .int .i64 G.d, .slice G.ga G.L.length G.gc]] w fun e w' => ∃ v, e = .returned v ∧ Sl St.enc 6 w' v (allG (colG G)) ∧ (∀ b, v.ownBlock = some b → w.heap.size ≤ b) ∧ New w w' := by
  have KC := Lib.hid (fun W n => rg_check G W (h.keep (n : New w W)))
  rw [hE] at KC
  rw [allG_bad (by omega)]
  obtain ⟨n, hn⟩ : ∃ n, n = G.L.length := ⟨_, rfl⟩
  rw [← hn] at KC ⊢
  clear hn h hE
  go_enter Tryz.func21, Tryz.ntmps21
  go_wp2_with fail
  generalize hW : World.alloc _ _ = W0
  have n0 : New w W0 := by subst hW; (repeat (first | (with_reducible exact New.refl _) | (with_reducible assumption) | ((with_reducible refine New.setB ?_ ?_ _); focus (first | omega | (simp; omega) | (simp; done))) | (with_reducible refine New.alloc ?_ _) | (with_reducible refine New.drew ?_) | (with_reducible refine New.drewN ?_ _) | (with_reducible refine New.hat ?_ _) | ((with_reducible apply New.snart); (with_reducible assumption))))
  have g0 : W0.cell? ⟨w.heap.size, 0, none⟩ = some (.int .i64 G.x) := by subst hW; go_simp
  have g1 : W0.cell? ⟨w.heap.size, 1, none⟩ = some (.int .i64 G.z) := by subst hW; go_simp
  have g2 : W0.cell? ⟨w.heap.size, 2, none⟩ = some (.int .i64 G.w) := by subst hW; go_simp
  have g3 : W0.cell? ⟨w.heap.size, 3, none⟩ = some (.int .i64 G.d) := by subst hW; go_simp
  have g4 : W0.cell? ⟨w.heap.size, 4, none⟩ = some (.slice G.ga n G.gc) := by subst hW; go_simp
  clear hW
  go_loopg [4, 3] 1 (fun gk s4 s3 wr => s4 = .int .i64 0 ∧ s3 = .slice none 0 0 ∧ wr = W0)
  case atStart => exact ⟨rfl, rfl, rfl⟩
  case round =>
    obtain ⟨rfl, rfl, hw⟩ := hrel
    obtain rfl : W0 = wr := hw.symm
    rcases Nat.eq_zero_or_pos n with rfl | hp
    · go_wp2_with fail
      go_ret
      exact ⟨_, rfl, Sl.nil, (fun b e => by simp [Value.ownBlock] at e), n0⟩
    · have hd : decide ((0 : Int) < n) = true := decide_eq_true (by omega)
      go_wp2_with fail
      refine (KC.out _ n0).mono ?_
      rintro e w1 ⟨rfl, n1⟩
      have N1 := n0.trans n1
      clear g0 g1 g2 g3 g4
      go_wp2_with fail
      go_ret
      exact ⟨_, rfl, Sl.nil, (fun b e => by simp [Value.ownBlock] at e), N1⟩

set_option maxHeartbeats 8000000 in
set_option maxRecDepth 100000 in
theorem rg_All_fine (G : Gd) (hE : gE G = 0) (w : World) (h : G.ok w) : Calls Tryz.prog 21 #[.agg #[.int .i64 G.x, .int .i64 G.z, .int .i64 G.w, .int .i64 G.d, .slice G.ga G.L.length G.gc]] w fun e w' => ∃ v, e = .returned v ∧ Sl St.enc 6 w' v (allG (colG G)) ∧ (∀ b, v.ownBlock = some b → w.heap.size ≤ b) ∧ New w w' := by
  obtain ⟨i0, hi, hz0, hz1, hz2⟩ := info_parts sp_info
  have KC := Lib.hid (fun W n => rg_check G W (h.keep (n : New w W)))
  rw [hE] at KC
  rw [allG_fine hE]
  have HH : Hid (RowsK Fl.enc 3 w (.slice G.ga G.L.length G.gc) G.L) := Lib.hid h
  have hb := placeB_iff.1 (gd_is hE).1
  have HE := Lib.hid hE
  have HLN := Lib.hid (gd_is hE).2.1
  have hlen : G.L.length ≤ 4096 := by
    have := mul_64 hb.2.2.1.1 hb.2.2.1.2 hb.2.2.2.1 hb.2.2.2.2
    have := (gd_is hE).2.1
    omega
  obtain ⟨n, hn⟩ : ∃ n, n = G.L.length := ⟨_, rfl⟩
  rw [← hn] at KC HH hlen ⊢
  have HN := Lib.hid hn
  obtain ⟨ga, hga⟩ : ∃ q, q = G.ga := ⟨_, rfl⟩
  rw [← hga] at KC HH ⊢
  obtain ⟨wN, hwN⟩ : ∃ q, q = G.w.toNat := ⟨_, rfl⟩
  have HW := Lib.hid hwN
  have hwi : G.w = wN := by omega
  have HWI := Lib.hid hwi
  rw [hwi] at KC ⊢
  have hw64 : wN ≤ 64 := by omega
  have hx64 : -64 ≤ G.x ∧ G.x ≤ 64 := by omega
  have hz64 : -64 ≤ G.z ∧ G.z ≤ 64 := by omega
  have hwp : Hid (0 < n → 0 < wN) := Lib.hid (fun hp => by
    have h1 := HLN.out
    rw [hwi, ← hn] at h1
    rcases Nat.eq_zero_or_pos wN with q | q
    · rw [q] at h1; simp at h1; omega
    · exact q)
  have hdv : Hid (∀ i, i < n → i / wN ≤ 4096) := Lib.hid (fun i h => by have := Nat.div_le_self i wN; omega)
  clear hn h hE hga hwN hwi hb
  go_enter Tryz.func21, Tryz.ntmps21
  go_wp2_with fail
  generalize hW : World.alloc _ _ = W0
  have n0 : New w W0 := by subst hW; (repeat (first | (with_reducible exact New.refl _) | (with_reducible assumption) | ((with_reducible refine New.setB ?_ ?_ _); focus (first | omega | (simp; omega) | (simp; done))) | (with_reducible refine New.alloc ?_ _) | (with_reducible refine New.drew ?_) | (with_reducible refine New.drewN ?_ _) | (with_reducible refine New.hat ?_ _) | ((with_reducible apply New.snart); (with_reducible assumption))))
  have g0 : W0.cell? ⟨w.heap.size, 0, none⟩ = some (.int .i64 G.x) := by subst hW; go_simp
  have g1 : W0.cell? ⟨w.heap.size, 1, none⟩ = some (.int .i64 G.z) := by subst hW; go_simp
  have g2 : W0.cell? ⟨w.heap.size, 2, none⟩ = some (.int .i64 wN) := by subst hW; go_simp
  have g3 : W0.cell? ⟨w.heap.size, 3, none⟩ = some (.int .i64 G.d) := by subst hW; go_simp
  have g4 : W0.cell? ⟨w.heap.size, 4, none⟩ = some (.slice ga n G.gc) := by subst hW; go_simp
  clear hW
  have HG := Lib.hid (fun W (q : New W0 W) => And.intro (q.keep g0) (And.intro (q.keep g1) (And.intro (q.keep g2) (And.intro (q.keep g3) (q.keep g4)))))
  obtain ⟨base, hbase⟩ : ∃ q, q = W0.heap.size := ⟨_, rfl⟩
  have HBS := Lib.hid hbase
  have hbw : w.heap.size ≤ base := by rw [hbase]; exact n0.size
  have N0 := Lib.hid n0
  clear hbase n0 g0 g1 g2 g3 g4
  go_loopg [4, 3] n (fun gk s4 s3 wr => ∃ (i : Nat) (ra : Option Addr) (rn rc : Nat), s4 = .int .i64 i ∧ s3 = .slice ra rn rc ∧ i ≤ n ∧ n - i ≤ gk ∧ Hid (wr.ownsRow base 61 6 (.slice ra rn rc) (stTo G i).length ((stTo G i).flatMap St.enc)) ∧ Hid (New W0 wr))
  case atStart => exact ⟨0, none, 0, 0, rfl, rfl, by omega, by omega, Lib.hid (World.ownsRow_nil _ _ _ _), Lib.hid (New.refl _)⟩
  case round =>
    obtain ⟨i, ra, rn, rc, rfl, rfl, hi', hgk, hown, hnr⟩ := hrel
    obtain ⟨g0, g1, g2, g3, g4⟩ := HG.out _ hnr.out
    by_cases hlt : i < n
    · have HGK := Lib.hid hgk
      have hil : i < G.L.length := by rw [← HN.out]; exact hlt
      clear hgk
      go_wp2_with fail
      refine (KC.out _ (N0.out.trans hnr.out)).mono ?_
      rintro e w1 ⟨rfl, n1⟩
      have hnr1 := Lib.hid (hnr.out.trans n1)
      have hown1 : Hid (w1.ownsRow base 61 6 (.slice ra rn rc) (stTo G i).length ((stTo G i).flatMap St.enc)) := Lib.hid (own_new hown.out n1)
      clear g0 g1 g2 g3 g4 hnr hown n1
      obtain ⟨g0, g1, g2, g3, g4⟩ := HG.out _ hnr1.out
      have hc8 := gcol_len HE.out i
      have hcl := gcol_at hil
      obtain ⟨m, hm⟩ : ∃ q, q = (gcol G i).length := ⟨_, rfl⟩
      rw [← hm] at hc8
      have HM := Lib.hid hm
      have HCL := Lib.hid hcl
      clear hm hcl
      go_wp2_with fail
      clear g0 g1 g2 g3 g4
      go_loopg [5, 3] m (fun gk s5 s3 wr => ∃ (k : Nat) (ra : Option Addr) (rn rc : Nat), s5 = .int .i64 k ∧ s3 = .slice ra rn rc ∧ k ≤ m ∧ m - k ≤ gk ∧ Hid (wr.ownsRow base 61 6 (.slice ra rn rc) (stAt G i k).length ((stAt G i k).flatMap St.enc)) ∧ Hid (New W0 wr))
      case atStart => exact ⟨0, ra, rn, rc, rfl, rfl, by omega, by omega, Lib.hid (by rw [stAt_zero]; exact hown1.out), hnr1⟩
      case round =>
        clear hown1 hnr1
        obtain ⟨k, ra, rn, rc, rfl, rfl, hk, hgk, hown, hnr⟩ := hrel
        obtain ⟨g0, g1, g2, g3, g4⟩ := HG.out _ hnr.out
        obtain ⟨b, off, a, c, rfl, hc, hs⟩ := (HH.out.keep (N0.out.trans hnr.out)).at i hil
        rw [← HCL.out, ← HM.out] at hc
        by_cases hkt : k < m
        · have hkl : k < (gcol G i).length := by rw [← HM.out]; exact hkt
          have hrow := hs.row'.2.2.2.2
          rw [← HCL.out] at hrow
          obtain ⟨b1, off1, rfl, hA⟩ := hrow (by omega)
          obtain ⟨c0, c1, c2⟩ := Fl.cells hA k hkl
          have hsu := stAt_succ hkl
          have hst : stOf G i (gcol G i)[k] = ⟨G.x + ((i % wN : Nat) : Int), G.z + ((i / wN : Nat) : Int), (gcol G i)[k].y, (gcol G i)[k]⟩ := by unfold stOf; rw [← HW.out]
          rw [hst] at hsu
          obtain ⟨f, hf⟩ : ∃ f, f = (gcol G i)[k] := ⟨_, rfl⟩
          rw [← hf] at c0 c1 c2 hsu
          have HSU := Lib.hid hsu
          have hsl := stAt_len HE.out i k
          have nr := hnr.out
          have hbz := World.block_lt_of_cell? _ _ c0
          have hwp' := hwp.out (by omega)
          have hmod : i % wN < wN := Nat.mod_lt _ hwp'
          have hdv' := hdv.out i hlt
          clear hA hsu hf hnr hs hrow hst
          go_upto_region 9 with fail
          refine Code.at (fun W5 hW => ?_)
          have n5 : New W0 W5 := by subst hW; (repeat (first | (with_reducible exact New.refl _) | (with_reducible assumption) | ((with_reducible refine New.setB ?_ ?_ _); focus (first | omega | (simp; omega) | (simp; done))) | (with_reducible refine New.alloc ?_ _) | (with_reducible refine New.drew ?_) | (with_reducible refine New.drewN ?_ _) | (with_reducible refine New.hat ?_ _) | ((with_reducible apply New.snart); (with_reducible assumption))))
          have f0 : W5.cell? ⟨wr.heap.size, 0, none⟩ = some (.int .i64 f.y) := by subst hW; go_simp
          have f1 : W5.cell? ⟨wr.heap.size, 1, none⟩ = some (.int .i64 f.top) := by subst hW; go_simp
          have f2 : W5.cell? ⟨wr.heap.size, 2, none⟩ = some (.int .i64 f.area) := by subst hW; go_simp
          have own5 : W5.ownsRow base 61 6 (.slice ra rn rc) (stAt G i k).length ((stAt G i k).flatMap St.enc) := own_new hown.out (by subst hW; (repeat (first | (with_reducible exact New.refl _) | (with_reducible assumption) | ((with_reducible refine New.setB ?_ ?_ _); focus (first | omega | (simp; omega) | (simp; done))) | (with_reducible refine New.alloc ?_ _) | (with_reducible refine New.drew ?_) | (with_reducible refine New.drewN ?_ _) | (with_reducible refine New.hat ?_ _) | ((with_reducible apply New.snart); (with_reducible assumption)))))
          have hr5 : base ≤ W5.heap.size := by rw [HBS.out]; exact n5.size
          clear hW hown nr c0 c1 c2 g0 g1 g2 g3 g4 hc
          obtain ⟨g0, g1, g2, g3, g4⟩ := HG.out _ n5
          obtain ⟨xm, hxm⟩ : ∃ q, q = i % wN := ⟨_, rfl⟩
          obtain ⟨zm, hzm⟩ : ∃ q, q = i / wN := ⟨_, rfl⟩
          have hr1 : ((i : Int).tmod (wN : Int)) = (xm : Int) := by rw [hxm]; rfl
          have hr2 : ((i : Int).tdiv (wN : Int)) = (zm : Int) := by rw [hzm]; rfl
          rw [← hxm] at hmod HSU
          rw [← hzm] at hdv' HSU
          have hxw : IntKind.i64.wrap (G.x + (xm : Int)) = G.x + xm := IntWalk.i64_in _ (by omega)
          have hzw : IntKind.i64.wrap (G.z + (zm : Int)) = G.z + zm := IntWalk.i64_in _ (by omega)
          have hw1 : IntKind.i64.wrap (xm : Int) = xm := IntWalk.i64_in _ (by omega)
          have hw2 : IntKind.i64.wrap (zm : Int) = zm := IntWalk.i64_in _ (by omega)
          have hwne : ¬ wN = 0 := by omega
          clear hxm hzm
          refine wp_region_loose 21 (fixV [.slice ra rn rc, .pointer (some ⟨w.heap.size, 0, none⟩), .int .i64 G.x, .int .i64 (i : Nat), .pointer (some ⟨w.heap.size, 2, none⟩), .int .i64 (wN : Nat), .int .i64 (xm : Nat), .int .i64 (G.x + (xm : Nat)), .pointer (some ⟨w.heap.size, 1, none⟩), .int .i64 G.z, .int .i64 (i : Nat), .pointer (some ⟨w.heap.size, 2, none⟩), .int .i64 (wN : Nat), .int .i64 (zm : Nat), .int .i64 (G.z + (zm : Nat)), .pointer (some ⟨wr.heap.size, 0, none⟩), .int .i64 f.y, .agg #[.int .i64 (G.x + (xm : Nat)), .int .i64 (G.z + (zm : Nat)), .int .i64 f.y], .agg #[.int .i64 f.y, .int .i64 f.top, .int .i64 f.area], .agg #[.int .i64 (G.x + (xm : Nat)), .int .i64 (G.z + (zm : Nat)), .int .i64 f.y, .int .i64 f.y, .int .i64 f.top, .int .i64 f.area]] (fun W v => Sl St.enc 6 W v [(⟨G.x + (xm : Nat), G.z + (zm : Nat), f.y, f⟩ : St)])) (by kernel_rfl) (by kernel_rfl) (fixV_keep (fun _ _ _ h n => h.keep n) _) ?_ ?_
          · intro i' o hi2 ho a' w' nn hr hdd
            rcases (show i' = 0 ∨ i' = 1 ∨ i' = 2 ∨ i' = 3 ∨ i' = 4 ∨ i' = 5 ∨ i' = 6 ∨ i' = 7 ∨ i' = 8 ∨ i' = 9 ∨ i' = 10 ∨ i' = 11 ∨ i' = 12 ∨ i' = 13 ∨ i' = 14 ∨ i' = 15 ∨ i' = 16 ∨ i' = 17 ∨ i' = 18 ∨ i' = 19 ∨ i' = 20 by omega) with rfl | rfl | rfl | rfl | rfl | rfl | rfl | rfl | rfl | rfl | rfl | rfl | rfl | rfl | rfl | rfl | rfl | rfl | rfl | rfl | rfl <;> obtain rfl := Option.some.inj ho
            · have r3 : (a'.tmps[3]?).getD undef = .slice ra rn rc := (eval_get a' 3).symm.trans (hr 3 (by kernel_rfl))
              exact yields_value (.slice ra rn rc) (by go_simp) ⟨New.refl _, rfl⟩
            · have r1 : (a'.tmps[1]?).getD undef = .pointer (some ⟨w.heap.size, 0, none⟩) := (eval_get a' 1).symm.trans (hr 1 (by kernel_rfl))
              exact yields_value (.pointer (some ⟨w.heap.size, 0, none⟩)) (by go_simp) ⟨New.refl _, rfl⟩
            · have r38 : (a'.tmps[38]?).getD undef = .pointer (some ⟨w.heap.size, 0, none⟩) := (eval_get a' 38).symm.trans (hdd 1 38 (by omega) (by kernel_rfl) (by kernel_rfl))
              replace g0 := nn.keep g0
              exact yields_value (.int .i64 G.x) (by go_simp) ⟨New.refl _, rfl⟩
            · have r4 : (a'.tmps[4]?).getD undef = .int .i64 (i : Nat) := (eval_get a' 4).symm.trans (hr 4 (by kernel_rfl))
              exact yields_value (.int .i64 (i : Nat)) (by go_simp) ⟨New.refl _, rfl⟩
            · have r1 : (a'.tmps[1]?).getD undef = .pointer (some ⟨w.heap.size, 0, none⟩) := (eval_get a' 1).symm.trans (hr 1 (by kernel_rfl))
              exact yields_value (.pointer (some ⟨w.heap.size, 2, none⟩)) (by go_simp) ⟨New.refl _, rfl⟩
            · have r41 : (a'.tmps[41]?).getD undef = .pointer (some ⟨w.heap.size, 2, none⟩) := (eval_get a' 41).symm.trans (hdd 4 41 (by omega) (by kernel_rfl) (by kernel_rfl))
              replace g2 := nn.keep g2
              exact yields_value (.int .i64 (wN : Nat)) (by go_simp) ⟨New.refl _, rfl⟩
            · have r40 : (a'.tmps[40]?).getD undef = .int .i64 (i : Nat) := (eval_get a' 40).symm.trans (hdd 3 40 (by omega) (by kernel_rfl) (by kernel_rfl))
              have r42 : (a'.tmps[42]?).getD undef = .int .i64 (wN : Nat) := (eval_get a' 42).symm.trans (hdd 5 42 (by omega) (by kernel_rfl) (by kernel_rfl))
              exact yields_value (.int .i64 (xm : Nat)) (by go_simp) ⟨New.refl _, rfl⟩
            · have r39 : (a'.tmps[39]?).getD undef = .int .i64 G.x := (eval_get a' 39).symm.trans (hdd 2 39 (by omega) (by kernel_rfl) (by kernel_rfl))
              have r43 : (a'.tmps[43]?).getD undef = .int .i64 (xm : Nat) := (eval_get a' 43).symm.trans (hdd 6 43 (by omega) (by kernel_rfl) (by kernel_rfl))
              exact yields_value (.int .i64 (G.x + (xm : Nat))) (by go_simp) ⟨New.refl _, rfl⟩
            · have r1 : (a'.tmps[1]?).getD undef = .pointer (some ⟨w.heap.size, 0, none⟩) := (eval_get a' 1).symm.trans (hr 1 (by kernel_rfl))
              exact yields_value (.pointer (some ⟨w.heap.size, 1, none⟩)) (by go_simp) ⟨New.refl _, rfl⟩
            · have r45 : (a'.tmps[45]?).getD undef = .pointer (some ⟨w.heap.size, 1, none⟩) := (eval_get a' 45).symm.trans (hdd 8 45 (by omega) (by kernel_rfl) (by kernel_rfl))
              replace g1 := nn.keep g1
              exact yields_value (.int .i64 G.z) (by go_simp) ⟨New.refl _, rfl⟩
            · have r4 : (a'.tmps[4]?).getD undef = .int .i64 (i : Nat) := (eval_get a' 4).symm.trans (hr 4 (by kernel_rfl))
              exact yields_value (.int .i64 (i : Nat)) (by go_simp) ⟨New.refl _, rfl⟩
            · have r1 : (a'.tmps[1]?).getD undef = .pointer (some ⟨w.heap.size, 0, none⟩) := (eval_get a' 1).symm.trans (hr 1 (by kernel_rfl))
              exact yields_value (.pointer (some ⟨w.heap.size, 2, none⟩)) (by go_simp) ⟨New.refl _, rfl⟩
            · have r48 : (a'.tmps[48]?).getD undef = .pointer (some ⟨w.heap.size, 2, none⟩) := (eval_get a' 48).symm.trans (hdd 11 48 (by omega) (by kernel_rfl) (by kernel_rfl))
              replace g2 := nn.keep g2
              exact yields_value (.int .i64 (wN : Nat)) (by go_simp) ⟨New.refl _, rfl⟩
            · have r47 : (a'.tmps[47]?).getD undef = .int .i64 (i : Nat) := (eval_get a' 47).symm.trans (hdd 10 47 (by omega) (by kernel_rfl) (by kernel_rfl))
              have r49 : (a'.tmps[49]?).getD undef = .int .i64 (wN : Nat) := (eval_get a' 49).symm.trans (hdd 12 49 (by omega) (by kernel_rfl) (by kernel_rfl))
              exact yields_value (.int .i64 (zm : Nat)) (by go_simp) ⟨New.refl _, rfl⟩
            · have r46 : (a'.tmps[46]?).getD undef = .int .i64 G.z := (eval_get a' 46).symm.trans (hdd 9 46 (by omega) (by kernel_rfl) (by kernel_rfl))
              have r50 : (a'.tmps[50]?).getD undef = .int .i64 (zm : Nat) := (eval_get a' 50).symm.trans (hdd 13 50 (by omega) (by kernel_rfl) (by kernel_rfl))
              exact yields_value (.int .i64 (G.z + (zm : Nat))) (by go_simp) ⟨New.refl _, rfl⟩
            · have r6 : (a'.tmps[6]?).getD undef = .pointer (some ⟨wr.heap.size, 0, none⟩) := (eval_get a' 6).symm.trans (hr 6 (by kernel_rfl))
              exact yields_value (.pointer (some ⟨wr.heap.size, 0, none⟩)) (by go_simp) ⟨New.refl _, rfl⟩
            · have r52 : (a'.tmps[52]?).getD undef = .pointer (some ⟨wr.heap.size, 0, none⟩) := (eval_get a' 52).symm.trans (hdd 15 52 (by omega) (by kernel_rfl) (by kernel_rfl))
              replace f0 := nn.keep f0
              exact yields_value (.int .i64 f.y) (by go_simp) ⟨New.refl _, rfl⟩
            · have r44 : (a'.tmps[44]?).getD undef = .int .i64 (G.x + (xm : Nat)) := (eval_get a' 44).symm.trans (hdd 7 44 (by omega) (by kernel_rfl) (by kernel_rfl))
              have r51 : (a'.tmps[51]?).getD undef = .int .i64 (G.z + (zm : Nat)) := (eval_get a' 51).symm.trans (hdd 14 51 (by omega) (by kernel_rfl) (by kernel_rfl))
              have r53 : (a'.tmps[53]?).getD undef = .int .i64 f.y := (eval_get a' 53).symm.trans (hdd 16 53 (by omega) (by kernel_rfl) (by kernel_rfl))
              exact yields_value (.agg #[.int .i64 (G.x + (xm : Nat)), .int .i64 (G.z + (zm : Nat)), .int .i64 f.y]) (by go_simp) ⟨New.refl _, rfl⟩
            · have r6 : (a'.tmps[6]?).getD undef = .pointer (some ⟨wr.heap.size, 0, none⟩) := (eval_get a' 6).symm.trans (hr 6 (by kernel_rfl))
              replace f0 := nn.keep f0
              replace f1 := nn.keep f1
              replace f2 := nn.keep f2
              exact yields_value (.agg #[.int .i64 f.y, .int .i64 f.top, .int .i64 f.area]) (by go_simp) ⟨New.refl _, rfl⟩
            · have r54 : (a'.tmps[54]?).getD undef = .agg #[.int .i64 (G.x + (xm : Nat)), .int .i64 (G.z + (zm : Nat)), .int .i64 f.y] := (eval_get a' 54).symm.trans (hdd 17 54 (by omega) (by kernel_rfl) (by kernel_rfl))
              have r55 : (a'.tmps[55]?).getD undef = .agg #[.int .i64 f.y, .int .i64 f.top, .int .i64 f.area] := (eval_get a' 55).symm.trans (hdd 18 55 (by omega) (by kernel_rfl) (by kernel_rfl))
              exact yields_value (.agg #[.int .i64 (G.x + (xm : Nat)), .int .i64 (G.z + (zm : Nat)), .int .i64 f.y, .int .i64 f.y, .int .i64 f.top, .int .i64 f.area]) (by go_simp) ⟨New.refl _, rfl⟩
            · have r56 : (a'.tmps[56]?).getD undef = .agg #[.int .i64 (G.x + (xm : Nat)), .int .i64 (G.z + (zm : Nat)), .int .i64 f.y, .int .i64 f.y, .int .i64 f.top, .int .i64 f.area] := (eval_get a' 56).symm.trans (hdd 19 56 (by omega) (by kernel_rfl) (by kernel_rfl))
              exact yields_value (w' := w'.alloc (.cells #[.int .i64 (G.x + (xm : Nat)), .int .i64 (G.z + (zm : Nat)), .int .i64 f.y, .int .i64 f.y, .int .i64 f.top, .int .i64 f.area] 61)) (.slice (some ⟨w'.heap.size, 0, none⟩) 1 1) (by go_simp) ⟨(New.refl w').alloc _, st_new w' ⟨G.x + (xm : Nat), G.z + (zm : Nat), f.y, f⟩ _⟩
          · intro vs w' nn hv
            have e0 : vs 0 = .slice ra rn rc := hv 0 (by omega)
            have s20 : Sl St.enc 6 w' (vs 20) [(⟨G.x + (xm : Nat), G.z + (zm : Nat), f.y, f⟩ : St)] := hv 20 (by omega)
            simp only [List.take_succ_cons, List.take_zero, List.drop_succ_cons, List.drop_zero, putL, Act.put, List.setIfInBounds_toArray, List.set_cons_zero, List.set_cons_succ, Nat.reduceAdd, Nat.zero_add]
            rw [e0]
            generalize vs 20 = u20 at *
            have nn5 := n5.trans nn
            have own6 := own_new own5 nn
            have hr6 : base ≤ w'.heap.size := by rw [HBS.out]; exact nn5.size
            clear hv e0 nn n5 own5 g0 g1 g2 g3 g4 f0 f1 f2 hr5
            replace s20 := Lib.hid s20
            go_wp2_with (at_builtin; refine wpList_append_sl rfl _ _ 58 rfl St.enc_len St.enc_one base 61 i0 _ 48 Tryz.underlying58 hi hz0 hz1 hz2 rfl (by decide) _ (stAt G i k) rfl own6 _ [(⟨G.x + (xm : Nat), G.z + (zm : Nat), f.y, f⟩ : St)] rfl s20.out (by unfold maxLen; simp; omega) (by simp; omega) hr6 ?_; intro v' w1 hown' hnew _; obtain ⟨a', d', N', hN', rfl⟩ := own_shape2 hown'; clear hN'; have nw1 := hnew W0 nn5 (Nat.le_of_eq HBS.out.symm))
            go_roundg (m - (k + 1))
            case measure => omega
            case rel => exact ⟨k + 1, a', N', d', by go_num, rfl, by omega, by omega, Lib.hid (by rw [HSU.out]; exact hown'), Lib.hid nw1⟩
        · obtain rfl : k = m := by omega
          have HO : Hid (wr.ownsRow base 61 6 (.slice ra rn rc) (stTo G (i + 1)).length ((stTo G (i + 1)).flatMap St.enc)) := Lib.hid (by
            have h := hown.out
            rw [stAt_all (by rw [HM.out]; exact Nat.le_refl _)] at h
            exact h)
          clear hown hs
          go_wp2_with fail
          go_roundg (n - (i + 1))
          case measure => have := HGK.out; omega
          case rel => exact ⟨i + 1, ra, rn, rc, by go_num, rfl, by omega, by omega, HO, hnr⟩
    · obtain rfl : i = n := by omega
      have HO : Hid (Sl St.enc 6 wr (.slice ra rn rc) (allG G)) := Lib.hid (by
        have h := own_sl St.enc_len hown.out
        rw [HN.out] at h
        exact h)
      have HOB : Hid (∀ b, (Value.slice ra rn rc).ownBlock = some b → w.heap.size ≤ b) := Lib.hid (fun b e => Nat.le_trans hbw (own_block hown.out b e))
      clear hown
      go_wp2_with fail
      go_ret
      exact ⟨_, rfl, HO.out, HOB.out, N0.out.trans hnr.out⟩

theorem rg_All_own (G : Gd) (w : World) (h : G.ok w) : Calls Tryz.prog 21 #[.agg #[.int .i64 G.x, .int .i64 G.z, .int .i64 G.w, .int .i64 G.d, .slice G.ga G.L.length G.gc]] w fun e w' => ∃ v, e = .returned v ∧ Sl St.enc 6 w' v (allG (colG G)) ∧ (∀ b, v.ownBlock = some b → w.heap.size ≤ b) ∧ New w w' := by
  rcases gE_two G with q | q
  · exact rg_All_fine G q w h
  · exact rg_All_bad G q w h
theorem rg_All (G : Gd) (w : World) (h : G.ok w) : Calls Tryz.prog 21 #[.agg #[.int .i64 G.x, .int .i64 G.z, .int .i64 G.w, .int .i64 G.d, .slice G.ga G.L.length G.gc]] w fun e w' => ∃ v, e = .returned v ∧ Sl St.enc 6 w' v (allG (colG G)) ∧ New w w' :=
  (rg_All_own G w h).mono fun e w' ⟨v, h1, h2, _, h3⟩ => ⟨v, h1, h2, h3⟩

end Go.Proofs.YtdbhlepbaepngaaGreatDoor
