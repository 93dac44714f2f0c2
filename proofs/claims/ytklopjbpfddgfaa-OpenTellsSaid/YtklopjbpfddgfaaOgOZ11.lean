import Derived.Test.YtklopjbpfddgfaaOgNZ11

/- Package open: stands. -/
namespace Go.Proofs.Ytklopjbpfddgfaa
open Go.RowKit
set_option linter.unusedVariables false

set_option maxHeartbeats 4000000 in
set_option maxRecDepth 100000 in
theorem og_stands (G : Gd) (hE : gE G = 0) (w : World) (h : G.ok w) : Calls Try.prog 26 #[.agg #[.int .i64 G.x, .int .i64 G.z, .int .i64 G.w, .int .i64 G.d, .slice G.ga G.L.length G.gc]] w fun e w' => ∃ v base, e = .returned v ∧ w.heap.size ≤ base ∧ w'.ownsRow base 68 6 v (allG G).length ((allG G).flatMap St.enc) ∧ New w w' := by
  obtain ⟨i0, hi, hz0, hz1, hz2⟩ := info_parts st_info
  have hb := placeB_iff.1 (gd_is hE).1
  have HE := Lib.hid hE
  have HLN := Lib.hid (gd_is hE).2.1
  have hlen : G.L.length ≤ 4096 := by
    have := mul_64 hb.2.2.1.1 hb.2.2.1.2 hb.2.2.2.1 hb.2.2.2.2
    have := (gd_is hE).2.1
    omega
  have KA := Lib.hid (fun x z W n => og_at0 G hE x z w W (n : New w W) h)
  obtain ⟨n, hn⟩ : ∃ n, n = G.L.length := ⟨_, rfl⟩
  rw [← hn] at KA hlen ⊢
  have HN := Lib.hid hn
  clear hn h hE
  obtain ⟨wN, hwN⟩ : ∃ q, q = G.w.toNat := ⟨_, rfl⟩
  obtain ⟨dN, hdN⟩ : ∃ q, q = G.d.toNat := ⟨_, rfl⟩
  have HW := Lib.hid hwN
  have HD := Lib.hid hdN
  have hwi : G.w = wN := by omega
  have hdi : G.d = dN := by omega
  rw [hwi, hdi] at KA ⊢
  have hxw : IntKind.i64.wrap (G.x + wN) = G.x + wN := IntWalk.i64_in _ (by omega)
  have hzd : IntKind.i64.wrap (G.z + dN) = G.z + dN := IntWalk.i64_in _ (by omega)
  have HB := Lib.hid hb
  have hw64 : wN ≤ 64 := by omega
  have hd64 : dN ≤ 64 := by omega
  have hx64 : -64 ≤ G.x ∧ G.x ≤ 64 := by omega
  have hz64 : -64 ≤ G.z ∧ G.z ≤ 64 := by omega
  have hwd : n = dN * wN := by
    have h1 := HLN.out
    rw [hwi, hdi, ← HN.out] at h1
    have h2 : (n : Int) = ((wN * dN : Nat) : Int) := by rw [h1]; push_cast; rfl
    rw [Nat.mul_comm]
    exact Int.ofNat.inj h2
  have HWD := Lib.hid hwd
  have HWI := Lib.hid (And.intro hwi hdi)
  clear hwN hdN hwi hdi hb hwd
  go_enter Try.func26, Try.ntmps26
  go_wp2_with fail
  generalize hW : World.alloc _ _ = W0
  have n0 : New w W0 := by subst hW; (repeat (first | (with_reducible exact New.refl _) | (with_reducible assumption) | ((with_reducible refine New.setB ?_ ?_ _); focus (first | omega | (simp; omega) | (simp; done))) | (with_reducible refine New.alloc ?_ _) | (with_reducible refine New.drew ?_) | (with_reducible refine New.drewN ?_ _) | (with_reducible refine New.hat ?_ _) | ((with_reducible apply New.snart); (with_reducible assumption))))
  have g0 : W0.cell? ⟨w.heap.size, 0, none⟩ = some (.int .i64 G.x) := by subst hW; go_simp
  have g1 : W0.cell? ⟨w.heap.size, 1, none⟩ = some (.int .i64 G.z) := by subst hW; go_simp
  have g2 : W0.cell? ⟨w.heap.size, 2, none⟩ = some (.int .i64 wN) := by subst hW; go_simp
  have g3 : W0.cell? ⟨w.heap.size, 3, none⟩ = some (.int .i64 dN) := by subst hW; go_simp
  have g4 : W0.cell? ⟨w.heap.size, 4, none⟩ = some (.slice G.ga n G.gc) := by subst hW; go_simp
  clear hW
  obtain ⟨base, hbase⟩ : ∃ q, q = W0.heap.size := ⟨_, rfl⟩
  have HBS := Lib.hid hbase
  have hbw : w.heap.size ≤ base := by rw [hbase]; exact n0.size
  have N0 := Lib.hid n0
  have HG := Lib.hid (fun W (q : New W0 W) => And.intro (q.keep g0) (And.intro (q.keep g1) (And.intro (q.keep g2) (And.intro (q.keep g3) (q.keep g4)))))
  clear hbase n0
  go_loopg [4, 3] dN (fun gk s4 s3 wr => ∃ (zz : Nat) (ra : Option Addr) (rn rc : Nat), s4 = .int .i64 (G.z + zz) ∧ s3 = .slice ra rn rc ∧ zz ≤ dN ∧ dN - zz ≤ gk ∧ Hid (wr.ownsRow base 68 6 (.slice ra rn rc) (stTo G (zz * wN)).length ((stTo G (zz * wN)).flatMap St.enc)) ∧ Hid (New W0 wr))
  case atStart => exact ⟨0, none, 0, 0, by simp, rfl, by omega, by omega, Lib.hid (by rw [Nat.zero_mul]; exact World.ownsRow_nil _ _ _ _), Lib.hid (New.refl _)⟩
  case round =>
    obtain ⟨zz, ra, rn, rc, rfl, rfl, hzz, hgk, hown, hnr⟩ := hrel
    clear g0 g1 g2 g3 g4
    obtain ⟨g0, g1, g2, g3, g4⟩ := HG.out _ hnr.out
    by_cases hlt : zz < dN
    · have hle : decide (G.z + (zz : Int) < G.z + dN) = true := decide_eq_true (by omega)
      have hzw : IntKind.i64.wrap (G.z + zz + 1) = G.z + ((zz + 1 : Nat) : Int) := by rw [IntWalk.i64_in _ (by omega)]; omega
      have HGK := Lib.hid hgk
      clear hgk
      rename World => wA
      go_wp2_with fail
      go_loopg [5, 3] wN (fun gk s5 s3 wr => ∃ (xx : Nat) (ra : Option Addr) (rn rc : Nat), s5 = .int .i64 (G.x + xx) ∧ s3 = .slice ra rn rc ∧ xx ≤ wN ∧ wN - xx ≤ gk ∧ Hid (wr.ownsRow base 68 6 (.slice ra rn rc) (stTo G (zz * wN + xx)).length ((stTo G (zz * wN + xx)).flatMap St.enc)) ∧ Hid (New W0 wr))
      case atStart => exact ⟨0, ra, rn, rc, by simp, rfl, by omega, by omega, hown, hnr⟩
      case round =>
        clear hown g0 g1 g2 g3 g4 hnr
        obtain ⟨xx, ra, rn, rc, rfl, rfl, hxx, hgk, hown, hnr⟩ := hrel
        obtain ⟨g0, g1, g2, g3, g4⟩ := HG.out _ hnr.out
        by_cases hxt : xx < wN
        · have hle2 : decide (G.x + (xx : Int) < G.x + wN) = true := decide_eq_true (by omega)
          have hxw2 : IntKind.i64.wrap (G.x + xx + 1) = G.x + ((xx + 1 : Nat) : Int) := by rw [IntWalk.i64_in _ (by omega)]; omega
          obtain ⟨q1, q2, q3, q4, q5⟩ := gd_step (G := G) HE.out (a := zz) (b := xx) (by rw [HWI.out.2]; omega) (by rw [HWI.out.1]; omega)
          rw [← HW.out] at q2 q3 q4 q5
          have hat := atG_in HE.out q1
          have hcol : colL G (zz * wN + xx) = atG G (G.x + xx) (G.z + zz) := by
            rw [hat, colL_at q3]
            congr 1
            exact q2.symm
          have hst : ∀ f, stOf G (zz * wN + xx) f = ⟨G.x + xx, G.z + zz, f.y, f⟩ := fun f => by
            unfold stOf
            rw [← HW.out, q4, q5]
          have hc8 := colL_len HE.out (zz * wN + xx)
          have HCOL := Lib.hid hcol
          have HST := Lib.hid hst
          have HQ3 := Lib.hid q3
          have HGK2 := Lib.hid hgk
          clear q1 q2 q3 q4 q5 hat hcol hst hgk
          go_wp2_with fail
          refine (KA.out _ _ _ (N0.out.trans hnr.out)).mono ?_
          rintro e w2 ⟨v, rfl, hs, n2⟩
          rw [← HCOL.out] at hs
          obtain ⟨la, lc, rfl, -, -, -, hrow⟩ := hs
          have HROW := Lib.hid hrow
          have hnr2 := Lib.hid (hnr.out.trans n2)
          have hown2 : Hid (w2.ownsRow base 68 6 (.slice ra rn rc) (stTo G (zz * wN + xx)).length ((stTo G (zz * wN + xx)).flatMap St.enc)) := Lib.hid (own_new hown.out n2)
          clear hrow n2 hown hnr g0 g1 g2 g3 g4
          obtain ⟨nn, hnn⟩ : ∃ q, q = zz * wN + xx := ⟨_, rfl⟩
          rw [← hnn] at HROW hown2 HST HCOL HQ3 hc8 ⊢
          have HNN := Lib.hid hnn
          clear hnn
          obtain ⟨m, hm⟩ : ∃ q, q = (colL G nn).length := ⟨_, rfl⟩
          rw [← hm] at hc8 ⊢
          have HM := Lib.hid hm
          clear hm
          rename World => wB
          go_wp2_with fail
          go_loopg [41, 3] m (fun gk s41 s3 wr => ∃ (k : Nat) (ra : Option Addr) (rn rc : Nat), s41 = .int .i64 k ∧ s3 = .slice ra rn rc ∧ k ≤ m ∧ m - k ≤ gk ∧ Hid (wr.ownsRow base 68 6 (.slice ra rn rc) (stAt G nn k).length ((stAt G nn k).flatMap St.enc)) ∧ Hid (New W0 wr))
          case atStart => exact ⟨0, ra, rn, rc, rfl, rfl, by omega, by omega, Lib.hid (by rw [stAt_zero]; exact hown2.out), hnr2⟩
          case round =>
            clear hown2 hnr2
            obtain ⟨k, ra, rn, rc, rfl, rfl, hk, hgk, hown, hnr⟩ := hrel
            by_cases hkt : k < m
            · have hkl : k < (colL G nn).length := by rw [← HM.out]; exact hkt
              obtain ⟨b, off, rfl, hA⟩ := HROW.out (by omega)
              obtain ⟨c0, c1, c2⟩ := Fl.cells (hA.keep (N0.out.trans hnr.out)) k hkl
              have hsx := HST.out (colL G nn)[k]
              have hsu := stAt_succ hkl
              rw [hsx] at hsu
              obtain ⟨f, hf⟩ : ∃ f, f = (colL G nn)[k] := ⟨_, rfl⟩
              rw [← hf] at c0 c1 c2 hsu
              have HSU := Lib.hid hsu
              have hsl := stAt_len HE.out nn k
              have hq3 : nn < n := by rw [HN.out]; exact HQ3.out
              have nr := hnr.out
              have hbz := World.block_lt_of_cell? _ _ c0
              have hrz : base ≤ wr.heap.size := by rw [HBS.out]; exact nr.size
              clear hA hsx hsu hf hnr
              go_upto_region 11 with fail
              refine Code.at (fun W5 hW => ?_)
              have n5 : New W0 W5 := by subst hW; (repeat (first | (with_reducible exact New.refl _) | (with_reducible assumption) | ((with_reducible refine New.setB ?_ ?_ _); focus (first | omega | (simp; omega) | (simp; done))) | (with_reducible refine New.alloc ?_ _) | (with_reducible refine New.drew ?_) | (with_reducible refine New.drewN ?_ _) | (with_reducible refine New.hat ?_ _) | ((with_reducible apply New.snart); (with_reducible assumption))))
              have f0 : W5.cell? ⟨wr.heap.size, 0, none⟩ = some (.int .i64 f.y) := by subst hW; go_simp
              have f1 : W5.cell? ⟨wr.heap.size, 1, none⟩ = some (.int .i64 f.top) := by subst hW; go_simp
              have f2 : W5.cell? ⟨wr.heap.size, 2, none⟩ = some (.int .i64 f.area) := by subst hW; go_simp
              have own5 : W5.ownsRow base 68 6 (.slice ra rn rc) (stAt G nn k).length ((stAt G nn k).flatMap St.enc) := own_new hown.out (by subst hW; (repeat (first | (with_reducible exact New.refl _) | (with_reducible assumption) | ((with_reducible refine New.setB ?_ ?_ _); focus (first | omega | (simp; omega) | (simp; done))) | (with_reducible refine New.alloc ?_ _) | (with_reducible refine New.drew ?_) | (with_reducible refine New.drewN ?_ _) | (with_reducible refine New.hat ?_ _) | ((with_reducible apply New.snart); (with_reducible assumption)))))
              have hr5 : base ≤ W5.heap.size := by rw [HBS.out]; exact n5.size
              clear hW hown nr c0 c1 c2 hrz
              go_wp2_with (at_builtin; refine wpList_append_sl rfl _ _ 64 rfl St.enc_len St.enc_one base 68 i0 _ 48 Try.underlying64 hi hz0 hz1 hz2 rfl (by decide) _ (stAt G nn k) rfl (own_new own5 (by (repeat (first | (with_reducible exact New.refl _) | (with_reducible assumption) | ((with_reducible refine New.setB ?_ ?_ _); focus (first | omega | (simp; omega) | (simp; done))) | (with_reducible refine New.alloc ?_ _) | (with_reducible refine New.drew ?_) | (with_reducible refine New.drewN ?_ _) | (with_reducible refine New.hat ?_ _) | ((with_reducible apply New.snart); (with_reducible assumption)))))) _ [(⟨G.x + xx, G.z + zz, f.y, f⟩ : St)] rfl (st_new _ ⟨G.x + xx, G.z + zz, f.y, f⟩ _) (by unfold maxLen; simp; omega) (by simp; omega) (by simp; omega) ?_; intro v' w1 hown' hnew _; obtain ⟨a', d', N', hN', rfl⟩ := own_shape2 hown'; clear hN'; have nw1 := hnew W0 (by (repeat (first | (with_reducible exact New.refl _) | (with_reducible assumption) | ((with_reducible refine New.setB ?_ ?_ _); focus (first | omega | (simp; omega) | (simp; done))) | (with_reducible refine New.alloc ?_ _) | (with_reducible refine New.drew ?_) | (with_reducible refine New.drewN ?_ _) | (with_reducible refine New.hat ?_ _) | ((with_reducible apply New.snart); (with_reducible assumption))))) (Nat.le_of_eq HBS.out.symm))
              go_roundg (m - (k + 1))
              case measure => omega
              case rel => exact ⟨k + 1, a', N', d', by go_num, rfl, by omega, by omega, Lib.hid (by rw [HSU.out]; exact hown'), Lib.hid nw1⟩
            · obtain rfl : k = m := by omega
              have HO : Hid (wr.ownsRow base 68 6 (.slice ra rn rc) (stTo G (zz * wN + (xx + 1))).length ((stTo G (zz * wN + (xx + 1))).flatMap St.enc)) := Lib.hid (by
                have h := hown.out
                rw [stAt_all (by rw [HM.out]; exact Nat.le_refl _), HNN.out, Nat.add_assoc] at h
                exact h)
              clear hown
              go_wp2_with fail
              go_roundg (wN - (xx + 1))
              case measure => have := HGK2.out; omega
              case rel => exact ⟨xx + 1, ra, rn, rc, by go_num, rfl, by omega, by omega, HO, hnr⟩
        · have hle2 : decide (G.x + (xx : Int) < G.x + wN) = false := decide_eq_false (by omega)
          obtain rfl : xx = wN := by omega
          have HO : Hid (wr.ownsRow base 68 6 (.slice ra rn rc) (stTo G ((zz + 1) * xx)).length ((stTo G ((zz + 1) * xx)).flatMap St.enc)) := Lib.hid (by
            have h := hown.out
            have e : (zz + 1) * xx = zz * xx + xx := by rw [Nat.add_mul, Nat.one_mul]
            rw [e]
            exact h)
          clear hown
          go_wp2_with fail
          go_roundg (dN - (zz + 1))
          case measure => have := HGK.out; omega
          case rel => exact ⟨zz + 1, ra, rn, rc, by go_num, rfl, by omega, by omega, HO, hnr⟩
    · have hle : decide (G.z + (zz : Int) < G.z + dN) = false := decide_eq_false (by omega)
      obtain rfl : zz = dN := by omega
      have HO : Hid (wr.ownsRow base 68 6 (.slice ra rn rc) (allG G).length ((allG G).flatMap St.enc)) := Lib.hid (by
        have h := hown.out
        rw [← HWD.out, HN.out] at h
        exact h)
      go_wp2_with fail
      go_ret
      exact ⟨_, _, rfl, hbw, HO.out, N0.out.trans hnr.out⟩

end Go.Proofs.Ytklopjbpfddgfaa
