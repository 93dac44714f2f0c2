import Derived.Test.YteoongcajfcgcaaClWZ6

/- The document's own corners over a column: plane, corner, inside. -/
namespace Go.Proofs.Yteoongcajfcgcaa
open Go.RowKit
set_option linter.unusedVariables false

set_option maxHeartbeats 4000000 in
set_option maxRecDepth 100000 in
theorem r_plane (T : TriR) (hk : okT T = true) (px pz den : Int) (w : World) (hx : -4096 ≤ px ∧ px ≤ 4096) (hz : -4096 ≤ pz ∧ pz ≤ 4096) (hd : 1 ≤ den ∧ den ≤ 64) :
    Calls Try.prog 54 #[.agg #[.int .i64 T.x0, .int .i64 T.y0, .int .i64 T.z0, .int .i64 T.x1, .int .i64 T.y1, .int .i64 T.z1, .int .i64 T.x2, .int .i64 T.y2, .int .i64 T.z2], .int .i64 px, .int .i64 pz, .int .i64 den] w fun e w' => e = .returned (.tuple #[.int .i64 (rcY T px pz den), .int .i64 (rcK T * den)]) ∧ New w w' := by
  have hs := ok_in hk
  unfold StP StV at hs
  have KF := Lib.hid (fun W => u_flat T (by omega) (by omega) W)
  obtain ⟨b0, b1, b2, b3, b4, b5, b6, b7⟩ := rcY_bd hk hx hz hd
  have hK : rcK T * den = if flatI T < 0 then -flatI T * den else flatI T * den := by rw [rcK_eq]; split <;> rfl
  have hY : rcY T px pz den = if flatI T < 0 then -(T.y0 * flatI T * den + tnx T * (px - T.x0 * den) + tnz T * (pz - T.z0 * den)) else T.y0 * flatI T * den + tnx T * (px - T.x0 * den) + tnz T * (pz - T.z0 * den) := rfl
  have enx : (T.y1 - T.y0) * (T.z2 - T.z0) - (T.y2 - T.y0) * (T.z1 - T.z0) = tnx T := by unfold tnx nxI; grind
  have enz : (T.y2 - T.y0) * (T.x1 - T.x0) - (T.y1 - T.y0) * (T.x2 - T.x0) = tnz T := by unfold tnz nzI; grind
  have m1 := mul_bd (a := T.y1 - T.y0) (b := T.z2 - T.z0) (A := 4096) (B := 32) (by omega) (by omega)
  have m2 := mul_bd (a := T.y2 - T.y0) (b := T.z1 - T.z0) (A := 4096) (B := 32) (by omega) (by omega)
  have m3 := mul_bd (a := T.y2 - T.y0) (b := T.x1 - T.x0) (A := 4096) (B := 32) (by omega) (by omega)
  have m4 := mul_bd (a := T.y1 - T.y0) (b := T.x2 - T.x0) (A := 4096) (B := 32) (by omega) (by omega)
  have m5 := mul_bd (a := flatI T) (b := den) (A := 2048) (B := 64) b0 (by omega)
  have m6 := mul_bd (a := -flatI T) (b := den) (A := 2048) (B := 64) (by omega) (by omega)
  generalize flatI T = fl at *
  generalize tnx T = nx at *
  generalize tnz T = nz at *
  generalize rcY T px pz den = Y at *
  generalize rcK T * den = D at *
  have HK := Lib.hid hK
  have HY := Lib.hid hY
  clear hk hK hY
  go_enter Try.func54, Try.ntmps54
  go_wp2_with fail
  refine (KF.out _).mono ?_
  rintro e W1 ⟨rfl, n1⟩
  have c0 : W1.cell? ⟨w.heap.size, 0, none⟩ = some (.int .i64 T.x0) := n1.keep (by go_simp)
  have c1 : W1.cell? ⟨w.heap.size, 1, none⟩ = some (.int .i64 T.y0) := n1.keep (by go_simp)
  have c2 : W1.cell? ⟨w.heap.size, 2, none⟩ = some (.int .i64 T.z0) := n1.keep (by go_simp)
  have c3 : W1.cell? ⟨w.heap.size, 3, none⟩ = some (.int .i64 T.x1) := n1.keep (by go_simp)
  have c4 : W1.cell? ⟨w.heap.size, 4, none⟩ = some (.int .i64 T.y1) := n1.keep (by go_simp)
  have c5 : W1.cell? ⟨w.heap.size, 5, none⟩ = some (.int .i64 T.z1) := n1.keep (by go_simp)
  have c6 : W1.cell? ⟨w.heap.size, 6, none⟩ = some (.int .i64 T.x2) := n1.keep (by go_simp)
  have c7 : W1.cell? ⟨w.heap.size, 7, none⟩ = some (.int .i64 T.y2) := n1.keep (by go_simp)
  have c8 : W1.cell? ⟨w.heap.size, 8, none⟩ = some (.int .i64 T.z2) := n1.keep (by go_simp)
  have hn : New w W1 := New.trans (by (repeat (first | (with_reducible exact New.refl _) | (with_reducible assumption) | ((with_reducible refine New.setB ?_ ?_ _); focus (first | omega | (simp; omega) | (simp; done))) | (with_reducible refine New.alloc ?_ _) | (with_reducible refine New.drew ?_) | (with_reducible refine New.drewN ?_ _) | (with_reducible refine New.hat ?_ _) | ((with_reducible apply New.snart); (with_reducible assumption))))) n1
  clear n1 KF
  by_cases hf : fl < 0
  · have t : decide (fl < 0) = true := decide_eq_true hf
    have HK2 : Hid (D = -fl * den) := Lib.hid (by rw [HK.out, if_pos hf])
    have HY2 := HY.out
    rw [if_pos hf] at HY2
    replace HY2 := Lib.hid HY2
    clear HK HY
    go_wp2_with fail
    go_ret2
    exact ⟨by rw [HK2.out, HY2.out]; rfl, hn⟩
  · have t : decide (fl < 0) = false := decide_eq_false hf
    have HK2 : Hid (D = fl * den) := Lib.hid (by rw [HK.out, if_neg hf])
    have HY2 := HY.out
    rw [if_neg hf] at HY2
    replace HY2 := Lib.hid HY2
    clear HK HY
    go_wp2_with fail
    go_ret2
    exact ⟨by rw [HK2.out, HY2.out]; rfl, hn⟩

theorem cg_other (x z y d : Int) : Nat.gcd (Nat.gcd d.natAbs y.natAbs) (Nat.gcd z.natAbs x.natAbs) = cg x z y d := by
  unfold cg
  apply Nat.dvd_antisymm
  · refine Nat.dvd_gcd (Nat.dvd_gcd (Nat.dvd_gcd ?_ ?_) ?_) ?_
    · exact Nat.dvd_trans (Nat.gcd_dvd_left _ _) (Nat.gcd_dvd_left _ _)
    · exact Nat.dvd_trans (Nat.gcd_dvd_right _ _) (Nat.gcd_dvd_right _ _)
    · exact Nat.dvd_trans (Nat.gcd_dvd_right _ _) (Nat.gcd_dvd_left _ _)
    · exact Nat.dvd_trans (Nat.gcd_dvd_left _ _) (Nat.gcd_dvd_right _ _)
  · refine Nat.dvd_gcd (Nat.dvd_gcd ?_ ?_) (Nat.dvd_gcd ?_ ?_)
    · exact Nat.dvd_trans (Nat.gcd_dvd_left _ _) (Nat.dvd_trans (Nat.gcd_dvd_left _ _) (Nat.gcd_dvd_left _ _))
    · exact Nat.gcd_dvd_right _ _
    · exact Nat.dvd_trans (Nat.gcd_dvd_left _ _) (Nat.gcd_dvd_right _ _)
    · exact Nat.dvd_trans (Nat.gcd_dvd_left _ _) (Nat.dvd_trans (Nat.gcd_dvd_left _ _) (Nat.gcd_dvd_right _ _))

set_option maxHeartbeats 4000000 in
set_option maxRecDepth 100000 in
theorem r_corner (T : TriR) (hk : okT T = true) (px pz den : Int) (w : World) (hx : -4096 ≤ px ∧ px ≤ 4096) (hz : -4096 ≤ pz ∧ pz ≤ 4096) (hd : 1 ≤ den ∧ den ≤ 64) :
    Calls Try.prog 32 #[.agg #[.int .i64 T.x0, .int .i64 T.y0, .int .i64 T.z0, .int .i64 T.x1, .int .i64 T.y1, .int .i64 T.z1, .int .i64 T.x2, .int .i64 T.y2, .int .i64 T.z2], .int .i64 px, .int .i64 pz, .int .i64 den] w fun e w' => e = .returned (.agg #[.int .i64 (rcC T px pz den).x, .int .i64 (rcC T px pz den).z, .int .i64 (rcC T px pz den).y, .int .i64 (rcC T px pz den).d]) ∧ New w w' := by
  have hK := rcK_pos hk
  obtain ⟨-, -, -, -, -, -, -, by'⟩ := rcY_bd hk hx hz hd
  have KP := fun W => r_plane T hk px pz den W hx hz hd
  have m1 := mul_bd (a := px) (b := rcK T) (A := 4096) (B := 2048) hx (by omega)
  have m2 := mul_bd (a := pz) (b := rcK T) (A := 4096) (B := 2048) hz (by omega)
  have m3 := mul_bd (a := rcK T) (b := den) (A := 2048) (B := 64) (by omega) (by omega)
  have hD0 : 0 < rcK T * den := Int.mul_pos (by omega) (by omega)
  have hdiv : rcK T * den / den = rcK T := Int.mul_ediv_cancel _ (by omega)
  obtain ⟨L, hL⟩ : ∃ L, L = rcC T px pz den := ⟨_, rfl⟩
  have hV := low_val (px * rcK T) (pz * rcK T) (rcY T px pz den) (rcK T * den)
  have hlb := low_bd (x := px * rcK T) (z := pz * rcK T) (y := rcY T px pz den) (show rcK T * den ≠ 0 by omega)
  change rcC T px pz den = _ at hV
  change (rcC T px pz den).x.natAbs ≤ _ ∧ (rcC T px pz den).z.natAbs ≤ _ ∧ (rcC T px pz den).y.natAbs ≤ _ ∧ (rcC T px pz den).d.natAbs ≤ _ at hlb
  rw [← hL] at hV hlb
  rw [← hL]
  clear hL
  rw [Int.sign_eq_one_of_pos hD0, Int.one_mul] at hV
  generalize rcY T px pz den = Y at *
  obtain ⟨Dn, hDn⟩ : ∃ Dn : Nat, (Dn : Int) = rcK T * den := ⟨(rcK T * den).toNat, by omega⟩
  rw [← hDn] at KP hV hlb m3 hD0 hdiv
  clear hDn
  generalize rcK T = K at *
  obtain ⟨X, hX⟩ : ∃ X, X = px * K := ⟨_, rfl⟩
  obtain ⟨Z, hZ⟩ : ∃ Z, Z = pz * K := ⟨_, rfl⟩
  rw [← hX] at hV hlb m1
  rw [← hZ] at hV hlb m2
  have hX' := hX.symm
  have hZ' := hZ.symm
  clear hX hZ
  obtain ⟨g, hg⟩ : ∃ g, g = cg X Z Y Dn := ⟨_, rfl⟩
  have hg0 : 0 < g := by rw [hg]; exact cg_pos (by omega)
  have KG1 := Lib.hid (fun W => r_greatest X.natAbs Z.natAbs W (by omega) (by omega))
  have KG2 := Lib.hid (fun W => r_greatest Y.natAbs Dn W (by omega) (by omega))
  have KG3 : ∀ W, Calls Try.prog 55 #[.int .i64 (Nat.gcd Z.natAbs X.natAbs : Nat), .int .i64 (Nat.gcd Dn Y.natAbs : Nat)] W fun e w' => e = .returned (.int .i64 (g : Nat)) ∧ New W w' := fun W => by
    have b1 : Nat.gcd Z.natAbs X.natAbs ≤ 4611686018427387904 := by
      rcases Nat.eq_zero_or_pos Z.natAbs with q | q
      · rw [q, Nat.gcd_zero_left]; omega
      · exact Nat.le_trans (Nat.gcd_le_left _ q) (by omega)
    have b2 : Nat.gcd Dn Y.natAbs ≤ 4611686018427387904 := Nat.le_trans (Nat.gcd_le_left _ (by omega)) (by omega)
    have k := r_greatest (Nat.gcd Z.natAbs X.natAbs) (Nat.gcd Dn Y.natAbs) W b1 b2
    have e := cg_other X Z Y (Dn : Int)
    rw [Int.natAbs_natCast] at e
    rw [e, ← hg] at k
    exact k
  replace KG3 := Lib.hid KG3
  rw [← hg] at hV
  have q0 : ¬ ((g : Int) = 0) := by omega
  have hVx : X.tdiv (g : Int) = L.x := by rw [hV]
  have hVz : Z.tdiv (g : Int) = L.z := by rw [hV]
  have hVy : Y.tdiv (g : Int) = L.y := by rw [hV]
  have hVd : (Dn : Int).tdiv (g : Int) = L.d := by rw [hV]
  have hVd' : (Dn : Int) / (g : Int) = L.d := by rw [← hVd, Int.tdiv_eq_ediv_of_nonneg (by omega)]
  obtain ⟨l1, l2, l3, l4⟩ := hlb
  have A1 := Lib.hid (fun W => r_abs X W (by omega))
  have A2 := Lib.hid (fun W => r_abs Z W (by omega))
  have A3 := Lib.hid (fun W => r_abs Y W (by omega))
  have wx : IntKind.i64.wrap L.x = L.x := IntWalk.i64_in _ (by omega)
  have wz : IntKind.i64.wrap L.z = L.z := IntWalk.i64_in _ (by omega)
  have wy : IntKind.i64.wrap L.y = L.y := IntWalk.i64_in _ (by omega)
  have wd : IntKind.i64.wrap L.d = L.d := IntWalk.i64_in _ (by omega)
  have wX : IntKind.i64.wrap X = X := IntWalk.i64_in _ (by omega)
  have wZ : IntKind.i64.wrap Z = Z := IntWalk.i64_in _ (by omega)
  have hdt : (Dn : Int).tdiv den = K := by rw [Int.tdiv_eq_ediv_of_nonneg (by omega)]; exact hdiv
  have F8 := Lib.hid (And.intro hVx (And.intro hVz (And.intro hVy (And.intro hVd hVd'))))
  have F9 := Lib.hid (And.intro wx (And.intro wz (And.intro wy (And.intro wd (And.intro wX wZ)))))
  clear hg hV hVx hVz hVy hVd hVd' wx wz wy wd wX wZ hk
  replace KP := Lib.hid KP
  go_enter Try.func32, Try.ntmps32
  go_wp2_with fail
  refine (KP.out _).mono ?_
  rintro e W1 ⟨rfl, n1⟩
  have f0 : W1.frozen? ⟨w.heap.size + 1, 0, none⟩ = false := n1.keepF (v := .int .i64 0) (by go_simp) (by go_simp)
  have e0 : W1.cell? ⟨w.heap.size + 1, 0, none⟩ = some (.int .i64 0) := n1.keep (by go_simp)
  have f1 : W1.frozen? ⟨w.heap.size + 1, 1, none⟩ = false := n1.keepF (v := .int .i64 0) (by go_simp) (by go_simp)
  have e1 : W1.cell? ⟨w.heap.size + 1, 1, none⟩ = some (.int .i64 0) := n1.keep (by go_simp)
  have f2 : W1.frozen? ⟨w.heap.size + 1, 2, none⟩ = false := n1.keepF (v := .int .i64 0) (by go_simp) (by go_simp)
  have e2 : W1.cell? ⟨w.heap.size + 1, 2, none⟩ = some (.int .i64 0) := n1.keep (by go_simp)
  have f3 : W1.frozen? ⟨w.heap.size + 1, 3, none⟩ = false := n1.keepF (v := .int .i64 0) (by go_simp) (by go_simp)
  have e3 : W1.cell? ⟨w.heap.size + 1, 3, none⟩ = some (.int .i64 0) := n1.keep (by go_simp)
  have hn : New w W1 := New.trans (by (repeat (first | (with_reducible exact New.refl _) | (with_reducible assumption) | ((with_reducible refine New.setB ?_ ?_ _); focus (first | omega | (simp; omega) | (simp; done))) | (with_reducible refine New.alloc ?_ _) | (with_reducible refine New.drew ?_) | (with_reducible refine New.drewN ?_ _) | (with_reducible refine New.hat ?_ _) | ((with_reducible apply New.snart); (with_reducible assumption))))) n1
  clear n1 KP
  go_wp2_with fail
  refine (A1.out _).mono ?_
  rintro e W2 ⟨rfl, rfl⟩
  go_wp2_with fail
  refine (A2.out _).mono ?_
  rintro e W2 ⟨rfl, rfl⟩
  go_wp2_with fail
  refine (KG1.out _).mono ?_
  rintro e W2 ⟨rfl, n2⟩
  replace f0 := New.keepF n2 e0 f0
  replace e0 := New.keep n2 e0
  replace f1 := New.keepF n2 e1 f1
  replace e1 := New.keep n2 e1
  replace f2 := New.keepF n2 e2 f2
  replace e2 := New.keep n2 e2
  replace f3 := New.keepF n2 e3 f3
  replace e3 := New.keep n2 e3
  replace hn := hn.trans n2
  clear n2
  go_wp2_with fail
  refine (A3.out _).mono ?_
  rintro e W3 ⟨rfl, rfl⟩
  go_wp2_with fail
  refine (KG2.out _).mono ?_
  rintro e W3 ⟨rfl, n2⟩
  replace f0 := New.keepF n2 e0 f0
  replace e0 := New.keep n2 e0
  replace f1 := New.keepF n2 e1 f1
  replace e1 := New.keep n2 e1
  replace f2 := New.keepF n2 e2 f2
  replace e2 := New.keep n2 e2
  replace f3 := New.keepF n2 e3 f3
  replace e3 := New.keep n2 e3
  replace hn := hn.trans n2
  clear n2
  go_wp2_with fail
  refine (KG3.out _).mono ?_
  rintro e W4 ⟨rfl, n2⟩
  replace f0 := New.keepF n2 e0 f0
  replace e0 := New.keep n2 e0
  replace f1 := New.keepF n2 e1 f1
  replace e1 := New.keep n2 e1
  replace f2 := New.keepF n2 e2 f2
  replace e2 := New.keep n2 e2
  replace f3 := New.keepF n2 e3 f3
  replace e3 := New.keep n2 e3
  replace hn := hn.trans n2
  clear n2 KG1 KG2 KG3 A1 A2 A3
  go_upto_region 8 with fail
  obtain ⟨hVx, hVz, hVy, hVd, hVd'⟩ := F8.out
  obtain ⟨wx, wz, wy, wd, wX, wZ⟩ := F9.out
  go_region
  all_goals
    go_wp2_with fail
    refine bodyPost_ret (v := .agg #[.int .i64 L.x, .int .i64 L.z, .int .i64 L.y, .int .i64 L.d]) (by simp [results, Try.results32, go_sem, *]) rfl ?_
    exact ⟨rfl, by (repeat (first | (with_reducible exact New.refl _) | (with_reducible assumption) | ((with_reducible refine New.setB ?_ ?_ _); focus (first | omega | (simp; omega) | (simp; done))) | (with_reducible refine New.alloc ?_ _) | (with_reducible refine New.drew ?_) | (with_reducible refine New.drewN ?_ _) | (with_reducible refine New.hat ?_ _) | ((with_reducible apply New.snart); (with_reducible assumption))))⟩

end Go.Proofs.Yteoongcajfcgcaa
