/- Package clip: the law of corners. -/
import Derived.Test.YteoongcajfcgcaaClR
namespace Go.Proofs.Yteoongcajfcgcaa
open Go.RowKit
set_option linter.unusedVariables false

def lowB (lo : Int) (l : List Co) : Bool := l.any fun c => decide (c.y < (lo + 1) * c.d)
def highB (hi : Int) (l : List Co) : Bool := l.any fun c => decide ((hi - 1) * c.d < c.y)
theorem lowB_snoc (lo : Int) (l : List Co) (c : Co) : lowB lo (l ++ [c]) = (lowB lo l || decide (c.y < (lo + 1) * c.d)) := by unfold lowB; rw [List.any_append]; simp
theorem highB_snoc (hi : Int) (l : List Co) (c : Co) : highB hi (l ++ [c]) = (highB hi l || decide ((hi - 1) * c.d < c.y)) := by unfold highB; rw [List.any_append]; simp
theorem lowB_all {T : TriR} {x z : Int} (h : ovB T x z = true) {R : List Co} (hm : ∀ c, c ∈ R ↔ c ∈ comL T x z) : lowB (ovLo T x z) R = true ∧ highB (ovHi T x z) R = true := by
  obtain ⟨⟨a, ha, ea⟩, ⟨b, hb, eb⟩⟩ := ov_got h
  have hE := (ov_iff.1 h).1
  unfold lowB highB
  rw [List.any_eq_true, List.any_eq_true]
  refine ⟨⟨a, (hm a).2 ha, ?_⟩, ⟨b, (hm b).2 hb, ?_⟩⟩
  · rw [decide_eq_true_eq, ea]; exact (fl_spec (fact hE ha).ok).2
  · rw [decide_eq_true_eq, eb]; exact (cl_spec (fact hE hb).ok).2
theorem between_all {T : TriR} {x z : Int} (h : ovB T x z = true) {c : Co} (hc : c ∈ comL T x z) : ovLo T x z * c.d ≤ c.y ∧ c.y ≤ ovHi T x z * c.d := by
  have F := fact (ov_iff.1 h).1 hc
  have k := ov_mem h hc
  have hd : 0 ≤ c.d := by have := F.ok.1; omega
  exact ⟨Int.le_trans (Int.mul_le_mul_of_nonneg_right k.1 hd) (fl_spec F.ok).1, Int.le_trans (cl_spec F.ok).1 (Int.mul_le_mul_of_nonneg_right k.2 hd)⟩
theorem rise_ne {R : List Co} (h : R.Pairwise ltC) {i j : Nat} (hi : i < R.length) (hj : j < R.length) (hij : i < j) : ¬ R[j] = R[i] := by
  intro e
  have := List.pairwise_iff_getElem.1 h i j hi hj hij
  rw [e] at this
  exact ltC_irrefl _ this

set_option maxHeartbeats 8000000 in
set_option maxRecDepth 100000 in
theorem l_corners (T : TriR) (x z : Int) (w : World) :
    Calls Try.prog 6 #[.agg #[.int .i64 T.i, .int .i64 T.x0, .int .i64 T.y0, .int .i64 T.z0, .int .i64 T.x1, .int .i64 T.y1, .int .i64 T.z1, .int .i64 T.x2, .int .i64 T.y2, .int .i64 T.z2], .int .i64 x, .int .i64 z] w fun e w' => e = .returned (.bool true) ∧ New w w' := by
  have KW := Lib.hid (fun W => k_wakes W)
  have KO := fun W => k_over T x z W
  cases hb : ovB T x z with
  | false =>
    obtain ⟨e1, e2⟩ := ov_no hb
    rw [hb, e1, e2] at KO
    have KC : Hid (∀ W, Calls Try.prog 9 #[.agg #[.int .i64 T.i, .int .i64 T.x0, .int .i64 T.y0, .int .i64 T.z0, .int .i64 T.x1, .int .i64 T.y1, .int .i64 T.z1, .int .i64 T.x2, .int .i64 T.y2, .int .i64 T.z2], .int .i64 x, .int .i64 z] W fun e w' => ∃ a cap, e = .returned (.tuple #[.slice a 0 cap, .int .i64 (corE T x z)]) ∧ New W w') := Lib.hid (fun W => by
      by_cases hE : corE T x z = 0
      · rw [hE]
        refine (k_cor T x z W hE).mono ?_
        rintro e w' ⟨v, R, rfl, hs, hc, hn⟩
        obtain ⟨a, cap, rfl, -, -, -, -⟩ := hs
        have h0 : R.length = 0 := by
          rcases Nat.eq_zero_or_pos R.length with q | q
          · exact q
          · exfalso
            have hm := (hc.mem R[0]).1 (List.getElem_mem q)
            have := ov_iff.2 ⟨hE, _, hm⟩
            rw [hb] at this
            cases this
        rw [h0]
        exact ⟨a, cap, rfl, hn⟩
      · refine (k_cor_bad T x z W hE).mono ?_
        rintro e w' ⟨rfl, hn⟩
        exact ⟨none, 0, rfl, hn⟩)
    generalize corE T x z = er at *
    have hee : (er != er) = false := by simp
    replace KO := Lib.hid KO
    clear e1 e2 hb
    go_enter Try.func6, Try.ntmps6
    go_wp2_with fail
    refine (KC.out _).mono ?_
    rintro e W1 ⟨a, cap, rfl, n1⟩
    have c0 : W1.cell? ⟨w.heap.size, 0, none⟩ = some (.int .i64 T.i) := n1.keep (by go_simp)
    have c1 : W1.cell? ⟨w.heap.size, 1, none⟩ = some (.int .i64 T.x0) := n1.keep (by go_simp)
    have c2 : W1.cell? ⟨w.heap.size, 2, none⟩ = some (.int .i64 T.y0) := n1.keep (by go_simp)
    have c3 : W1.cell? ⟨w.heap.size, 3, none⟩ = some (.int .i64 T.z0) := n1.keep (by go_simp)
    have c4 : W1.cell? ⟨w.heap.size, 4, none⟩ = some (.int .i64 T.x1) := n1.keep (by go_simp)
    have c5 : W1.cell? ⟨w.heap.size, 5, none⟩ = some (.int .i64 T.y1) := n1.keep (by go_simp)
    have c6 : W1.cell? ⟨w.heap.size, 6, none⟩ = some (.int .i64 T.z1) := n1.keep (by go_simp)
    have c7 : W1.cell? ⟨w.heap.size, 7, none⟩ = some (.int .i64 T.x2) := n1.keep (by go_simp)
    have c8 : W1.cell? ⟨w.heap.size, 8, none⟩ = some (.int .i64 T.y2) := n1.keep (by go_simp)
    have c9 : W1.cell? ⟨w.heap.size, 9, none⟩ = some (.int .i64 T.z2) := n1.keep (by go_simp)
    have hn : New w W1 := New.trans (by (repeat (first | (with_reducible exact New.refl _) | (with_reducible assumption) | ((with_reducible refine New.setB ?_ ?_ _); focus (first | omega | (simp; omega) | (simp; done))) | (with_reducible refine New.alloc ?_ _) | (with_reducible refine New.drew ?_) | (with_reducible refine New.drewN ?_ _) | (with_reducible refine New.hat ?_ _) | ((with_reducible apply New.snart); (with_reducible assumption))))) n1
    clear n1 KC
    go_wp2_with fail
    refine (KO.out _).mono ?_
    rintro e W2 ⟨rfl, n2⟩
    replace hn := hn.trans n2
    clear n2 KO c0 c1 c2 c3 c4 c5 c6 c7 c8 c9
    go_wp2_with fail
    refine wp_loop_rounds 1 ?_
    rw [rounds_succ]
    go_wp2_with fail
    refine (KW.out _).mono ?_
    rintro e W3 ⟨rfl, n2⟩
    go_wp2_with fail
    go_ret
    exact ⟨rfl, hn.trans n2⟩
  | true =>
    have hE := (ov_iff.1 hb).1
    obtain ⟨hk, -, -, hx, hz⟩ := cor_zero hE
    rw [hb, hE] at KO
    have hbd := ov_bd T x z
    have KK := Lib.hid (fun W => k_cor T x z W hE)
    have HF := Lib.hid (fun c hc => fact hE (c := c) hc)
    have HB := Lib.hid (fun c hc => between_all hb (c := c) hc)
    have HL := Lib.hid (fun (R : List Co) hm => lowB_all hb (R := R) hm)
    have HP : Hid (∀ R, IsCor T x z R → 0 < R.length) := Lib.hid (fun R hc => by
      obtain ⟨-, c, hm⟩ := ov_iff.1 hb
      exact List.length_pos_of_mem ((hc.mem c).2 hm))
    generalize ovLo T x z = lo at *
    generalize ovHi T x z = hi at *
    replace KO := Lib.hid KO
    clear hE hb hk
    go_enter Try.func6, Try.ntmps6
    go_wp2_with fail
    refine (KK.out _).mono ?_
    rintro e W1 ⟨v, R, rfl, hs, hc, n1⟩
    obtain ⟨a1, cap1, rfl, cl1, cm1, -, hr1⟩ := hs
    have c0 : W1.cell? ⟨w.heap.size, 0, none⟩ = some (.int .i64 T.i) := n1.keep (by go_simp)
    have c1 : W1.cell? ⟨w.heap.size, 1, none⟩ = some (.int .i64 T.x0) := n1.keep (by go_simp)
    have c2 : W1.cell? ⟨w.heap.size, 2, none⟩ = some (.int .i64 T.y0) := n1.keep (by go_simp)
    have c3 : W1.cell? ⟨w.heap.size, 3, none⟩ = some (.int .i64 T.z0) := n1.keep (by go_simp)
    have c4 : W1.cell? ⟨w.heap.size, 4, none⟩ = some (.int .i64 T.x1) := n1.keep (by go_simp)
    have c5 : W1.cell? ⟨w.heap.size, 5, none⟩ = some (.int .i64 T.y1) := n1.keep (by go_simp)
    have c6 : W1.cell? ⟨w.heap.size, 6, none⟩ = some (.int .i64 T.z1) := n1.keep (by go_simp)
    have c7 : W1.cell? ⟨w.heap.size, 7, none⟩ = some (.int .i64 T.x2) := n1.keep (by go_simp)
    have c8 : W1.cell? ⟨w.heap.size, 8, none⟩ = some (.int .i64 T.y2) := n1.keep (by go_simp)
    have c9 : W1.cell? ⟨w.heap.size, 9, none⟩ = some (.int .i64 T.z2) := n1.keep (by go_simp)
    have hn : New w W1 := New.trans (by (repeat (first | (with_reducible exact New.refl _) | (with_reducible assumption) | ((with_reducible refine New.setB ?_ ?_ _); focus (first | omega | (simp; omega) | (simp; done))) | (with_reducible refine New.alloc ?_ _) | (with_reducible refine New.drew ?_) | (with_reducible refine New.drewN ?_ _) | (with_reducible refine New.hat ?_ _) | ((with_reducible apply New.snart); (with_reducible assumption))))) n1
    clear n1 KK
    have HR0 := Lib.hid hr1
    have HC := Lib.hid hc
    have h0 := HP.out R hc
    clear hr1 hc HP
    go_wp2_with fail
    refine (KO.out _).mono ?_
    rintro e W2 ⟨rfl, n2⟩
    replace hn := hn.trans n2
    have HR1 := Lib.hid (HR0.out.keep n2)
    clear n2 KO HR0 c0 c1 c2 c3 c4 c5 c6 c7 c8 c9
    unfold maxLen at cm1
    obtain ⟨n, hnl⟩ : ∃ n, n = R.length := ⟨_, rfl⟩
    rw [← hnl] at h0 cl1 ⊢
    have bn : n ≤ 9223372036854775807 := by omega
    have HNL := Lib.hid hnl
    have hgt : decide ((0 : Int) < (n : Int)) = true := decide_eq_true (by omega)
    clear hnl
    obtain ⟨g1, off1, rfl, hA1⟩ := HR1.out (by rw [← HNL.out]; exact h0)
    have HA := Lib.hid hA1
    clear hA1 HR1
    go_wp2_with fail
    go_loopg [13, 14, 47] n (fun gk s13 s14 s47 wr => ∃ (j : Nat) (p q : Bool), s13 = .bool p ∧ s14 = .bool q ∧ s47 = .int .i64 j ∧ j ≤ n ∧ n - j ≤ gk ∧ Hid (p = lowB lo (R.take j)) ∧ Hid (q = highB hi (R.take j)) ∧ Hid (New W2 wr))
    case atStart => exact ⟨0, false, false, rfl, rfl, rfl, by omega, by omega, Lib.hid rfl, Lib.hid rfl, Lib.hid (New.refl _)⟩
    case round =>
      obtain ⟨j, p, q, rfl, rfl, rfl, hj, hgk, HP, HQ, HN⟩ := hrel
      rename World => wo
      by_cases hlt : j < n
      · have hjl : j < R.length := by rw [← HNL.out]; exact hlt
        have hrow := HA.out.keep HN.out
        have r0 : wo.cell? ⟨g1, off1 + j * 4, none⟩ = some (.int .i64 R[j].x) := hrow j hjl 0 (by rw [Co.enc_len]; omega)
        have r1 : wo.cell? ⟨g1, off1 + j * 4 + 1, none⟩ = some (.int .i64 R[j].z) := hrow j hjl 1 (by rw [Co.enc_len]; omega)
        have r2 : wo.cell? ⟨g1, off1 + j * 4 + 2, none⟩ = some (.int .i64 R[j].y) := hrow j hjl 2 (by rw [Co.enc_len]; omega)
        have r3 : wo.cell? ⟨g1, off1 + j * 4 + 3, none⟩ = some (.int .i64 R[j].d) := hrow j hjl 3 (by rw [Co.enc_len]; omega)
        have zg : g1 < wo.heap.size := World.block_lt_of_cell? _ _ r0
        have hmem := (HC.out.mem _).1 (List.getElem_mem hjl)
        have F := HF.out _ hmem
        have B := HB.out _ hmem
        have HP2 : Hid ((p || decide (R[j].y < (lo + 1) * R[j].d)) = lowB lo (R.take (j + 1))) := Lib.hid (by rw [List.take_succ_eq_append_getElem hjl, lowB_snoc, ← HP.out])
        have HQ2 : Hid ((q || decide ((hi - 1) * R[j].d < R[j].y)) = highB hi (R.take (j + 1))) := Lib.hid (by rw [List.take_succ_eq_append_getElem hjl, highB_snoc, ← HQ.out])
        have HNE := Lib.hid (fun i (hi : i < R.length) (hij : i < j) => rise_ne HC.out.rise hi hjl hij)
        obtain ⟨C, hC⟩ : ∃ C, C = R[j] := ⟨_, rfl⟩
        rw [← hC] at HP2 HQ2 F B r0 r1 r2 r3 HNE
        obtain ⟨⟨d1, d2⟩, ⟨ox1, ox2⟩, ⟨oz1, oz2⟩, oy1, oy2⟩ := F.ok
        have m1 := mul_bd (a := x) (b := C.d) (A := 64) (B := 1048576) (by omega) (by omega)
        have m2 := mul_bd (a := x + 1) (b := C.d) (A := 64) (B := 1048576) (by omega) (by omega)
        have m3 := mul_bd (a := z) (b := C.d) (A := 64) (B := 1048576) (by omega) (by omega)
        have m4 := mul_bd (a := z + 1) (b := C.d) (A := 64) (B := 1048576) (by omega) (by omega)
        have m5 := mul_bd (a := lo) (b := C.d) (A := 4096) (B := 1048576) (by omega) (by omega)
        have m6 := mul_bd (a := hi) (b := C.d) (A := 4096) (B := 1048576) (by omega) (by omega)
        have m7 := mul_bd (a := lo + 1) (b := C.d) (A := 4096) (B := 1048576) (by omega) (by omega)
        have m8 := mul_bd (a := hi - 1) (b := C.d) (A := 4096) (B := 1048576) (by omega) (by omega)
        have t1 : decide (C.d < 1) = false := decide_eq_false (by omega)
        have t2 : decide (1073741824 < C.d) = false := decide_eq_false (by omega)
        have t3 : decide (C.x < x * C.d) = false := decide_eq_false (by have := F.hx; omega)
        have t4 : decide ((x + 1) * C.d < C.x) = false := decide_eq_false (by have := F.hx; omega)
        have t5 : decide (C.z < z * C.d) = false := decide_eq_false (by have := F.hz; omega)
        have t6 : decide ((z + 1) * C.d < C.z) = false := decide_eq_false (by have := F.hz; omega)
        have t7 : decide (C.y < lo * C.d) = false := decide_eq_false (by omega)
        have t8 : decide (hi * C.d < C.y) = false := decide_eq_false (by omega)
        clear hrow hmem F B HP HQ hC
        go_upto_region 9 with fail
        refine Code.at (fun V hV => ?_)
        have n3 : New wo V := by subst hV; (repeat (first | (with_reducible exact New.refl _) | (with_reducible assumption) | ((with_reducible refine New.setB ?_ ?_ _); focus (first | omega | (simp; omega) | (simp; done))) | (with_reducible refine New.alloc ?_ _) | (with_reducible refine New.drew ?_) | (with_reducible refine New.drewN ?_ _) | (with_reducible refine New.hat ?_ _) | ((with_reducible apply New.snart); (with_reducible assumption))))
        have k0 : V.cell? ⟨wo.heap.size, 0, none⟩ = some (.int .i64 C.x) := by subst hV; go_simp
        have k1 : V.cell? ⟨wo.heap.size, 1, none⟩ = some (.int .i64 C.z) := by subst hV; go_simp
        have k2 : V.cell? ⟨wo.heap.size, 2, none⟩ = some (.int .i64 C.y) := by subst hV; go_simp
        have k3 : V.cell? ⟨wo.heap.size, 3, none⟩ = some (.int .i64 C.d) := by subst hV; go_simp
        have HKC := Lib.hid (And.intro k0 (And.intro k1 (And.intro k2 k3)))
        clear hV r0 r1 r2 r3
        replace HN := Lib.hid (HN.out.trans n3)
        clear n3
        go_upto_region 11 with fail
        go_cut [13] (fun s13 Z => s13 = .bool (p || decide (C.y < (lo + 1) * C.d)) ∧ V = Z)
        case first =>
          cases p <;> cases hq : decide (C.y < (lo + 1) * C.d)
          all_goals
            go_wp2_with fail
            go_meet
            first | exact ⟨rfl, rfl⟩ | exact ⟨by rw [hq]; rfl, rfl⟩
        case rest =>
        obtain ⟨rfl, rfl⟩ := hcut
        generalize (p || decide (C.y < (lo + 1) * C.d)) = p2 at *
        go_upto_region 12 with fail
        go_cut [14] (fun s14 Z => s14 = .bool (q || decide ((hi - 1) * C.d < C.y)) ∧ V = Z)
        case first =>
          cases q <;> cases hq : decide ((hi - 1) * C.d < C.y)
          all_goals
            go_wp2_with fail
            go_meet
            first | exact ⟨rfl, rfl⟩ | exact ⟨by rw [hq]; rfl, rfl⟩
        case rest =>
        obtain ⟨rfl, rfl⟩ := hcut
        generalize (q || decide ((hi - 1) * C.d < C.y)) = q2 at *
        clear k0 k1 k2 k3 t1 t2 t3 t4 t5 t6 t7 t8 m1 m2 m3 m4 m5 m6 m7 m8
        go_wp2_with fail
        go_loopg [142] j (fun gj s142 wq => ∃ i : Nat, s142 = .int .i64 i ∧ i ≤ j ∧ j - i ≤ gj ∧ Hid (New V wq))
        case atStart => exact ⟨0, rfl, by omega, by omega, Lib.hid (New.refl _)⟩
        case round =>
          obtain ⟨i, rfl, hi', hgj, HQ⟩ := hrel
          by_cases hlt2 : i < j
          · have hil : i < R.length := by omega
            have hrow := (HA.out.keep HN.out).keep HQ.out
            have r0 : wr.cell? ⟨g1, off1 + i * 4, none⟩ = some (.int .i64 R[i].x) := hrow i hil 0 (by rw [Co.enc_len]; omega)
            have r1 : wr.cell? ⟨g1, off1 + i * 4 + 1, none⟩ = some (.int .i64 R[i].z) := hrow i hil 1 (by rw [Co.enc_len]; omega)
            have r2 : wr.cell? ⟨g1, off1 + i * 4 + 2, none⟩ = some (.int .i64 R[i].y) := hrow i hil 2 (by rw [Co.enc_len]; omega)
            have r3 : wr.cell? ⟨g1, off1 + i * 4 + 3, none⟩ = some (.int .i64 R[i].d) := hrow i hil 3 (by rw [Co.enc_len]; omega)
            have k0 := HQ.out.keep HKC.out.1
            have k1 := HQ.out.keep HKC.out.2.1
            have k2 := HQ.out.keep HKC.out.2.2.1
            have k3 := HQ.out.keep HKC.out.2.2.2
            have zg2 : g1 < wr.heap.size := World.block_lt_of_cell? _ _ r0
            have zk2 : wo.heap.size < wr.heap.size := World.block_lt_of_cell? _ _ k0
            have EQ := fun W => co_eql W C R[i]
            rw [eqB_ne (HNE.out i hil hlt2)] at EQ
            clear hrow
            go_wp2_with fail
            go_roundg (j - (i + 1))
            case measure => omega
            case rel => exact ⟨i + 1, by go_num, by omega, by omega, Lib.hid (HQ.out.trans (by (repeat (first | (with_reducible exact New.refl _) | (with_reducible assumption) | ((with_reducible refine New.setB ?_ ?_ _); focus (first | omega | (simp; omega) | (simp; done))) | (with_reducible refine New.alloc ?_ _) | (with_reducible refine New.drew ?_) | (with_reducible refine New.drewN ?_ _) | (with_reducible refine New.hat ?_ _) | ((with_reducible apply New.snart); (with_reducible assumption))))))⟩
          · go_wp2_with fail
            go_roundg (n - (j + 1))
            case measure => omega
            case rel => exact ⟨j + 1, _, _, rfl, rfl, by go_num, by omega, by omega, HP2, HQ2, Lib.hid (HN.out.trans HQ.out)⟩
      · have e : j = n := by omega
        subst e
        obtain ⟨k1, k2⟩ := HL.out R HC.out.mem
        have e1 : p = true := by rw [HP.out, HNL.out, List.take_length]; exact k1
        have e2 : q = true := by rw [HQ.out, HNL.out, List.take_length]; exact k2
        subst e1 e2
        clear k1 k2 HP HQ
        go_wp2_with fail
        refine (KW.out _).mono ?_
        rintro e W6 ⟨rfl, n2⟩
        go_wp2_with fail
        go_ret
        exact ⟨rfl, (hn.trans HN.out).trans n2⟩

end Go.Proofs.Yteoongcajfcgcaa
