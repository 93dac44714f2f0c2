import Derived.Test.YteoongcajfcgcaaClZcZ6
import Derived.Test.YteoongcajfcgcaaClQZ6
import Derived.Test.YteoongcajfcgcaaWholeBZ6
import Derived.Test.YteoongcajfcgcaaWholeCZ6

/- The document's own heights over a column, its comparison, its columns. -/
namespace Go.Proofs.Yteoongcajfcgcaa
open Go.RowKit
set_option linter.unusedVariables false

def loR (l : List Co) : Int := l.foldl (fun a c => min a (flC c)) 1073741824
def hiR (l : List Co) : Int := l.foldl (fun a c => max a (clC c)) (-1073741824)
theorem loR_snoc (l : List Co) (c : Co) : loR (l ++ [c]) = min (loR l) (flC c) := by unfold loR; rw [List.foldl_append]; rfl
theorem hiR_snoc (l : List Co) (c : Co) : hiR (l ++ [c]) = max (hiR l) (clC c) := by unfold hiR; rw [List.foldl_append]; rfl
theorem loR_eq {T : TriR} {x z : Int} (h : ovB T x z = true) {R : List Co} (hm : ∀ c, c ∈ R ↔ c ∈ comL T x z) : ovLo T x z = loR R ∧ ovHi T x z = hiR R := by
  obtain ⟨⟨a, ha, ea⟩, ⟨b, hb, eb⟩⟩ := ov_got h
  obtain ⟨k1, k2, k3, -⟩ := ov_between h
  obtain ⟨y0, y1, y2⟩ := ok_y (cor_zero (ov_iff.1 h).1).1
  have k4 : minI T.y0 T.y1 T.y2 ≥ -2048 := by unfold minI; omega
  have k5 : maxI T.y0 T.y1 T.y2 ≤ 2048 := by unfold maxI; omega
  constructor
  · obtain ⟨a1, a2, a3⟩ := minf_spec flC R 1073741824
    have q := a2 a ((hm a).2 ha)
    have e : loR R = R.foldl (fun a c => min a (flC c)) 1073741824 := rfl
    rw [e]
    rcases a3 with a3 | ⟨c, hc, a3⟩
    · omega
    · have := (ov_mem h ((hm c).1 hc)).1
      omega
  · obtain ⟨a1, a2, a3⟩ := maxf_spec clC R (-1073741824)
    have q := a2 b ((hm b).2 hb)
    have e : hiR R = R.foldl (fun a c => max a (clC c)) (-1073741824) := rfl
    rw [e]
    rcases a3 with a3 | ⟨c, hc, a3⟩
    · omega
    · have := (ov_mem h ((hm c).1 hc)).2
      omega

set_option maxHeartbeats 4000000 in
set_option maxRecDepth 100000 in
theorem r_over (T : TriR) (x z : Int) (w : World) :
    Calls Try.prog 8 #[.agg #[.int .i64 T.i, .int .i64 T.x0, .int .i64 T.y0, .int .i64 T.z0, .int .i64 T.x1, .int .i64 T.y1, .int .i64 T.z1, .int .i64 T.x2, .int .i64 T.y2, .int .i64 T.z2], .int .i64 x, .int .i64 z] w fun e w' => e = .returned (.tuple #[.int .i64 (ovLo T x z), .int .i64 (ovHi T x z), .bool (ovB T x z), .int .i64 (corE T x z)]) ∧ New w w' := by
  by_cases hE : corE T x z = 0
  rotate_left
  · have KB := fun W => r_cor_bad T x z W hE
    have e : ovB T x z = false := by unfold ovB; rw [beq_eq_false_iff_ne.2 hE]; rfl
    have e1 : ovLo T x z = 0 := by unfold ovLo; rw [e]; rfl
    have e2 : ovHi T x z = 0 := by unfold ovHi; rw [e]; rfl
    rw [e, e1, e2]
    generalize corE T x z = er at *
    have hb : (er != 0) = true := by rw [bne_iff_ne]; exact hE
    replace KB := Lib.hid KB
    clear e e1 e2 hE
    go_enter Try.func8, Try.ntmps8
    go_wp2_with fail
    refine (KB.out _).mono ?_
    rintro e W1 ⟨rfl, n1⟩
    have hn : New w W1 := New.trans (by (repeat (first | (with_reducible exact New.refl _) | (with_reducible assumption) | ((with_reducible refine New.setB ?_ ?_ _); focus (first | omega | (simp; omega) | (simp; done))) | (with_reducible refine New.alloc ?_ _) | (with_reducible refine New.drew ?_) | (with_reducible refine New.drewN ?_ _) | (with_reducible refine New.hat ?_ _) | ((with_reducible apply New.snart); (with_reducible assumption))))) n1
    clear n1
    go_wp2_with fail
    refine bodyPost_ret (v := .tuple #[.int .i64 0, .int .i64 0, .bool false, .int .i64 er]) (by simp [results, Try.results8, go_sem, *]) rfl ?_
    exact ⟨rfl, hn⟩
  have KK := Lib.hid (fun W => r_cor T x z W hE)
  have HB : Hid (ovB T x z = !(comL T x z).isEmpty) := Lib.hid (by unfold ovB; rw [hE]; rfl)
  obtain ⟨lo, hlo⟩ : ∃ lo, lo = ovLo T x z := ⟨_, rfl⟩
  obtain ⟨hi, hhi⟩ : ∃ hi, hi = ovHi T x z := ⟨_, rfl⟩
  rw [hE, ← hlo, ← hhi]
  have HLO := Lib.hid hlo
  have HHI := Lib.hid hhi
  clear hlo hhi hE
  go_enter Try.func8, Try.ntmps8
  go_wp2_with fail
  refine (KK.out _).mono ?_
  rintro e W1 ⟨v, R, rfl, hs, hc, n1⟩
  obtain ⟨at0, cap, rfl, h1, h2, h3, h4⟩ := hs
  have hn : New w W1 := New.trans (by (repeat (first | (with_reducible exact New.refl _) | (with_reducible assumption) | ((with_reducible refine New.setB ?_ ?_ _); focus (first | omega | (simp; omega) | (simp; done))) | (with_reducible refine New.alloc ?_ _) | (with_reducible refine New.drew ?_) | (with_reducible refine New.drewN ?_ _) | (with_reducible refine New.hat ?_ _) | ((with_reducible apply New.snart); (with_reducible assumption))))) n1
  clear n1 KK
  by_cases h0 : R.length = 0
  · have hR : R = [] := List.eq_nil_of_length_eq_zero h0
    subst hR
    have hem : comL T x z = [] := List.eq_nil_iff_forall_not_mem.2 fun c hm => by have := (hc.mem c).2 hm; cases this
    have HB2 : Hid (ovB T x z = false) := Lib.hid (by rw [HB.out, hem]; rfl)
    have HL : Hid (lo = 0 ∧ hi = 0) := Lib.hid ⟨by rw [HLO.out]; unfold ovLo; rw [HB2.out]; rfl, by rw [HHI.out]; unfold ovHi; rw [HB2.out]; rfl⟩
    clear hem hc h4 h0 HB HLO HHI
    go_wp2_with fail
    refine bodyPost_ret (v := .tuple #[.int .i64 0, .int .i64 0, .bool false, .int .i64 0]) (by simp [results, Try.results8, go_sem]) rfl ?_
    exact ⟨by rw [HL.out.1, HL.out.2, HB2.out], hn⟩
  · have hem : (comL T x z).isEmpty = false := by
      cases hq : comL T x z with
      | nil => exfalso; apply h0; cases hr : R with
        | nil => rfl
        | cons c m => have := (hc.mem c).1 (by rw [hr]; exact List.mem_cons_self); rw [hq] at this; cases this
      | cons c m => rfl
    have HB2 : Hid (ovB T x z = true) := Lib.hid (by rw [HB.out, hem]; rfl)
    have HL : Hid (lo = loR R ∧ hi = hiR R) := Lib.hid ⟨by rw [HLO.out]; exact (loR_eq HB2.out hc.mem).1, by rw [HHI.out]; exact (loR_eq HB2.out hc.mem).2⟩
    obtain ⟨b, off, rfl, hrow⟩ := h4 (by omega)
    have HR := Lib.hid hrow
    obtain ⟨n, hnl⟩ : ∃ n, n = R.length := ⟨_, rfl⟩
    rw [← hnl] at h0 h1 ⊢
    have HNL := Lib.hid hnl
    have hne : ((n : Int) == 0) = false := by rw [beq_eq_false_iff_ne]; omega
    have HF := Lib.hid (fun y d W => rfloor_any y d W)
    have HCL := Lib.hid (fun y d W => rceil_any y d W)
    have HN1 := Lib.hid hn
    unfold maxLen at h2
    clear hem hc hrow hnl HB HLO HHI h3 h4 hn
    go_wp2_with fail
    go_loopg [12, 13, 14] n (fun gk s12 s13 s14 wr => ∃ (j : Nat) (p q : Int), s12 = .int .i64 p ∧ s13 = .int .i64 q ∧ s14 = .int .i64 j ∧ j ≤ n ∧ n - j ≤ gk ∧ Hid (p = loR (R.take j)) ∧ Hid (q = hiR (R.take j)) ∧ Hid (New W1 wr))
    case atStart => exact ⟨0, 1073741824, -1073741824, rfl, rfl, rfl, by omega, by omega, Lib.hid rfl, Lib.hid rfl, Lib.hid (New.refl _)⟩
    case round =>
      obtain ⟨j, p, q, rfl, rfl, rfl, hj, hgk, HP, HQ, HN⟩ := hrel
      by_cases hlt : j < n
      · have hjl : j < R.length := by rw [← HNL.out]; exact hlt
        have hrow := HR.out.keep HN.out
        have r2 := hrow j hjl 2 (by rw [Co.enc_len]; omega)
        have r3 := hrow j hjl 3 (by rw [Co.enc_len]; omega)
        change wr.cell? ⟨b, off + j * 4 + 2, none⟩ = some (.int .i64 R[j].y) at r2
        change wr.cell? ⟨b, off + j * 4 + 3, none⟩ = some (.int .i64 R[j].d) at r3
        have HP2 : Hid (min p (floorI R[j].y R[j].d) = loR (R.take (j + 1))) := Lib.hid (by rw [List.take_succ_eq_append_getElem hjl, loR_snoc, ← HP.out]; rfl)
        have HQ2 : Hid (max q (ceilI R[j].y R[j].d) = hiR (R.take (j + 1))) := Lib.hid (by rw [List.take_succ_eq_append_getElem hjl, hiR_snoc, ← HQ.out]; rfl)
        have KF := Lib.hid (fun W => HF.out R[j].y R[j].d W)
        have KG := Lib.hid (fun W => HCL.out R[j].y R[j].d W)
        clear hrow HP HQ
        generalize R[j].y = cy at *
        generalize R[j].d = cd at *
        generalize floorI cy cd = fy at *
        generalize ceilI cy cd = gy at *
        generalize errI (tameI cd != 0) = er at *
        go_upto_region 8 with fail
        (refine wp_region_hat (by kernel_rfl) (by kernel_rfl) ?_; intro hatc hatf; (repeat (go_big_quiet_step (((go_at_call 19; with_reducible exact Calls.hat ((KF.out _).mono fun _ _ h => ⟨h.1, h.2 ▸ New.refl _⟩)))))); refine wpQuiet_nil ?_; rintro _ ⟨X, rfl⟩)
        have HN2 := Lib.hid (HN.out.trans X.h)
        replace r2 := New.keep X.h r2
        replace r3 := New.keep X.h r3
        clear hatc hatf HN
        generalize X.w = W3 at *
        clear X
        go_upto_region 9 with fail
        (refine wp_region_hat (by kernel_rfl) (by kernel_rfl) ?_; intro hatc hatf; (repeat (go_big_quiet_step (((go_at_call 20; with_reducible exact Calls.hat ((KG.out _).mono fun _ _ h => ⟨h.1, h.2 ▸ New.refl _⟩)))))); refine wpQuiet_nil ?_; rintro _ ⟨X, rfl⟩)
        have HN3 := Lib.hid (HN2.out.trans X.h)
        clear hatc hatf HN2 r2 r3 KF KG
        generalize X.w = W4 at *
        clear X
        go_wp2_with fail
        go_roundg (n - (j + 1))
        case measure => omega
        case rel => exact ⟨j + 1, _, _, rfl, rfl, by go_num, by omega, by omega, HP2, HQ2, HN3⟩
      · have e : j = n := by omega
        subst e
        have HP2 : Hid (p = lo ∧ q = hi) := Lib.hid ⟨by rw [HL.out.1, HP.out, HNL.out, List.take_length], by rw [HL.out.2, HQ.out, HNL.out, List.take_length]⟩
        clear HP HQ HL
        go_wp2_with fail
        refine bodyPost_ret (v := .tuple #[.int .i64 p, .int .i64 q, .bool true, .int .i64 0]) (by simp [results, Try.results8, go_sem]) rfl ?_
        exact ⟨by rw [HP2.out.1, HP2.out.2, HB2.out], HN1.out.trans HN.out⟩

set_option maxHeartbeats 4000000 in
set_option maxRecDepth 100000 in
theorem r_same (v v' : Value) (l : List Co) (w : World) (hs : Sl Co.enc 4 w v l) (hs' : Sl Co.enc 4 w v' l) :
    Calls Try.prog 11 #[v, v'] w fun e w' => e = .returned (.bool true) ∧ New w w' := by
  obtain ⟨at0, cap, rfl, h1, h2, -, h4⟩ := hs
  obtain ⟨at1, cap', rfl, h1', h2', -, h4'⟩ := hs'
  have HR := Lib.hid h4
  have HR' := Lib.hid h4'
  obtain ⟨n, hnl⟩ : ∃ n, n = l.length := ⟨_, rfl⟩
  rw [← hnl] at h1 h1' ⊢
  have HNL := Lib.hid hnl
  have hne : ((n : Int) != (n : Int)) = false := by simp
  unfold maxLen at h2 h2'
  clear h4 h4' hnl
  go_enter Try.func11, Try.ntmps11
  go_wp2_with fail
  go_loopg [5] n (fun gk s5 wr => ∃ (j : Nat), s5 = .int .i64 j ∧ j ≤ n ∧ n - j ≤ gk ∧ Hid (New w wr))
  case atStart => exact ⟨0, rfl, by omega, by omega, Lib.hid (New.refl _)⟩
  case round =>
    obtain ⟨j, rfl, hj, hgk, HN⟩ := hrel
    by_cases hlt : j < n
    · have hjl : j < l.length := by rw [← HNL.out]; exact hlt
      obtain ⟨b, off, rfl, hrow⟩ := HR.out (by omega)
      obtain ⟨b', off', rfl, hrow'⟩ := HR'.out (by omega)
      have hr := hrow.keep HN.out
      have hr' := hrow'.keep HN.out
      have r0 := hr j hjl 0 (by rw [Co.enc_len]; omega)
      have r1 := hr j hjl 1 (by rw [Co.enc_len]; omega)
      have r2 := hr j hjl 2 (by rw [Co.enc_len]; omega)
      have r3 := hr j hjl 3 (by rw [Co.enc_len]; omega)
      have s0 := hr' j hjl 0 (by rw [Co.enc_len]; omega)
      have s1 := hr' j hjl 1 (by rw [Co.enc_len]; omega)
      have s2 := hr' j hjl 2 (by rw [Co.enc_len]; omega)
      have s3 := hr' j hjl 3 (by rw [Co.enc_len]; omega)
      simp only [Nat.add_zero] at r0 s0
      change wr.cell? ⟨b, off + j * 4, none⟩ = some (.int .i64 l[j].x) at r0
      change wr.cell? ⟨b, off + j * 4 + 1, none⟩ = some (.int .i64 l[j].z) at r1
      change wr.cell? ⟨b, off + j * 4 + 2, none⟩ = some (.int .i64 l[j].y) at r2
      change wr.cell? ⟨b, off + j * 4 + 3, none⟩ = some (.int .i64 l[j].d) at r3
      change wr.cell? ⟨b', off' + j * 4, none⟩ = some (.int .i64 l[j].x) at s0
      change wr.cell? ⟨b', off' + j * 4 + 1, none⟩ = some (.int .i64 l[j].z) at s1
      change wr.cell? ⟨b', off' + j * 4 + 2, none⟩ = some (.int .i64 l[j].y) at s2
      change wr.cell? ⟨b', off' + j * 4 + 3, none⟩ = some (.int .i64 l[j].d) at s3
      obtain ⟨E, hE⟩ : ∃ E, E = l[j] := ⟨_, rfl⟩
      rw [← hE] at r0 r1 r2 r3 s0 s1 s2 s3
      have EQ := fun W => co_neq W E E
      have hq : E.eqB E = true := (Co.eqB_iff E E).2 rfl
      rw [hq] at EQ
      clear hr hr' hrow hrow' hE hq
      go_upto_region 6 with fail
      (refine wp_region_hat (by kernel_rfl) (by kernel_rfl) ?_; intro hatc hatf; (repeat (go_big_quiet_step ((fail)))); refine wpQuiet_nil ?_; rintro _ ⟨X, rfl⟩)
      have HN2 := Lib.hid (HN.out.trans X.h)
      clear hatc hatf EQ HN r0 r1 r2 r3 s0 s1 s2 s3
      generalize X.w = W3 at *
      clear X
      go_wp2_with fail
      go_roundg (n - (j + 1))
      case measure => omega
      case rel => exact ⟨j + 1, by go_num, by omega, by omega, HN2⟩
    · go_wp2_with fail
      go_ret
      exact ⟨rfl, HN.out⟩

set_option maxHeartbeats 4000000 in
set_option maxRecDepth 100000 in
theorem r_columns (T : TriR) (w : World) :
    Calls Try.prog 13 #[.agg #[.int .i64 T.i, .int .i64 T.x0, .int .i64 T.y0, .int .i64 T.z0, .int .i64 T.x1, .int .i64 T.y1, .int .i64 T.z1, .int .i64 T.x2, .int .i64 T.y2, .int .i64 T.z2]] w fun e w' => e = .returned (.tuple #[.int .i64 (if okT T then minI T.x0 T.x1 T.x2 - 1 else 0), .int .i64 (if okT T then minI T.z0 T.z1 T.z2 - 1 else 0), .int .i64 (if okT T then maxI T.x0 T.x1 T.x2 else 0), .int .i64 (if okT T then maxI T.z0 T.z1 T.z2 else 0), .int .i64 (chkE T)]) ∧ New w w' := by
  have KM := fun W => k_may T W
  unfold chkE
  cases hk : okT T
  · rw [hk] at KM
    simp only [Bool.false_eq_true, if_false]
    replace KM := Lib.hid KM
    clear hk
    go_enter Try.func13, Try.ntmps13
    go_wp2_with fail
    refine (KM.out _).mono ?_
    rintro e W1 ⟨rfl, n1⟩
    have hn : New w W1 := New.trans (by (repeat (first | (with_reducible exact New.refl _) | (with_reducible assumption) | ((with_reducible refine New.setB ?_ ?_ _); focus (first | omega | (simp; omega) | (simp; done))) | (with_reducible refine New.alloc ?_ _) | (with_reducible refine New.drew ?_) | (with_reducible refine New.drewN ?_ _) | (with_reducible refine New.hat ?_ _) | ((with_reducible apply New.snart); (with_reducible assumption))))) n1
    clear n1
    go_wp2_with fail
    refine bodyPost_ret (v := .tuple #[.int .i64 0, .int .i64 0, .int .i64 0, .int .i64 0, .int .i64 40]) (by simp [results, Try.results13, go_sem, *]) rfl ?_
    exact ⟨rfl, hn⟩
  · rw [hk] at KM
    simp only [if_true]
    have hs := ok_in hk
    unfold StP StV at hs
    have e1 : minI T.x0 T.x1 T.x2 = min (min T.x0 T.x1) T.x2 := by unfold minI; omega
    have e2 : minI T.z0 T.z1 T.z2 = min (min T.z0 T.z1) T.z2 := by unfold minI; omega
    have e3 : maxI T.x0 T.x1 T.x2 = max (max T.x0 T.x1) T.x2 := by unfold maxI; omega
    have e4 : maxI T.z0 T.z1 T.z2 = max (max T.z0 T.z1) T.z2 := by unfold maxI; omega
    rw [e1, e2, e3, e4]
    have w1 : IntKind.i64.wrap (min (min T.x0 T.x1) T.x2 - 1) = min (min T.x0 T.x1) T.x2 - 1 := IntWalk.i64_in _ (by omega)
    have w2 : IntKind.i64.wrap (min (min T.z0 T.z1) T.z2 - 1) = min (min T.z0 T.z1) T.z2 - 1 := IntWalk.i64_in _ (by omega)
    have w3 : wrap64 (min T.x0 (min T.x1 T.x2) - 1) = min T.x0 (min T.x1 T.x2) - 1 := wrap64_in (by omega)
    have w4 : wrap64 (min T.z0 (min T.z1 T.z2) - 1) = min T.z0 (min T.z1 T.z2) - 1 := wrap64_in (by omega)
    replace KM := Lib.hid KM
    clear hk hs e1 e2 e3 e4
    go_enter Try.func13, Try.ntmps13
    go_wp2_with fail
    refine (KM.out _).mono ?_
    rintro e W1 ⟨rfl, n1⟩
    have c0 : W1.cell? ⟨w.heap.size, 0, none⟩ = some (.int .i64 T.i) := n1.keep (by go_simp)
    have c1 : W1.cell? ⟨w.heap.size, 1, none⟩ = some (.int .i64 T.x0) := n1.keep (by go_simp)
    have c2 : W1.cell? ⟨w.heap.size, 2, none⟩ = some (.int .i64 T.y0) := n1.keep (by go_simp)
    have c3 : W1.cell? ⟨w.heap.size, 3, none⟩ = some (.int .i64 T.z0) := n1.keep (by go_simp)
    have c4 : W1.cell? ⟨w.heap.size, 4, none⟩ = some (.int .i64 T.x1) := n1.keep (by go_simp)
    have c5 : W1.cell? ⟨w.heap.size, 5, none⟩ = some (.int .i64 T.y1) := n1.keep (by go_simp)
    have c6 : W1.cell? ⟨w.heap.size, 6, none⟩ = some (.int .i64 T.z1) := n1.keep (by go_simp)
    have c7 : W1.cell? ⟨w.heap.size, 7, none⟩ = some (.int .i64 T.x2) := n1.keep (by go_simp)
    have c8 : W1.cell? ⟨w.heap.size, 8, none⟩ = some (.int .i64 T.y2) := n1.keep (by go_simp)
    have c9 : W1.cell? ⟨w.heap.size, 9, none⟩ = some (.int .i64 T.z2) := n1.keep (by go_simp)
    have hn : New w W1 := New.trans (by (repeat (first | (with_reducible exact New.refl _) | (with_reducible assumption) | ((with_reducible refine New.setB ?_ ?_ _); focus (first | omega | (simp; omega) | (simp; done))) | (with_reducible refine New.alloc ?_ _) | (with_reducible refine New.drew ?_) | (with_reducible refine New.drewN ?_ _) | (with_reducible refine New.hat ?_ _) | ((with_reducible apply New.snart); (with_reducible assumption))))) n1
    clear n1 KM
    go_upto_region 3 with fail
    (refine wp_region_hat (by kernel_rfl) (by kernel_rfl) ?_; intro hatc hatf; (repeat (go_big_quiet_step ((fail)))); refine wpQuiet_nil ?_; rintro _ ⟨X, rfl⟩)
    replace c1 := New.keep X.h c1
    replace c3 := New.keep X.h c3
    replace c4 := New.keep X.h c4
    replace c6 := New.keep X.h c6
    replace c7 := New.keep X.h c7
    replace c9 := New.keep X.h c9
    replace hn := hn.trans X.h
    clear hatc hatf c0 c2 c5 c8
    generalize X.w = W2 at *
    clear X
    go_wp2_with fail
    refine wp_loop_rounds 3 ?_
    rw [rounds_succ]
    go_wp2_with fail
    rw [rounds_succ]
    go_wp2_with fail
    rw [rounds_succ]
    go_wp2_with fail
    refine bodyPost_ret (v := .tuple #[.int .i64 (min (min T.x0 T.x1) T.x2 - 1), .int .i64 (min (min T.z0 T.z1) T.z2 - 1), .int .i64 (max (max T.x0 T.x1) T.x2), .int .i64 (max (max T.z0 T.z1) T.z2), .int .i64 0]) (by simp [results, Try.results13, go_sem, *]) rfl ?_
    exact ⟨rfl, hn⟩

end Go.Proofs.Yteoongcajfcgcaa
