import Derived.Test.YtccikeagbillgaaGreatClZcZ3
import Derived.Test.YtccikeagbillgaaGreatClQZ3
import Derived.Test.YtccikeagbillgaaGreatWholeBZ3
import Derived.Test.YtccikeagbillgaaGreatTriBZ3

/- The document's own heights over a column, its comparison, its columns. -/
namespace Go.Proofs.YtccikeagbillgaaGreat
open Go.RowKit
set_option linter.unusedVariables false

def loR (l : List Co) : Int := l.foldl (fun a c => min a (flC c)) 1073741824
def hiR (l : List Co) : Int := l.foldl (fun a c => max a (clC c)) (-1073741824)
theorem loR_snoc (l : List Co) (c : Co) : loR (l ++ [c]) = min (loR l) (flC c) := by unfold loR; rw [List.foldl_append]; rfl
theorem hiR_snoc (l : List Co) (c : Co) : hiR (l ++ [c]) = max (hiR l) (clC c) := by unfold hiR; rw [List.foldl_append]; rfl
theorem loR_eq {T : TriR} {x z : Int} (h : ovB T x z = true) {R : List Co} (hm : ∀ c, c ∈ R ↔ c ∈ comL T x z) : ovLo T x z = loR R ∧ ovHi T x z = hiR R := by
  obtain ⟨⟨a, ha, ea⟩, ⟨b, hb, eb⟩⟩ := ov_got h
  obtain ⟨k1, k2, k3, -⟩ := ov_between h
  obtain ⟨y0, y1, y2⟩ := ok_y (cor_zero (ov_iff.1 h).1).1
  have k4 : minI T.y0 T.y1 T.y2 ≥ -2048 := by unfold minI; omega
  have k5 : maxI T.y0 T.y1 T.y2 ≤ 2048 := by unfold maxI; omega
  constructor
  · obtain ⟨a1, a2, a3⟩ := minf_spec flC R 1073741824
    have q := a2 a ((hm a).2 ha)
    have e : loR R = R.foldl (fun a c => min a (flC c)) 1073741824 := rfl
    rw [e]
    rcases a3 with a3 | ⟨c, hc, a3⟩
    · omega
    · have := (ov_mem h ((hm c).1 hc)).1
      omega
  · obtain ⟨a1, a2, a3⟩ := maxf_spec clC R (-1073741824)
    have q := a2 b ((hm b).2 hb)
    have e : hiR R = R.foldl (fun a c => max a (clC c)) (-1073741824) := rfl
    rw [e]
    rcases a3 with a3 | ⟨c, hc, a3⟩
    · omega
    · have := (ov_mem h ((hm c).1 hc)).2
      omega

set_option maxHeartbeats 4000000 in
set_option maxRecDepth 100000 in
theorem r_over (T : TriR) (x z : Int) (w : World) :
    Calls Tryz.prog 18 #[.agg #[.int .i64 T.i, .int .i64 T.x0, .int .i64 T.y0, .int .i64 T.z0, .int .i64 T.x1, .int .i64 T.y1, .int .i64 T.z1, .int .i64 T.x2, .int .i64 T.y2, .int .i64 T.z2], .int .i64 x, .int .i64 z] w fun e w' => e = .returned (.tuple #[.int .i64 (ovLo T x z), .int .i64 (ovHi T x z), .bool (ovB T x z), .int .i64 (corE T x z)]) ∧ New w w' := by
  by_cases hE : corE T x z = 0
  rotate_left
  · have KB := fun W => r_cor_bad T x z W hE
    have e : ovB T x z = false := by unfold ovB; rw [beq_eq_false_iff_ne.2 hE]; rfl
    have e1 : ovLo T x z = 0 := by unfold ovLo; rw [e]; rfl
    have e2 : ovHi T x z = 0 := by unfold ovHi; rw [e]; rfl
    rw [e, e1, e2]
    generalize corE T x z = er at *
    have hb : (er != 0) = true := by rw [bne_iff_ne]; exact hE
    replace KB := Lib.hid KB
    clear e e1 e2 hE
    go_enter Tryz.func18, Tryz.ntmps18
    go_wp2_with fail
    refine (KB.out _).mono ?_
    rintro e W1 ⟨rfl, n1⟩
    have hn : New w W1 := New.trans (by (repeat (first | (with_reducible exact New.refl _) | (with_reducible assumption) | ((with_reducible refine New.setB ?_ ?_ _); focus (first | omega | (simp; omega) | (simp; done))) | (with_reducible refine New.alloc ?_ _) | (with_reducible refine New.drew ?_) | (with_reducible refine New.drewN ?_ _) | (with_reducible refine New.hat ?_ _) | ((with_reducible apply New.snart); (with_reducible assumption))))) n1
    clear n1
    go_wp2_with fail
    refine bodyPost_ret (v := .tuple #[.int .i64 0, .int .i64 0, .bool false, .int .i64 er]) (by simp [results, Tryz.results18, go_sem, *]) rfl ?_
    exact ⟨rfl, hn⟩
  have KK := Lib.hid (fun W => r_cor T x z W hE)
  have HB : Hid (ovB T x z = !(comL T x z).isEmpty) := Lib.hid (by unfold ovB; rw [hE]; rfl)
  obtain ⟨lo, hlo⟩ : ∃ lo, lo = ovLo T x z := ⟨_, rfl⟩
  obtain ⟨hi, hhi⟩ : ∃ hi, hi = ovHi T x z := ⟨_, rfl⟩
  rw [hE, ← hlo, ← hhi]
  have HLO := Lib.hid hlo
  have HHI := Lib.hid hhi
  clear hlo hhi hE
  go_enter Tryz.func18, Tryz.ntmps18
  go_wp2_with fail
  refine (KK.out _).mono ?_
  rintro e W1 ⟨v, R, rfl, hs, hc, n1⟩
  obtain ⟨at0, cap, rfl, h1, h2, h3, h4⟩ := hs
  have hn : New w W1 := New.trans (by (repeat (first | (with_reducible exact New.refl _) | (with_reducible assumption) | ((with_reducible refine New.setB ?_ ?_ _); focus (first | omega | (simp; omega) | (simp; done))) | (with_reducible refine New.alloc ?_ _) | (with_reducible refine New.drew ?_) | (with_reducible refine New.drewN ?_ _) | (with_reducible refine New.hat ?_ _) | ((with_reducible apply New.snart); (with_reducible assumption))))) n1
  clear n1 KK
  by_cases h0 : R.length = 0
  · have hR : R = [] := List.eq_nil_of_length_eq_zero h0
    subst hR
    have hem : comL T x z = [] := List.eq_nil_iff_forall_not_mem.2 fun c hm => by have := (hc.mem c).2 hm; cases this
    have HB2 : Hid (ovB T x z = false) := Lib.hid (by rw [HB.out, hem]; rfl)
    have HL : Hid (lo = 0 ∧ hi = 0) := Lib.hid ⟨by rw [HLO.out]; unfold ovLo; rw [HB2.out]; rfl, by rw [HHI.out]; unfold ovHi; rw [HB2.out]; rfl⟩
    clear hem hc h4 h0 HB HLO HHI
    go_wp2_with fail
    refine bodyPost_ret (v := .tuple #[.int .i64 0, .int .i64 0, .bool false, .int .i64 0]) (by simp [results, Tryz.results18, go_sem]) rfl ?_
    exact ⟨by rw [HL.out.1, HL.out.2, HB2.out], hn⟩
  · have hem : (comL T x z).isEmpty = false := by
      cases hq : comL T x z with
      | nil => exfalso; apply h0; cases hr : R with
        | nil => rfl
        | cons c m => have := (hc.mem c).1 (by rw [hr]; exact List.mem_cons_self); rw [hq] at this; cases this
      | cons c m => rfl
    have HB2 : Hid (ovB T x z = true) := Lib.hid (by rw [HB.out, hem]; rfl)
    have HL : Hid (lo = loR R ∧ hi = hiR R) := Lib.hid ⟨by rw [HLO.out]; exact (loR_eq HB2.out hc.mem).1, by rw [HHI.out]; exact (loR_eq HB2.out hc.mem).2⟩
    obtain ⟨b, off, rfl, hrow⟩ := h4 (by omega)
    have HR := Lib.hid hrow
    obtain ⟨n, hnl⟩ : ∃ n, n = R.length := ⟨_, rfl⟩
    rw [← hnl] at h0 h1 ⊢
    have HNL := Lib.hid hnl
    have hne : ((n : Int) == 0) = false := by rw [beq_eq_false_iff_ne]; omega
    have HF := Lib.hid (fun y d W => rfloor_any y d W)
    have HCL := Lib.hid (fun y d W => rceil_any y d W)
    have HN1 := Lib.hid hn
    unfold maxLen at h2
    clear hem hc hrow hnl HB HLO HHI h3 h4 hn
    go_wp2_with fail
    go_loopg [12, 13, 14] n (fun gk s12 s13 s14 wr => ∃ (j : Nat) (p q : Int), s12 = .int .i64 p ∧ s13 = .int .i64 q ∧ s14 = .int .i64 j ∧ j ≤ n ∧ n - j ≤ gk ∧ Hid (p = loR (R.take j)) ∧ Hid (q = hiR (R.take j)) ∧ Hid (New W1 wr))
    case atStart => exact ⟨0, 1073741824, -1073741824, rfl, rfl, rfl, by omega, by omega, Lib.hid rfl, Lib.hid rfl, Lib.hid (New.refl _)⟩
    case round =>
      obtain ⟨j, p, q, rfl, rfl, rfl, hj, hgk, HP, HQ, HN⟩ := hrel
      by_cases hlt : j < n
      · have hjl : j < R.length := by rw [← HNL.out]; exact hlt
        have hrow := HR.out.keep HN.out
        have r2 := hrow j hjl 2 (by rw [Co.enc_len]; omega)
        have r3 := hrow j hjl 3 (by rw [Co.enc_len]; omega)
        change wr.cell? ⟨b, off + j * 4 + 2, none⟩ = some (.int .i64 R[j].y) at r2
        change wr.cell? ⟨b, off + j * 4 + 3, none⟩ = some (.int .i64 R[j].d) at r3
        have HP2 : Hid (min p (floorI R[j].y R[j].d) = loR (R.take (j + 1))) := Lib.hid (by rw [List.take_succ_eq_append_getElem hjl, loR_snoc, ← HP.out]; rfl)
        have HQ2 : Hid (max q (ceilI R[j].y R[j].d) = hiR (R.take (j + 1))) := Lib.hid (by rw [List.take_succ_eq_append_getElem hjl, hiR_snoc, ← HQ.out]; rfl)
        have KF := Lib.hid (fun W => HF.out R[j].y R[j].d W)
        have KG := Lib.hid (fun W => HCL.out R[j].y R[j].d W)
        clear hrow HP HQ
        generalize R[j].y = cy at *
        generalize R[j].d = cd at *
        generalize floorI cy cd = fy at *
        generalize ceilI cy cd = gy at *
        generalize errI (tameI cd != 0) = er at *
        go_upto_region 8 with fail
        (refine wp_region_hat (by kernel_rfl) (by kernel_rfl) ?_; intro hatc hatf; (repeat (go_big_quiet_step (((go_at_call 32; with_reducible exact Calls.hat ((KF.out _).mono fun _ _ h => ⟨h.1, h.2 ▸ New.refl _⟩)))))); refine wpQuiet_nil ?_; rintro _ ⟨X, rfl⟩)
        have HN2 := Lib.hid (HN.out.trans X.h)
        replace r2 := New.keep X.h r2
        replace r3 := New.keep X.h r3
        clear hatc hatf HN
        generalize X.w = W3 at *
        clear X
        go_upto_region 9 with fail
        (refine wp_region_hat (by kernel_rfl) (by kernel_rfl) ?_; intro hatc hatf; (repeat (go_big_quiet_step (((go_at_call 33; with_reducible exact Calls.hat ((KG.out _).mono fun _ _ h => ⟨h.1, h.2 ▸ New.refl _⟩)))))); refine wpQuiet_nil ?_; rintro _ ⟨X, rfl⟩)
        have HN3 := Lib.hid (HN2.out.trans X.h)
        clear hatc hatf HN2 r2 r3 KF KG
        generalize X.w = W4 at *
        clear X
        go_wp2_with fail
        go_roundg (n - (j + 1))
        case measure => omega
        case rel => exact ⟨j + 1, _, _, rfl, rfl, by go_num, by omega, by omega, HP2, HQ2, HN3⟩
      · have e : j = n := by omega
        subst e
        have HP2 : Hid (p = lo ∧ q = hi) := Lib.hid ⟨by rw [HL.out.1, HP.out, HNL.out, List.take_length], by rw [HL.out.2, HQ.out, HNL.out, List.take_length]⟩
        clear HP HQ HL
        go_wp2_with fail
        refine bodyPost_ret (v := .tuple #[.int .i64 p, .int .i64 q, .bool true, .int .i64 0]) (by simp [results, Tryz.results18, go_sem]) rfl ?_
        exact ⟨by rw [HP2.out.1, HP2.out.2, HB2.out], HN1.out.trans HN.out⟩

end Go.Proofs.YtccikeagbillgaaGreat
