import Derived.Test.YteoongcajfcgcaaClOZ6

/- Package clip: Over, Columns. -/
namespace Go.Proofs.Yteoongcajfcgcaa
open Go.RowKit
set_option linter.unusedVariables false

/-- The least floor, the greatest ceiling. -/
def loF (l : List Co) : Int := l.foldl (fun a c => min a (flC c)) 2048
def hiF (l : List Co) : Int := l.foldl (fun a c => max a (clC c)) (-2048)
theorem loF_snoc (l : List Co) (c : Co) : loF (l ++ [c]) = min (loF l) (flC c) := by unfold loF; rw [List.foldl_append]; rfl
theorem hiF_snoc (l : List Co) (c : Co) : hiF (l ++ [c]) = max (hiF l) (clC c) := by unfold hiF; rw [List.foldl_append]; rfl

theorem minf_spec (f : Co → Int) : ∀ (l : List Co) (a : Int), l.foldl (fun a c => min a (f c)) a ≤ a ∧ (∀ c ∈ l, l.foldl (fun a c => min a (f c)) a ≤ f c) ∧ (l.foldl (fun a c => min a (f c)) a = a ∨ ∃ c ∈ l, l.foldl (fun a c => min a (f c)) a = f c)
  | [], a => ⟨Int.le_refl _, fun c hc => (by cases hc), .inl rfl⟩
  | b :: l, a => by
    obtain ⟨h1, h2, h3⟩ := minf_spec f l (min a (f b))
    simp only [List.foldl_cons]
    refine ⟨by omega, fun c hc => ?_, ?_⟩
    · rcases List.mem_cons.1 hc with rfl | hc
      · omega
      · exact h2 c hc
    · rcases h3 with h3 | ⟨c, hc, h3⟩
      · rcases (show min a (f b) = a ∨ min a (f b) = f b by omega) with q | q
        · left; omega
        · right; exact ⟨b, List.mem_cons_self, by omega⟩
      · right; exact ⟨c, List.mem_cons_of_mem _ hc, h3⟩
theorem maxf_spec (f : Co → Int) : ∀ (l : List Co) (a : Int), a ≤ l.foldl (fun a c => max a (f c)) a ∧ (∀ c ∈ l, f c ≤ l.foldl (fun a c => max a (f c)) a) ∧ (l.foldl (fun a c => max a (f c)) a = a ∨ ∃ c ∈ l, l.foldl (fun a c => max a (f c)) a = f c)
  | [], a => ⟨Int.le_refl _, fun c hc => (by cases hc), .inl rfl⟩
  | b :: l, a => by
    obtain ⟨h1, h2, h3⟩ := maxf_spec f l (max a (f b))
    simp only [List.foldl_cons]
    refine ⟨by omega, fun c hc => ?_, ?_⟩
    · rcases List.mem_cons.1 hc with rfl | hc
      · omega
      · exact h2 c hc
    · rcases h3 with h3 | ⟨c, hc, h3⟩
      · rcases (show max a (f b) = a ∨ max a (f b) = f b by omega) with q | q
        · left; omega
        · right; exact ⟨b, List.mem_cons_self, by omega⟩
      · right; exact ⟨c, List.mem_cons_of_mem _ hc, h3⟩
theorem loF_congr {l m : List Co} (h : ∀ c, c ∈ l ↔ c ∈ m) : loF l = loF m := by
  obtain ⟨a1, a2, a3⟩ := minf_spec flC l 2048
  obtain ⟨b1, b2, b3⟩ := minf_spec flC m 2048
  unfold loF
  generalize l.foldl (fun a c => min a (flC c)) 2048 = p at *
  generalize m.foldl (fun a c => min a (flC c)) 2048 = q at *
  have k1 : p ≤ q := by
    rcases b3 with e | ⟨c, hc, e⟩
    · omega
    · rw [e]; exact a2 c ((h c).2 hc)
  have k2 : q ≤ p := by
    rcases a3 with e | ⟨c, hc, e⟩
    · omega
    · rw [e]; exact b2 c ((h c).1 hc)
  omega
theorem hiF_congr {l m : List Co} (h : ∀ c, c ∈ l ↔ c ∈ m) : hiF l = hiF m := by
  obtain ⟨a1, a2, a3⟩ := maxf_spec clC l (-2048)
  obtain ⟨b1, b2, b3⟩ := maxf_spec clC m (-2048)
  unfold hiF
  generalize l.foldl (fun a c => max a (clC c)) (-2048) = p at *
  generalize m.foldl (fun a c => max a (clC c)) (-2048) = q at *
  have k1 : q ≤ p := by
    rcases b3 with e | ⟨c, hc, e⟩
    · omega
    · rw [e]; exact a2 c ((h c).2 hc)
  have k2 : p ≤ q := by
    rcases a3 with e | ⟨c, hc, e⟩
    · omega
    · rw [e]; exact b2 c ((h c).1 hc)
  omega

/-- What Over tells. -/
def ovB (T : TriR) (x z : Int) : Bool := corE T x z == 0 && !(comL T x z).isEmpty
def ovLo (T : TriR) (x z : Int) : Int := if ovB T x z then loF (comL T x z) else 0
def ovHi (T : TriR) (x z : Int) : Int := if ovB T x z then hiF (comL T x z) else 0

set_option maxHeartbeats 4000000 in
set_option maxRecDepth 100000 in
theorem k_over (T : TriR) (x z : Int) (w : World) :
    Calls Try.prog 7 #[.agg #[.int .i64 T.i, .int .i64 T.x0, .int .i64 T.y0, .int .i64 T.z0, .int .i64 T.x1, .int .i64 T.y1, .int .i64 T.z1, .int .i64 T.x2, .int .i64 T.y2, .int .i64 T.z2], .int .i64 x, .int .i64 z] w fun e w' => e = .returned (.tuple #[.int .i64 (ovLo T x z), .int .i64 (ovHi T x z), .bool (ovB T x z), .int .i64 (corE T x z)]) ∧ New w w' := by
  by_cases hE : corE T x z = 0
  rotate_left
  · have KB := fun W => k_cor_bad T x z W hE
    have e : ovB T x z = false := by unfold ovB; rw [beq_eq_false_iff_ne.2 hE]; rfl
    have e1 : ovLo T x z = 0 := by unfold ovLo; rw [e]; rfl
    have e2 : ovHi T x z = 0 := by unfold ovHi; rw [e]; rfl
    rw [e, e1, e2]
    generalize corE T x z = er at *
    have hb : (er != 0) = true := by rw [bne_iff_ne]; exact hE
    replace KB := Lib.hid KB
    clear e e1 e2 hE
    go_enter Try.func7, Try.ntmps7
    go_wp2_with fail
    refine (KB.out _).mono ?_
    rintro e W1 ⟨rfl, n1⟩
    have hn : New w W1 := New.trans (by (repeat (first | (with_reducible exact New.refl _) | (with_reducible assumption) | ((with_reducible refine New.setB ?_ ?_ _); focus (first | omega | (simp; omega) | (simp; done))) | (with_reducible refine New.alloc ?_ _) | (with_reducible refine New.drew ?_) | (with_reducible refine New.drewN ?_ _) | (with_reducible refine New.hat ?_ _) | ((with_reducible apply New.snart); (with_reducible assumption))))) n1
    clear n1
    go_wp2_with fail
    refine bodyPost_ret (v := .tuple #[.int .i64 0, .int .i64 0, .bool false, .int .i64 er]) (by simp [results, Try.results7, go_sem, *]) rfl ?_
    exact ⟨rfl, hn⟩
  have KK := Lib.hid (fun W => k_cor T x z W hE)
  have HB : Hid (ovB T x z = !(comL T x z).isEmpty) := Lib.hid (by unfold ovB; rw [hE]; rfl)
  obtain ⟨lo, hlo⟩ : ∃ lo, lo = ovLo T x z := ⟨_, rfl⟩
  obtain ⟨hi, hhi⟩ : ∃ hi, hi = ovHi T x z := ⟨_, rfl⟩
  rw [hE, ← hlo, ← hhi]
  have HLO := Lib.hid hlo
  have HHI := Lib.hid hhi
  clear hlo hhi hE
  go_enter Try.func7, Try.ntmps7
  go_wp2_with fail
  refine (KK.out _).mono ?_
  rintro e W1 ⟨v, R, rfl, hs, hc, n1⟩
  obtain ⟨at0, cap, rfl, h1, h2, h3, h4⟩ := hs
  have hn : New w W1 := New.trans (by (repeat (first | (with_reducible exact New.refl _) | (with_reducible assumption) | ((with_reducible refine New.setB ?_ ?_ _); focus (first | omega | (simp; omega) | (simp; done))) | (with_reducible refine New.alloc ?_ _) | (with_reducible refine New.drew ?_) | (with_reducible refine New.drewN ?_ _) | (with_reducible refine New.hat ?_ _) | ((with_reducible apply New.snart); (with_reducible assumption))))) n1
  clear n1 KK
  by_cases h0 : R.length = 0
  · have hR : R = [] := List.eq_nil_of_length_eq_zero h0
    subst hR
    have hem : comL T x z = [] := List.eq_nil_iff_forall_not_mem.2 fun c hm => by have := (hc.mem c).2 hm; cases this
    have HB2 : Hid (ovB T x z = false) := Lib.hid (by rw [HB.out, hem]; rfl)
    have HL : Hid (lo = 0 ∧ hi = 0) := Lib.hid ⟨by rw [HLO.out]; unfold ovLo; rw [HB2.out]; rfl, by rw [HHI.out]; unfold ovHi; rw [HB2.out]; rfl⟩
    clear hem hc h4 h0 HB HLO HHI
    go_wp2_with fail
    refine bodyPost_ret (v := .tuple #[.int .i64 0, .int .i64 0, .bool false, .int .i64 0]) (by simp [results, Try.results7, go_sem]) rfl ?_
    exact ⟨by rw [HL.out.1, HL.out.2, HB2.out], hn⟩
  · have hem : (comL T x z).isEmpty = false := by
      cases hq : comL T x z with
      | nil => exfalso; apply h0; cases hr : R with
        | nil => rfl
        | cons c m => have := (hc.mem c).1 (by rw [hr]; exact List.mem_cons_self); rw [hq] at this; cases this
      | cons c m => rfl
    have HB2 : Hid (ovB T x z = true) := Lib.hid (by rw [HB.out, hem]; rfl)
    have HL : Hid (lo = loF R ∧ hi = hiF R) := Lib.hid ⟨by rw [HLO.out]; unfold ovLo; rw [HB2.out, if_pos rfl]; exact (loF_congr hc.mem).symm, by rw [HHI.out]; unfold ovHi; rw [HB2.out, if_pos rfl]; exact (hiF_congr hc.mem).symm⟩
    obtain ⟨b, off, rfl, hrow⟩ := h4 (by omega)
    have HR := Lib.hid hrow
    obtain ⟨n, hnl⟩ : ∃ n, n = R.length := ⟨_, rfl⟩
    rw [← hnl] at h0 h1 ⊢
    have HNL := Lib.hid hnl
    have hne : ((n : Int) == 0) = false := by rw [beq_eq_false_iff_ne]; omega
    have HF := Lib.hid (fun y d W => k_floor y d W)
    have HCL := Lib.hid (fun y d W => k_ceil y d W)
    have KP := Lib.hid (fun a b c d W => k_parts a b c d W)
    have HN1 := Lib.hid hn
    unfold maxLen at h2
    clear hem hc hrow hnl HB HLO HHI h3 h4 hn
    go_wp2_with fail
    go_loopg [6, 7, 33] n (fun gk s6 s7 s33 wr => ∃ (j : Nat) (p q : Int), s6 = .int .i64 p ∧ s7 = .int .i64 q ∧ s33 = .int .i64 j ∧ j ≤ n ∧ n - j ≤ gk ∧ Hid (p = loF (R.take j)) ∧ Hid (q = hiF (R.take j)) ∧ Hid (New W1 wr))
    case atStart => exact ⟨0, 2048, -2048, rfl, rfl, rfl, by omega, by omega, Lib.hid rfl, Lib.hid rfl, Lib.hid (New.refl _)⟩
    case round =>
      obtain ⟨j, p, q, rfl, rfl, rfl, hj, hgk, HP, HQ, HN⟩ := hrel
      by_cases hlt : j < n
      · have hjl : j < R.length := by rw [← HNL.out]; exact hlt
        have hrow := HR.out.keep HN.out
        have r0 := hrow j hjl 0 (by rw [Co.enc_len]; omega)
        have r1 := hrow j hjl 1 (by rw [Co.enc_len]; omega)
        have r2 := hrow j hjl 2 (by rw [Co.enc_len]; omega)
        have r3 := hrow j hjl 3 (by rw [Co.enc_len]; omega)
        simp only [Nat.add_zero] at r0
        change wr.cell? ⟨b, off + j * 4, none⟩ = some (.int .i64 R[j].x) at r0
        change wr.cell? ⟨b, off + j * 4 + 1, none⟩ = some (.int .i64 R[j].z) at r1
        change wr.cell? ⟨b, off + j * 4 + 2, none⟩ = some (.int .i64 R[j].y) at r2
        change wr.cell? ⟨b, off + j * 4 + 3, none⟩ = some (.int .i64 R[j].d) at r3
        have zb : b < wr.heap.size := World.block_lt_of_cell? _ _ r0
        have HP2 : Hid (min p (floorI R[j].y R[j].d) = loF (R.take (j + 1))) := Lib.hid (by rw [List.take_succ_eq_append_getElem hjl, loF_snoc, ← HP.out]; rfl)
        have HQ2 : Hid (max q (ceilI R[j].y R[j].d) = hiF (R.take (j + 1))) := Lib.hid (by rw [List.take_succ_eq_append_getElem hjl, hiF_snoc, ← HQ.out]; rfl)
        have KF := Lib.hid (fun W => HF.out R[j].y R[j].d W)
        have KG := Lib.hid (fun W => HCL.out R[j].y R[j].d W)
        have KQ := Lib.hid (fun W => KP.out R[j].x R[j].z R[j].y R[j].d W)
        clear hrow HP HQ
        generalize R[j].x = cx at *
        generalize R[j].z = cz at *
        generalize R[j].y = cy at *
        generalize R[j].d = cd at *
        generalize floorI cy cd = fy at *
        generalize ceilI cy cd = gy at *
        go_wp2_with fail
        refine Calls.at (fun V hV => ?_)
        have n1 : New wr V := by subst hV; (repeat (first | (with_reducible exact New.refl _) | (with_reducible assumption) | ((with_reducible refine New.setB ?_ ?_ _); focus (first | omega | (simp; omega) | (simp; done))) | (with_reducible refine New.alloc ?_ _) | (with_reducible refine New.drew ?_) | (with_reducible refine New.drewN ?_ _) | (with_reducible refine New.hat ?_ _) | ((with_reducible apply New.snart); (with_reducible assumption))))
        clear hV
        refine (KQ.out V).mono ?_
        rintro e W2 ⟨rfl, g2⟩
        replace n1 := n1.trans g2.1
        clear g2 r0 r1 r2 r3 KQ
        go_upto_region 9 with fail
        refine Code.at (fun W3 hW => ?_)
        have n3 : New W2 W3 := by subst hW; (repeat (first | (with_reducible exact New.refl _) | (with_reducible assumption) | ((with_reducible refine New.setB ?_ ?_ _); focus (first | omega | (simp; omega) | (simp; done))) | (with_reducible refine New.alloc ?_ _) | (with_reducible refine New.drew ?_) | (with_reducible refine New.drewN ?_ _) | (with_reducible refine New.hat ?_ _) | ((with_reducible apply New.snart); (with_reducible assumption))))
        have e0 : W3.cell? ⟨W2.heap.size + 1 + 1, 0, none⟩ = some (.int .i64 cy) := by subst hW; go_simp
        have e1 : W3.cell? ⟨W2.heap.size + 1 + 1, 1, none⟩ = some (.int .i64 cd) := by subst hW; go_simp
        clear hW
        have HN2 := Lib.hid ((HN.out.trans n1).trans n3)
        clear n1 n3 HN zb
        (refine wp_region_hat (by kernel_rfl) (by kernel_rfl) ?_; intro hatc hatf; (repeat (go_big_quiet_step ((first | (go_at_call 17; with_reducible exact Calls.hat (KF.out _)) | (go_at_call 18; with_reducible exact Calls.hat (KG.out _)))))); refine wpQuiet_nil ?_; rintro _ ⟨y, rfl⟩)
        have HN3 := Lib.hid (HN2.out.trans y.h)
        clear hatc hatf e0 e1 KF KG HN2
        generalize y.w = W4 at *
        clear y
        go_wp2_with fail
        go_roundg (n - (j + 1))
        case measure => omega
        case rel => exact ⟨j + 1, _, _, rfl, rfl, by go_num, by omega, by omega, HP2, HQ2, HN3⟩
      · have e : j = n := by omega
        subst e
        have HP2 : Hid (p = lo ∧ q = hi) := Lib.hid ⟨by rw [HL.out.1, HP.out, HNL.out, List.take_length], by rw [HL.out.2, HQ.out, HNL.out, List.take_length]⟩
        clear HP HQ HL
        go_wp2_with fail
        refine bodyPost_ret (v := .tuple #[.int .i64 p, .int .i64 q, .bool true, .int .i64 0]) (by simp [results, Try.results7, go_sem]) rfl ?_
        exact ⟨by rw [HP2.out.1, HP2.out.2, HB2.out], HN1.out.trans HN.out⟩

set_option maxHeartbeats 4000000 in
set_option maxRecDepth 100000 in
theorem k_columns (T : TriR) (w : World) :
    Calls Try.prog 12 #[.agg #[.int .i64 T.i, .int .i64 T.x0, .int .i64 T.y0, .int .i64 T.z0, .int .i64 T.x1, .int .i64 T.y1, .int .i64 T.z1, .int .i64 T.x2, .int .i64 T.y2, .int .i64 T.z2]] w fun e w' => e = .returned (.tuple #[.int .i64 (if okT T then minI T.x0 T.x1 T.x2 - 1 else 0), .int .i64 (if okT T then minI T.z0 T.z1 T.z2 - 1 else 0), .int .i64 (if okT T then maxI T.x0 T.x1 T.x2 else 0), .int .i64 (if okT T then maxI T.z0 T.z1 T.z2 else 0), .int .i64 (chkE T)]) ∧ New w w' := by
  have KC := fun W => k_check T W
  have KB := Lib.hid (fun W => t_bounds T.i T.x0 T.y0 T.z0 T.x1 T.y1 T.z1 T.x2 T.y2 T.z2 W)
  unfold chkE at KC ⊢
  cases hk : okT T
  · rw [hk] at KC
    simp only [Bool.false_eq_true, if_false] at KC ⊢
    replace KC := Lib.hid KC
    clear hk
    go_enter Try.func12, Try.ntmps12
    go_wp2_with fail
    refine (KC.out _).mono ?_
    rintro e W1 ⟨rfl, n1⟩
    have hn : New w W1 := New.trans (by (repeat (first | (with_reducible exact New.refl _) | (with_reducible assumption) | ((with_reducible refine New.setB ?_ ?_ _); focus (first | omega | (simp; omega) | (simp; done))) | (with_reducible refine New.alloc ?_ _) | (with_reducible refine New.drew ?_) | (with_reducible refine New.drewN ?_ _) | (with_reducible refine New.hat ?_ _) | ((with_reducible apply New.snart); (with_reducible assumption))))) n1
    clear n1
    go_wp2_with fail
    refine bodyPost_ret (v := .tuple #[.int .i64 0, .int .i64 0, .int .i64 0, .int .i64 0, .int .i64 40]) (by simp [results, Try.results12, go_sem, *]) rfl ?_
    exact ⟨rfl, hn⟩
  · rw [hk] at KC
    simp only [if_true] at KC ⊢
    have hs := ok_in hk
    unfold StP StV at hs
    have b1 : 0 ≤ minI T.x0 T.x1 T.x2 ∧ minI T.x0 T.x1 T.x2 ≤ 32 := by unfold minI; omega
    have b2 : 0 ≤ minI T.z0 T.z1 T.z2 ∧ minI T.z0 T.z1 T.z2 ≤ 32 := by unfold minI; omega
    generalize minI T.x0 T.x1 T.x2 = lx at *
    generalize minI T.z0 T.z1 T.z2 = lz at *
    generalize maxI T.x0 T.x1 T.x2 = gx at *
    generalize maxI T.z0 T.z1 T.z2 = gz at *
    generalize minI T.y0 T.y1 T.y2 = ly at *
    generalize maxI T.y0 T.y1 T.y2 = gy at *
    have w1 : IntKind.i64.wrap (lx - 1) = lx - 1 := IntWalk.i64_in _ (by omega)
    have w2 : IntKind.i64.wrap (lz - 1) = lz - 1 := IntWalk.i64_in _ (by omega)
    replace KC := Lib.hid KC
    clear hk hs
    go_enter Try.func12, Try.ntmps12
    go_wp2_with fail
    refine (KC.out _).mono ?_
    rintro e W1 ⟨rfl, n1⟩
    have c0 : W1.cell? ⟨w.heap.size, 0, none⟩ = some (.int .i64 T.i) := n1.keep (by go_simp)
    have c1 : W1.cell? ⟨w.heap.size, 1, none⟩ = some (.int .i64 T.x0) := n1.keep (by go_simp)
    have c2 : W1.cell? ⟨w.heap.size, 2, none⟩ = some (.int .i64 T.y0) := n1.keep (by go_simp)
    have c3 : W1.cell? ⟨w.heap.size, 3, none⟩ = some (.int .i64 T.z0) := n1.keep (by go_simp)
    have c4 : W1.cell? ⟨w.heap.size, 4, none⟩ = some (.int .i64 T.x1) := n1.keep (by go_simp)
    have c5 : W1.cell? ⟨w.heap.size, 5, none⟩ = some (.int .i64 T.y1) := n1.keep (by go_simp)
    have c6 : W1.cell? ⟨w.heap.size, 6, none⟩ = some (.int .i64 T.z1) := n1.keep (by go_simp)
    have c7 : W1.cell? ⟨w.heap.size, 7, none⟩ = some (.int .i64 T.x2) := n1.keep (by go_simp)
    have c8 : W1.cell? ⟨w.heap.size, 8, none⟩ = some (.int .i64 T.y2) := n1.keep (by go_simp)
    have c9 : W1.cell? ⟨w.heap.size, 9, none⟩ = some (.int .i64 T.z2) := n1.keep (by go_simp)
    have hn : New w W1 := New.trans (by (repeat (first | (with_reducible exact New.refl _) | (with_reducible assumption) | ((with_reducible refine New.setB ?_ ?_ _); focus (first | omega | (simp; omega) | (simp; done))) | (with_reducible refine New.alloc ?_ _) | (with_reducible refine New.drew ?_) | (with_reducible refine New.drewN ?_ _) | (with_reducible refine New.hat ?_ _) | ((with_reducible apply New.snart); (with_reducible assumption))))) n1
    clear n1 KC
    go_wp2_with fail
    refine (KB.out _).mono ?_
    rintro e W2 ⟨rfl, n2⟩
    replace hn := hn.trans n2
    clear n2 KB c0 c1 c2 c3 c4 c5 c6 c7 c8 c9
    have z2 := hn.size
    go_upto_region 5 with fail
    go_region
    all_goals
      go_wp2_with fail
      refine bodyPost_ret (v := .tuple #[.int .i64 (lx - 1), .int .i64 (lz - 1), .int .i64 gx, .int .i64 gz, .int .i64 0]) (by simp [results, Try.results12, go_sem, *]) rfl ?_
      exact ⟨rfl, by (repeat (first | (with_reducible exact New.refl _) | (with_reducible assumption) | ((with_reducible refine New.setB ?_ ?_ _); focus (first | omega | (simp; omega) | (simp; done))) | (with_reducible refine New.alloc ?_ _) | (with_reducible refine New.drew ?_) | (with_reducible refine New.drewN ?_ _) | (with_reducible refine New.hat ?_ _) | ((with_reducible apply New.snart); (with_reducible assumption))))⟩

end Go.Proofs.Yteoongcajfcgcaa
