import Derived.Test.YtklopjbpfddgfaaGreatClOZ12

/- Package clip: Over, Columns. -/
namespace Go.Proofs.YtklopjbpfddgfaaGreat
open Go.RowKit
set_option linter.unusedVariables false

/-- The least floor, the greatest ceiling. -/
def loF (l : List Co) : Int := l.foldl (fun a c => min a (flC c)) 2048
def hiF (l : List Co) : Int := l.foldl (fun a c => max a (clC c)) (-2048)
theorem loF_snoc (l : List Co) (c : Co) : loF (l ++ [c]) = min (loF l) (flC c) := by unfold loF; rw [List.foldl_append]; rfl
theorem hiF_snoc (l : List Co) (c : Co) : hiF (l ++ [c]) = max (hiF l) (clC c) := by unfold hiF; rw [List.foldl_append]; rfl

theorem minf_spec (f : Co → Int) : ∀ (l : List Co) (a : Int), l.foldl (fun a c => min a (f c)) a ≤ a ∧ (∀ c ∈ l, l.foldl (fun a c => min a (f c)) a ≤ f c) ∧ (l.foldl (fun a c => min a (f c)) a = a ∨ ∃ c ∈ l, l.foldl (fun a c => min a (f c)) a = f c)
  | [], a => ⟨Int.le_refl _, fun c hc => (by cases hc), .inl rfl⟩
  | b :: l, a => by
    obtain ⟨h1, h2, h3⟩ := minf_spec f l (min a (f b))
    simp only [List.foldl_cons]
    refine ⟨by omega, fun c hc => ?_, ?_⟩
    · rcases List.mem_cons.1 hc with rfl | hc
      · omega
      · exact h2 c hc
    · rcases h3 with h3 | ⟨c, hc, h3⟩
      · rcases (show min a (f b) = a ∨ min a (f b) = f b by omega) with q | q
        · left; omega
        · right; exact ⟨b, List.mem_cons_self, by omega⟩
      · right; exact ⟨c, List.mem_cons_of_mem _ hc, h3⟩
theorem maxf_spec (f : Co → Int) : ∀ (l : List Co) (a : Int), a ≤ l.foldl (fun a c => max a (f c)) a ∧ (∀ c ∈ l, f c ≤ l.foldl (fun a c => max a (f c)) a) ∧ (l.foldl (fun a c => max a (f c)) a = a ∨ ∃ c ∈ l, l.foldl (fun a c => max a (f c)) a = f c)
  | [], a => ⟨Int.le_refl _, fun c hc => (by cases hc), .inl rfl⟩
  | b :: l, a => by
    obtain ⟨h1, h2, h3⟩ := maxf_spec f l (max a (f b))
    simp only [List.foldl_cons]
    refine ⟨by omega, fun c hc => ?_, ?_⟩
    · rcases List.mem_cons.1 hc with rfl | hc
      · omega
      · exact h2 c hc
    · rcases h3 with h3 | ⟨c, hc, h3⟩
      · rcases (show max a (f b) = a ∨ max a (f b) = f b by omega) with q | q
        · left; omega
        · right; exact ⟨b, List.mem_cons_self, by omega⟩
      · right; exact ⟨c, List.mem_cons_of_mem _ hc, h3⟩
theorem loF_congr {l m : List Co} (h : ∀ c, c ∈ l ↔ c ∈ m) : loF l = loF m := by
  obtain ⟨a1, a2, a3⟩ := minf_spec flC l 2048
  obtain ⟨b1, b2, b3⟩ := minf_spec flC m 2048
  unfold loF
  generalize l.foldl (fun a c => min a (flC c)) 2048 = p at *
  generalize m.foldl (fun a c => min a (flC c)) 2048 = q at *
  have k1 : p ≤ q := by
    rcases b3 with e | ⟨c, hc, e⟩
    · omega
    · rw [e]; exact a2 c ((h c).2 hc)
  have k2 : q ≤ p := by
    rcases a3 with e | ⟨c, hc, e⟩
    · omega
    · rw [e]; exact b2 c ((h c).1 hc)
  omega
theorem hiF_congr {l m : List Co} (h : ∀ c, c ∈ l ↔ c ∈ m) : hiF l = hiF m := by
  obtain ⟨a1, a2, a3⟩ := maxf_spec clC l (-2048)
  obtain ⟨b1, b2, b3⟩ := maxf_spec clC m (-2048)
  unfold hiF
  generalize l.foldl (fun a c => max a (clC c)) (-2048) = p at *
  generalize m.foldl (fun a c => max a (clC c)) (-2048) = q at *
  have k1 : q ≤ p := by
    rcases b3 with e | ⟨c, hc, e⟩
    · omega
    · rw [e]; exact a2 c ((h c).2 hc)
  have k2 : p ≤ q := by
    rcases a3 with e | ⟨c, hc, e⟩
    · omega
    · rw [e]; exact b2 c ((h c).1 hc)
  omega

/-- What Over tells. -/
def ovB (T : TriR) (x z : Int) : Bool := corE T x z == 0 && !(comL T x z).isEmpty
def ovLo (T : TriR) (x z : Int) : Int := if ovB T x z then loF (comL T x z) else 0
def ovHi (T : TriR) (x z : Int) : Int := if ovB T x z then hiF (comL T x z) else 0

set_option maxHeartbeats 4000000 in
set_option maxRecDepth 100000 in
theorem k_over (T : TriR) (x z : Int) (w : World) :
    Calls Tryz.prog 62 #[.agg #[.int .i64 T.i, .int .i64 T.x0, .int .i64 T.y0, .int .i64 T.z0, .int .i64 T.x1, .int .i64 T.y1, .int .i64 T.z1, .int .i64 T.x2, .int .i64 T.y2, .int .i64 T.z2], .int .i64 x, .int .i64 z] w fun e w' => e = .returned (.tuple #[.int .i64 (ovLo T x z), .int .i64 (ovHi T x z), .bool (ovB T x z), .int .i64 (corE T x z)]) ∧ New w w' := by
  by_cases hE : corE T x z = 0
  rotate_left
  · have KB := fun W => k_cor_bad T x z W hE
    have e : ovB T x z = false := by unfold ovB; rw [beq_eq_false_iff_ne.2 hE]; rfl
    have e1 : ovLo T x z = 0 := by unfold ovLo; rw [e]; rfl
    have e2 : ovHi T x z = 0 := by unfold ovHi; rw [e]; rfl
    rw [e, e1, e2]
    generalize corE T x z = er at *
    have hb : (er != 0) = true := by rw [bne_iff_ne]; exact hE
    replace KB := Lib.hid KB
    clear e e1 e2 hE
    go_enter Tryz.func62, Tryz.ntmps62
    go_wp2_with fail
    refine (KB.out _).mono ?_
    rintro e W1 ⟨rfl, n1⟩
    have hn : New w W1 := New.trans (by (repeat (first | (with_reducible exact New.refl _) | (with_reducible assumption) | ((with_reducible refine New.setB ?_ ?_ _); focus (first | omega | (simp; omega) | (simp; done))) | (with_reducible refine New.alloc ?_ _) | (with_reducible refine New.drew ?_) | (with_reducible refine New.drewN ?_ _) | (with_reducible refine New.hat ?_ _) | ((with_reducible apply New.snart); (with_reducible assumption))))) n1
    clear n1
    go_wp2_with fail
    refine bodyPost_ret (v := .tuple #[.int .i64 0, .int .i64 0, .bool false, .int .i64 er]) (by simp [results, Tryz.results62, go_sem, *]) rfl ?_
    exact ⟨rfl, hn⟩
  have KK := Lib.hid (fun W => k_cor T x z W hE)
  have HB : Hid (ovB T x z = !(comL T x z).isEmpty) := Lib.hid (by unfold ovB; rw [hE]; rfl)
  obtain ⟨lo, hlo⟩ : ∃ lo, lo = ovLo T x z := ⟨_, rfl⟩
  obtain ⟨hi, hhi⟩ : ∃ hi, hi = ovHi T x z := ⟨_, rfl⟩
  rw [hE, ← hlo, ← hhi]
  have HLO := Lib.hid hlo
  have HHI := Lib.hid hhi
  clear hlo hhi hE
  go_enter Tryz.func62, Tryz.ntmps62
  go_wp2_with fail
  refine (KK.out _).mono ?_
  rintro e W1 ⟨v, R, rfl, hs, hc, n1⟩
  obtain ⟨at0, cap, rfl, h1, h2, h3, h4⟩ := hs
  have hn : New w W1 := New.trans (by (repeat (first | (with_reducible exact New.refl _) | (with_reducible assumption) | ((with_reducible refine New.setB ?_ ?_ _); focus (first | omega | (simp; omega) | (simp; done))) | (with_reducible refine New.alloc ?_ _) | (with_reducible refine New.drew ?_) | (with_reducible refine New.drewN ?_ _) | (with_reducible refine New.hat ?_ _) | ((with_reducible apply New.snart); (with_reducible assumption))))) n1
  clear n1 KK
  by_cases h0 : R.length = 0
  · have hR : R = [] := List.eq_nil_of_length_eq_zero h0
    subst hR
    have hem : comL T x z = [] := List.eq_nil_iff_forall_not_mem.2 fun c hm => by have := (hc.mem c).2 hm; cases this
    have HB2 : Hid (ovB T x z = false) := Lib.hid (by rw [HB.out, hem]; rfl)
    have HL : Hid (lo = 0 ∧ hi = 0) := Lib.hid ⟨by rw [HLO.out]; unfold ovLo; rw [HB2.out]; rfl, by rw [HHI.out]; unfold ovHi; rw [HB2.out]; rfl⟩
    clear hem hc h4 h0 HB HLO HHI
    go_wp2_with fail
    refine bodyPost_ret (v := .tuple #[.int .i64 0, .int .i64 0, .bool false, .int .i64 0]) (by simp [results, Tryz.results62, go_sem]) rfl ?_
    exact ⟨by rw [HL.out.1, HL.out.2, HB2.out], hn⟩
  · have hem : (comL T x z).isEmpty = false := by
      cases hq : comL T x z with
      | nil => exfalso; apply h0; cases hr : R with
        | nil => rfl
        | cons c m => have := (hc.mem c).1 (by rw [hr]; exact List.mem_cons_self); rw [hq] at this; cases this
      | cons c m => rfl
    have HB2 : Hid (ovB T x z = true) := Lib.hid (by rw [HB.out, hem]; rfl)
    have HL : Hid (lo = loF R ∧ hi = hiF R) := Lib.hid ⟨by rw [HLO.out]; unfold ovLo; rw [HB2.out, if_pos rfl]; exact (loF_congr hc.mem).symm, by rw [HHI.out]; unfold ovHi; rw [HB2.out, if_pos rfl]; exact (hiF_congr hc.mem).symm⟩
    obtain ⟨b, off, rfl, hrow⟩ := h4 (by omega)
    have HR := Lib.hid hrow
    obtain ⟨n, hnl⟩ : ∃ n, n = R.length := ⟨_, rfl⟩
    rw [← hnl] at h0 h1 ⊢
    have HNL := Lib.hid hnl
    have hne : ((n : Int) == 0) = false := by rw [beq_eq_false_iff_ne]; omega
    have HF := Lib.hid (fun y d W => k_floor y d W)
    have HCL := Lib.hid (fun y d W => k_ceil y d W)
    have KP := Lib.hid (fun a b c d W => k_parts a b c d W)
    have HN1 := Lib.hid hn
    unfold maxLen at h2
    clear hem hc hrow hnl HB HLO HHI h3 h4 hn
    go_wp2_with fail
    go_loopg [6, 7, 33] n (fun gk s6 s7 s33 wr => ∃ (j : Nat) (p q : Int), s6 = .int .i64 p ∧ s7 = .int .i64 q ∧ s33 = .int .i64 j ∧ j ≤ n ∧ n - j ≤ gk ∧ Hid (p = loF (R.take j)) ∧ Hid (q = hiF (R.take j)) ∧ Hid (New W1 wr))
    case atStart => exact ⟨0, 2048, -2048, rfl, rfl, rfl, by omega, by omega, Lib.hid rfl, Lib.hid rfl, Lib.hid (New.refl _)⟩
    case round =>
      obtain ⟨j, p, q, rfl, rfl, rfl, hj, hgk, HP, HQ, HN⟩ := hrel
      by_cases hlt : j < n
      · have hjl : j < R.length := by rw [← HNL.out]; exact hlt
        have hrow := HR.out.keep HN.out
        have r0 := hrow j hjl 0 (by rw [Co.enc_len]; omega)
        have r1 := hrow j hjl 1 (by rw [Co.enc_len]; omega)
        have r2 := hrow j hjl 2 (by rw [Co.enc_len]; omega)
        have r3 := hrow j hjl 3 (by rw [Co.enc_len]; omega)
        simp only [Nat.add_zero] at r0
        change wr.cell? ⟨b, off + j * 4, none⟩ = some (.int .i64 R[j].x) at r0
        change wr.cell? ⟨b, off + j * 4 + 1, none⟩ = some (.int .i64 R[j].z) at r1
        change wr.cell? ⟨b, off + j * 4 + 2, none⟩ = some (.int .i64 R[j].y) at r2
        change wr.cell? ⟨b, off + j * 4 + 3, none⟩ = some (.int .i64 R[j].d) at r3
        have zb : b < wr.heap.size := World.block_lt_of_cell? _ _ r0
        have HP2 : Hid (min p (floorI R[j].y R[j].d) = loF (R.take (j + 1))) := Lib.hid (by rw [List.take_succ_eq_append_getElem hjl, loF_snoc, ← HP.out]; rfl)
        have HQ2 : Hid (max q (ceilI R[j].y R[j].d) = hiF (R.take (j + 1))) := Lib.hid (by rw [List.take_succ_eq_append_getElem hjl, hiF_snoc, ← HQ.out]; rfl)
        have KF := Lib.hid (fun W => HF.out R[j].y R[j].d W)
        have KG := Lib.hid (fun W => HCL.out R[j].y R[j].d W)
        have KQ := Lib.hid (fun W => KP.out R[j].x R[j].z R[j].y R[j].d W)
        clear hrow HP HQ
        generalize R[j].x = cx at *
        generalize R[j].z = cz at *
        generalize R[j].y = cy at *
        generalize R[j].d = cd at *
        generalize floorI cy cd = fy at *
        generalize ceilI cy cd = gy at *
        go_wp2_with fail
        refine Calls.at (fun V hV => ?_)
        have n1 : New wr V := by subst hV; (repeat (first | (with_reducible exact New.refl _) | (with_reducible assumption) | ((with_reducible refine New.setB ?_ ?_ _); focus (first | omega | (simp; omega) | (simp; done))) | (with_reducible refine New.alloc ?_ _) | (with_reducible refine New.drew ?_) | (with_reducible refine New.drewN ?_ _) | (with_reducible refine New.hat ?_ _) | ((with_reducible apply New.snart); (with_reducible assumption))))
        clear hV
        refine (KQ.out V).mono ?_
        rintro e W2 ⟨rfl, g2⟩
        replace n1 := n1.trans g2.1
        clear g2 r0 r1 r2 r3 KQ
        go_upto_region 9 with fail
        refine Code.at (fun W3 hW => ?_)
        have n3 : New W2 W3 := by subst hW; (repeat (first | (with_reducible exact New.refl _) | (with_reducible assumption) | ((with_reducible refine New.setB ?_ ?_ _); focus (first | omega | (simp; omega) | (simp; done))) | (with_reducible refine New.alloc ?_ _) | (with_reducible refine New.drew ?_) | (with_reducible refine New.drewN ?_ _) | (with_reducible refine New.hat ?_ _) | ((with_reducible apply New.snart); (with_reducible assumption))))
        have e0 : W3.cell? ⟨W2.heap.size + 1 + 1, 0, none⟩ = some (.int .i64 cy) := by subst hW; go_simp
        have e1 : W3.cell? ⟨W2.heap.size + 1 + 1, 1, none⟩ = some (.int .i64 cd) := by subst hW; go_simp
        clear hW
        have HN2 := Lib.hid ((HN.out.trans n1).trans n3)
        clear n1 n3 HN zb
        (refine wp_region_hat (by kernel_rfl) (by kernel_rfl) ?_; intro hatc hatf; (repeat (go_big_quiet_step ((first | (go_at_call 84; with_reducible exact Calls.hat (KF.out _)) | (go_at_call 85; with_reducible exact Calls.hat (KG.out _)))))); refine wpQuiet_nil ?_; rintro _ ⟨y, rfl⟩)
        have HN3 := Lib.hid (HN2.out.trans y.h)
        clear hatc hatf e0 e1 KF KG HN2
        generalize y.w = W4 at *
        clear y
        go_wp2_with fail
        go_roundg (n - (j + 1))
        case measure => omega
        case rel => exact ⟨j + 1, _, _, rfl, rfl, by go_num, by omega, by omega, HP2, HQ2, HN3⟩
      · have e : j = n := by omega
        subst e
        have HP2 : Hid (p = lo ∧ q = hi) := Lib.hid ⟨by rw [HL.out.1, HP.out, HNL.out, List.take_length], by rw [HL.out.2, HQ.out, HNL.out, List.take_length]⟩
        clear HP HQ HL
        go_wp2_with fail
        refine bodyPost_ret (v := .tuple #[.int .i64 p, .int .i64 q, .bool true, .int .i64 0]) (by simp [results, Tryz.results62, go_sem]) rfl ?_
        exact ⟨by rw [HP2.out.1, HP2.out.2, HB2.out], HN1.out.trans HN.out⟩

set_option maxHeartbeats 4000000 in
set_option maxRecDepth 100000 in
theorem k_columns (T : TriR) (w : World) :
    Calls Tryz.prog 60 #[.agg #[.int .i64 T.i, .int .i64 T.x0, .int .i64 T.y0, .int .i64 T.z0, .int .i64 T.x1, .int .i64 T.y1, .int .i64 T.z1, .int .i64 T.x2, .int .i64 T.y2, .int .i64 T.z2]] w fun e w' => e = .returned (.tuple #[.int .i64 (if okT T then minI T.x0 T.x1 T.x2 - 1 else 0), .int .i64 (if okT T then minI T.z0 T.z1 T.z2 - 1 else 0), .int .i64 (if okT T then maxI T.x0 T.x1 T.x2 else 0), .int .i64 (if okT T then maxI T.z0 T.z1 T.z2 else 0), .int .i64 (chkE T)]) ∧ New w w' := by
  have KC := fun W => k_check T W
  have KB := Lib.hid (fun W => t_bounds T.i T.x0 T.y0 T.z0 T.x1 T.y1 T.z1 T.x2 T.y2 T.z2 W)
  unfold chkE at KC ⊢
  cases hk : okT T
  · rw [hk] at KC
    simp only [Bool.false_eq_true, if_false] at KC ⊢
    replace KC := Lib.hid KC
    clear hk
    go_enter Tryz.func60, Tryz.ntmps60
    go_wp2_with fail
    refine (KC.out _).mono ?_
    rintro e W1 ⟨rfl, n1⟩
    have hn : New w W1 := New.trans (by (repeat (first | (with_reducible exact New.refl _) | (with_reducible assumption) | ((with_reducible refine New.setB ?_ ?_ _); focus (first | omega | (simp; omega) | (simp; done))) | (with_reducible refine New.alloc ?_ _) | (with_reducible refine New.drew ?_) | (with_reducible refine New.drewN ?_ _) | (with_reducible refine New.hat ?_ _) | ((with_reducible apply New.snart); (with_reducible assumption))))) n1
    clear n1
    go_wp2_with fail
    refine bodyPost_ret (v := .tuple #[.int .i64 0, .int .i64 0, .int .i64 0, .int .i64 0, .int .i64 40]) (by simp [results, Tryz.results60, go_sem, *]) rfl ?_
    exact ⟨rfl, hn⟩
  · rw [hk] at KC
    simp only [if_true] at KC ⊢
    have hs := ok_in hk
    unfold StP StV at hs
    have b1 : 0 ≤ minI T.x0 T.x1 T.x2 ∧ minI T.x0 T.x1 T.x2 ≤ 32 := by unfold minI; omega
    have b2 : 0 ≤ minI T.z0 T.z1 T.z2 ∧ minI T.z0 T.z1 T.z2 ≤ 32 := by unfold minI; omega
    generalize minI T.x0 T.x1 T.x2 = lx at *
    generalize minI T.z0 T.z1 T.z2 = lz at *
    generalize maxI T.x0 T.x1 T.x2 = gx at *
    generalize maxI T.z0 T.z1 T.z2 = gz at *
    generalize minI T.y0 T.y1 T.y2 = ly at *
    generalize maxI T.y0 T.y1 T.y2 = gy at *
    have w1 : IntKind.i64.wrap (lx - 1) = lx - 1 := IntWalk.i64_in _ (by omega)
    have w2 : IntKind.i64.wrap (lz - 1) = lz - 1 := IntWalk.i64_in _ (by omega)
    replace KC := Lib.hid KC
    clear hk hs
    go_enter Tryz.func60, Tryz.ntmps60
    go_wp2_with fail
    refine (KC.out _).mono ?_
    rintro e W1 ⟨rfl, n1⟩
    have c0 : W1.cell? ⟨w.heap.size, 0, none⟩ = some (.int .i64 T.i) := n1.keep (by go_simp)
    have c1 : W1.cell? ⟨w.heap.size, 1, none⟩ = some (.int .i64 T.x0) := n1.keep (by go_simp)
    have c2 : W1.cell? ⟨w.heap.size, 2, none⟩ = some (.int .i64 T.y0) := n1.keep (by go_simp)
    have c3 : W1.cell? ⟨w.heap.size, 3, none⟩ = some (.int .i64 T.z0) := n1.keep (by go_simp)
    have c4 : W1.cell? ⟨w.heap.size, 4, none⟩ = some (.int .i64 T.x1) := n1.keep (by go_simp)
    have c5 : W1.cell? ⟨w.heap.size, 5, none⟩ = some (.int .i64 T.y1) := n1.keep (by go_simp)
    have c6 : W1.cell? ⟨w.heap.size, 6, none⟩ = some (.int .i64 T.z1) := n1.keep (by go_simp)
    have c7 : W1.cell? ⟨w.heap.size, 7, none⟩ = some (.int .i64 T.x2) := n1.keep (by go_simp)
    have c8 : W1.cell? ⟨w.heap.size, 8, none⟩ = some (.int .i64 T.y2) := n1.keep (by go_simp)
    have c9 : W1.cell? ⟨w.heap.size, 9, none⟩ = some (.int .i64 T.z2) := n1.keep (by go_simp)
    have hn : New w W1 := New.trans (by (repeat (first | (with_reducible exact New.refl _) | (with_reducible assumption) | ((with_reducible refine New.setB ?_ ?_ _); focus (first | omega | (simp; omega) | (simp; done))) | (with_reducible refine New.alloc ?_ _) | (with_reducible refine New.drew ?_) | (with_reducible refine New.drewN ?_ _) | (with_reducible refine New.hat ?_ _) | ((with_reducible apply New.snart); (with_reducible assumption))))) n1
    clear n1 KC
    go_wp2_with fail
    refine (KB.out _).mono ?_
    rintro e W2 ⟨rfl, n2⟩
    replace hn := hn.trans n2
    clear n2 KB c0 c1 c2 c3 c4 c5 c6 c7 c8 c9
    have z2 := hn.size
    go_upto_region 5 with fail
    go_region
    all_goals
      go_wp2_with fail
      refine bodyPost_ret (v := .tuple #[.int .i64 (lx - 1), .int .i64 (lz - 1), .int .i64 gx, .int .i64 gz, .int .i64 0]) (by simp [results, Tryz.results60, go_sem, *]) rfl ?_
      exact ⟨rfl, by (repeat (first | (with_reducible exact New.refl _) | (with_reducible assumption) | ((with_reducible refine New.setB ?_ ?_ _); focus (first | omega | (simp; omega) | (simp; done))) | (with_reducible refine New.alloc ?_ _) | (with_reducible refine New.drew ?_) | (with_reducible refine New.drewN ?_ _) | (with_reducible refine New.hat ?_ _) | ((with_reducible apply New.snart); (with_reducible assumption))))⟩

end Go.Proofs.YtklopjbpfddgfaaGreat

/- What the laws of package clip lean on, in plain numbers. -/
namespace Go.Proofs.YtklopjbpfddgfaaGreat
open Go.RowKit
set_option linter.unusedVariables false

theorem tame_id {n : Int} (h : -1099511627776 ≤ n ∧ n ≤ 1099511627776) : tameI n = n := by unfold tameI clampI; omega
theorem fl_eq {c : Co} (h : Okc c) : flC c = c.y / c.d := by
  obtain ⟨⟨d1, d2⟩, -, -, y1, y2⟩ := h
  unfold flC floorI
  rw [tame_id (by omega : -1099511627776 ≤ c.d ∧ c.d ≤ 1099511627776), tame_id (by omega : -1099511627776 ≤ c.y ∧ c.y ≤ 1099511627776), if_neg (by omega), Int.fdiv_eq_ediv_of_nonneg _ (by omega)]
theorem cl_eq {c : Co} (h : Okc c) : clC c = -((-c.y) / c.d) := by
  obtain ⟨⟨d1, d2⟩, -, -, y1, y2⟩ := h
  unfold clC ceilI floorI
  rw [tame_id (by omega : -1099511627776 ≤ c.d ∧ c.d ≤ 1099511627776), tame_id (by omega : -1099511627776 ≤ c.y ∧ c.y ≤ 1099511627776), tame_id (by omega : -1099511627776 ≤ -c.y ∧ -c.y ≤ 1099511627776), if_neg (by omega), Int.fdiv_eq_ediv_of_nonneg _ (by omega)]
theorem fl_spec {c : Co} (h : Okc c) : flC c * c.d ≤ c.y ∧ c.y < (flC c + 1) * c.d := by
  have hd : 0 < c.d := by have := h.1; omega
  rw [fl_eq h]
  have h1 := Int.mul_ediv_self_le (x := c.y) (k := c.d) (by omega)
  have h2 := Int.lt_mul_ediv_self_add (x := c.y) (k := c.d) hd
  rw [Int.mul_comm] at h1 h2
  rw [Int.add_mul]
  omega
theorem cl_spec {c : Co} (h : Okc c) : c.y ≤ clC c * c.d ∧ (clC c - 1) * c.d < c.y := by
  have hd : 0 < c.d := by have := h.1; omega
  rw [cl_eq h]
  have h1 := Int.mul_ediv_self_le (x := -c.y) (k := c.d) (by omega)
  have h2 := Int.lt_mul_ediv_self_add (x := -c.y) (k := c.d) hd
  rw [Int.mul_comm] at h1 h2
  rw [Int.sub_mul, Int.neg_mul]
  omega
theorem le_of_mul {a b d : Int} (hd : 0 < d) (h : a * d ≤ b * d) : a ≤ b := Int.le_of_mul_le_mul_right h hd
theorem fl_ge {c : Co} (h : Okc c) {m : Int} (k : m * c.d ≤ c.y) : m ≤ flC c := by
  have hd : 0 < c.d := by have := h.1; omega
  have h2 : m * c.d < (flC c + 1) * c.d := Int.lt_of_le_of_lt k (fl_spec h).2
  have := Int.lt_of_mul_lt_mul_right h2 (Int.le_of_lt hd)
  omega
theorem cl_le {c : Co} (h : Okc c) {m : Int} (k : c.y ≤ m * c.d) : clC c ≤ m := by
  have hd : 0 < c.d := by have := h.1; omega
  have h2 : (clC c - 1) * c.d < m * c.d := Int.lt_of_lt_of_le (cl_spec h).2 k
  have := Int.lt_of_mul_lt_mul_right h2 (Int.le_of_lt hd)
  omega
theorem fl_cl {c : Co} (h : Okc c) : flC c ≤ clC c := by
  have hd : 0 < c.d := by have := h.1; omega
  exact le_of_mul hd (Int.le_trans (fl_spec h).1 (cl_spec h).1)

/-- All that is told of a corner over a column. -/
structure Fact (T : TriR) (x z : Int) (c : Co) : Prop where
  ok : Okc c
  prim : Prim c
  cv : Cv T c
  hx : x * c.d ≤ c.x ∧ c.x ≤ (x + 1) * c.d
  hz : z * c.d ≤ c.z ∧ c.z ≤ (z + 1) * c.d
theorem fact {T : TriR} {x z : Int} (hE : corE T x z = 0) {c : Co} (h : c ∈ comL T x z) : Fact T x z c := by
  obtain ⟨hk, -, -, hx, hz⟩ := cor_zero hE
  have h1 := holdsB_iff.1 (mem_comL.1 h).1
  exact ⟨com_okc hk hx hz h, (com_prim hk hx hz h).1, (com_prim hk hx hz h).2, h1.1, h1.2⟩

theorem ov_iff {T : TriR} {x z : Int} : ovB T x z = true ↔ corE T x z = 0 ∧ ∃ c, c ∈ comL T x z := by
  unfold ovB
  simp only [Bool.and_eq_true, beq_iff_eq, Bool.not_eq_true']
  refine and_congr Iff.rfl ?_
  cases comL T x z with
  | nil => simp
  | cons a l => simp

theorem ov_lo {T : TriR} {x z : Int} (h : ovB T x z = true) : ovLo T x z = loF (comL T x z) ∧ ovHi T x z = hiF (comL T x z) := by
  unfold ovLo ovHi; rw [h]; exact ⟨rfl, rfl⟩
theorem ov_mem {T : TriR} {x z : Int} (h : ovB T x z = true) {c : Co} (hc : c ∈ comL T x z) : ovLo T x z ≤ flC c ∧ clC c ≤ ovHi T x z := by
  obtain ⟨e1, e2⟩ := ov_lo h
  rw [e1, e2]
  exact ⟨(minf_spec flC _ _).2.1 c hc, (maxf_spec clC _ _).2.1 c hc⟩
theorem ok_y {T : TriR} (hk : okT T = true) : (-2048 ≤ T.y0 ∧ T.y0 ≤ 2048) ∧ (-2048 ≤ T.y1 ∧ T.y1 ≤ 2048) ∧ (-2048 ≤ T.y2 ∧ T.y2 ≤ 2048) := by
  have := ok_in hk
  unfold StP StV at this
  omega
/-- The least floor is some corner's, the greatest ceiling is. -/
theorem ov_got {T : TriR} {x z : Int} (h : ovB T x z = true) : (∃ c ∈ comL T x z, ovLo T x z = flC c) ∧ (∃ c ∈ comL T x z, ovHi T x z = clC c) := by
  obtain ⟨e1, e2⟩ := ov_lo h
  obtain ⟨hE, c, hc⟩ := ov_iff.1 h
  obtain ⟨hk, -⟩ := cor_zero hE
  obtain ⟨y0, y1, y2⟩ := ok_y hk
  have F := fact hE hc
  have hy := cv_y F.cv F.prim.1 y0 y1 y2
  have k1 := ov_mem h hc
  rw [e1, e2] at k1
  rw [e1, e2]
  constructor
  · rcases (minf_spec flC (comL T x z) 2048).2.2 with q | ⟨b, hb, q⟩
    · refine ⟨c, hc, ?_⟩
      have hd : 0 < c.d := F.prim.1
      have : flC c ≤ 2048 := le_of_mul hd (Int.le_trans (fl_spec F.ok).1 hy.2)
      have e : loF (comL T x z) = 2048 := q
      omega
    · exact ⟨b, hb, q⟩
  · rcases (maxf_spec clC (comL T x z) (-2048)).2.2 with q | ⟨b, hb, q⟩
    · refine ⟨c, hc, ?_⟩
      have hd : 0 < c.d := F.prim.1
      have : -2048 ≤ clC c := le_of_mul hd (Int.le_trans hy.1 (cl_spec F.ok).1)
      have e : hiF (comL T x z) = -2048 := q
      omega
    · exact ⟨b, hb, q⟩

/-- Heights lie between the triangle's own; the column is among those that are told. -/
theorem ov_between {T : TriR} {x z : Int} (h : ovB T x z = true) : ovLo T x z ≤ ovHi T x z ∧ minI T.y0 T.y1 T.y2 ≤ ovLo T x z ∧ ovHi T x z ≤ maxI T.y0 T.y1 T.y2 ∧
    (minI T.x0 T.x1 T.x2 - 1 ≤ x ∧ x ≤ maxI T.x0 T.x1 T.x2) ∧ (minI T.z0 T.z1 T.z2 - 1 ≤ z ∧ z ≤ maxI T.z0 T.z1 T.z2) := by
  obtain ⟨hE, c, hc⟩ := ov_iff.1 h
  obtain ⟨⟨a, ha, ea⟩, ⟨b, hb, eb⟩⟩ := ov_got h
  have k1 := ov_mem h hc
  have F := fact hE hc
  have k2 := fl_cl F.ok
  have mn : ∀ p q r : Int, minI p q r ≤ p ∧ minI p q r ≤ q ∧ minI p q r ≤ r := fun p q r => by unfold minI; omega
  have mx : ∀ p q r : Int, p ≤ maxI p q r ∧ q ≤ maxI p q r ∧ r ≤ maxI p q r := fun p q r => by unfold maxI; omega
  have y1 := mn T.y0 T.y1 T.y2
  have y2 := mx T.y0 T.y1 T.y2
  have x1 := mn T.x0 T.x1 T.x2
  have x2 := mx T.x0 T.x1 T.x2
  have z1 := mn T.z0 T.z1 T.z2
  have z2 := mx T.z0 T.z1 T.z2
  have Fa := fact hE ha
  have Fb := fact hE hb
  have hd : 0 < c.d := F.prim.1
  have ya := cv_y Fa.cv Fa.prim.1 ⟨y1.1, y2.1⟩ ⟨y1.2.1, y2.2.1⟩ ⟨y1.2.2, y2.2.2⟩
  have yb := cv_y Fb.cv Fb.prim.1 ⟨y1.1, y2.1⟩ ⟨y1.2.1, y2.2.1⟩ ⟨y1.2.2, y2.2.2⟩
  have xc := cv_x F.cv hd ⟨x1.1, x2.1⟩ ⟨x1.2.1, x2.2.1⟩ ⟨x1.2.2, x2.2.2⟩
  have zc := cv_z F.cv hd ⟨z1.1, z2.1⟩ ⟨z1.2.1, z2.2.1⟩ ⟨z1.2.2, z2.2.2⟩
  refine ⟨by omega, by rw [ea]; exact fl_ge Fa.ok ya.1, by rw [eb]; exact cl_le Fb.ok yb.2, ⟨?_, ?_⟩, ?_, ?_⟩
  · have := le_of_mul hd (Int.le_trans xc.1 F.hx.2); omega
  · exact le_of_mul hd (Int.le_trans F.hx.1 xc.2)
  · have := le_of_mul hd (Int.le_trans zc.1 F.hz.2); omega
  · exact le_of_mul hd (Int.le_trans F.hz.1 zc.2)

/-- Columns that share a corner have heights that meet. -/
theorem ov_meet {T : TriR} {x z x' z' : Int} (h : ovB T x z = true) (h' : ovB T x' z' = true) {c : Co} (hc : c ∈ comL T x z) (hc' : c ∈ comL T x' z') : ovLo T x' z' ≤ ovHi T x z ∧ ovLo T x z ≤ ovHi T x' z' := by
  have F := fact (ov_iff.1 h).1 hc
  have k1 := ov_mem h hc
  have k2 := ov_mem h' hc'
  have k3 := fl_cl F.ok
  omega

theorem ov_bd (T : TriR) (x z : Int) : (-2048 ≤ ovLo T x z ∧ ovLo T x z ≤ 2048) ∧ (-2048 ≤ ovHi T x z ∧ ovHi T x z ≤ 2048) := by
  cases h : ovB T x z with
  | false => unfold ovLo ovHi; rw [h]; simp
  | true =>
    obtain ⟨hE, -⟩ := ov_iff.1 h
    obtain ⟨y0, y1, y2⟩ := ok_y (cor_zero hE).1
    have hb := ov_between h
    have a : -2048 ≤ minI T.y0 T.y1 T.y2 := by unfold minI; omega
    have b : maxI T.y0 T.y1 T.y2 ≤ 2048 := by unfold maxI; omega
    omega

/-! The triangle of the document's example. -/
def halfT : TriR := ⟨1, 0, 0, 0, 2, 2, 0, 0, 0, 2⟩
theorem half_0 : corE halfT 0 0 = 0 ∧ ovB halfT 0 0 = true ∧ ovLo halfT 0 0 = 0 ∧ ovHi halfT 0 0 = 1 := by decide +kernel
theorem half_1 : corE halfT 1 0 = 0 ∧ ovB halfT 1 0 = true ∧ ovLo halfT 1 0 = 1 ∧ ovHi halfT 1 0 = 2 := by decide +kernel
theorem half_2 : corE halfT 1 1 = 0 ∧ ovB halfT 1 1 = true ∧ ovLo halfT 1 1 = 1 ∧ ovHi halfT 1 1 = 1 := by decide +kernel
theorem half_3 : corE halfT 2 2 = 0 ∧ ovB halfT 2 2 = false ∧ ovLo halfT 2 2 = 0 ∧ ovHi halfT 2 2 = 0 := by decide +kernel

end Go.Proofs.YtklopjbpfddgfaaGreat
