import Derived.Test.YteoongcajfcgcaaClNZ6
import Derived.Test.YteoongcajfcgcaaClGZ6

/- Package clip: Corners, Columns. -/
namespace Go.Proofs.Yteoongcajfcgcaa
open Go.RowKit Go.Sort Go.Shelf Go.Lib
set_option linter.unusedVariables false

theorem com_okc {T : TriR} (hk : okT T = true) {x z : Int} (hx : -1 ≤ x ∧ x ≤ 32) (hz : -1 ≤ z ∧ z ≤ 32) {c : Co} (h : c ∈ comL T x z) : Okc c := by
  unfold comL at h
  simp only [List.mem_append, mem_gat] at h
  rcases h with ((⟨b, hb, h, -⟩ | ⟨b, hb, h, -⟩) | ⟨b, hb, h, -⟩) | ⟨b, hb, h, -⟩
  · exact above_okc hk hx hz hb h
  · exact cross_okc hk hx hz 0 hb h
  · exact cross_okc hk hx hz 1 hb h
  · exact cross_okc hk hx hz 2 hb h
theorem com_len (T : TriR) (x z : Int) : (comL T x z).length ≤ 16 := by
  unfold comL
  simp only [List.length_append]
  have h0 : (gat x z (aboveO T) (cornL x z)).length ≤ 4 := gat_len x z _ (cornL x z)
  have h1 : (gat x z (crossO (side T 0)) (lineL x z)).length ≤ 4 := gat_len x z _ (lineL x z)
  have h2 : (gat x z (crossO (side T 1)) (lineL x z)).length ≤ 4 := gat_len x z _ (lineL x z)
  have h3 : (gat x z (crossO (side T 2)) (lineL x z)).length ≤ 4 := gat_len x z _ (lineL x z)
  omega

/-- The corners of what lies over a column. -/
structure IsCor (T : TriR) (x z : Int) (R : List Co) : Prop where
  rise : R.Pairwise ltC
  mem : ∀ c, c ∈ R ↔ c ∈ comL T x z

def CorP (T : TriR) (x z : Int) (w : World) (e : Ending) (w' : World) : Prop := ∃ (v : Value) (R : List Co), e = .returned (.tuple #[v, .int .i64 0]) ∧ Sl Co.enc 4 w' v R ∧ IsCor T x z R ∧ New w w'

theorem cor_few {T : TriR} {x z : Int} (h : (comL T x z).length < 2) : IsCor T x z (comL T x z) := by
  refine ⟨?_, fun c => Iff.rfl⟩
  match hl : comL T x z, h with
  | [], _ => exact List.Pairwise.nil
  | [a], _ => exact List.pairwise_singleton _ _
  | a :: b :: l, h => exact absurd h (by simp)
theorem cor_many {T : TriR} (hk : okT T = true) {x z : Int} (hx : -1 ≤ x ∧ x ≤ 32) (hz : -1 ≤ z ∧ z ≤ 32) {m : List Co} (hp : m.Perm (comL T x z)) (hs : m.Pairwise (fun a b => ¬ ltC b a)) : IsCor T x z (cmpU m m.length) := by
  refine ⟨cmpU_rise (fun c hc => (com_prim hk hx hz (hp.mem_iff.1 hc)).1.1) (fun a ha b hb e1 e2 => com_one hk (com_prim hk hx hz (hp.mem_iff.1 ha)) (com_prim hk hx hz (hp.mem_iff.1 hb)) e1 e2) hs _, fun c => ?_⟩
  rw [mem_cmpU, List.take_length]
  exact hp.mem_iff

theorem sl_of_row {w : World} {g cap : Nat} {l : List Co} (h : RowAt Co.enc 4 w g 0 l) (hc : l.length ≤ cap) (hm : cap ≤ maxLen) : Sl Co.enc 4 w (.slice (some ⟨g, 0, none⟩) l.length cap) l :=
  ⟨_, _, rfl, hc, hm, fun h => (by cases h), fun _ => ⟨g, 0, rfl, h⟩⟩

/-- The error of a question. -/
def corE (T : TriR) (x z : Int) : Int := if okT T then (if colB x && colB z then 0 else 2) else 40

set_option maxHeartbeats 4000000 in
set_option maxRecDepth 100000 in
theorem k_cor_bad (T : TriR) (x z : Int) (w : World) (h : corE T x z ≠ 0) :
    Calls Try.prog 9 #[.agg #[.int .i64 T.i, .int .i64 T.x0, .int .i64 T.y0, .int .i64 T.z0, .int .i64 T.x1, .int .i64 T.y1, .int .i64 T.z1, .int .i64 T.x2, .int .i64 T.y2, .int .i64 T.z2], .int .i64 x, .int .i64 z] w fun e w' => e = .returned (.tuple #[.slice none 0 0, .int .i64 (corE T x z)]) ∧ New w w' := by
  have KC := fun W => k_check T W
  have KX := fun W => k_col x W
  have KZ := fun W => k_col z W
  unfold chkE at KC
  unfold corE at h ⊢
  cases hk : okT T
  · rw [hk] at KC
    simp only [Bool.false_eq_true, if_false] at KC ⊢
    replace KC := Lib.hid KC
    clear h hk KX KZ
    go_enter Try.func9, Try.ntmps9
    go_wp2_with fail
    refine (KC.out _).mono ?_
    rintro e W1 ⟨rfl, n1⟩
    have hn : New w W1 := New.trans (by (repeat (first | (with_reducible exact New.refl _) | (with_reducible assumption) | ((with_reducible refine New.setB ?_ ?_ _); focus (first | omega | (simp; omega) | (simp; done))) | (with_reducible refine New.alloc ?_ _) | (with_reducible refine New.drew ?_) | (with_reducible refine New.drewN ?_ _) | (with_reducible refine New.hat ?_ _) | ((with_reducible apply New.snart); (with_reducible assumption))))) n1
    clear n1
    go_wp2_with fail
    refine bodyPost_ret (v := .tuple #[.slice none 0 0, .int .i64 40]) (by simp [results, Try.results9, go_sem, *]) rfl ?_
    exact ⟨rfl, hn⟩
  · rw [hk] at KC h
    simp only [if_true] at KC h ⊢
    cases hx : colB x
    · rw [hx] at KX
      simp only [Bool.false_and, Bool.false_eq_true, if_false]
      replace KC := Lib.hid KC
      replace KX := Lib.hid KX
      clear h hk KZ hx
      go_enter Try.func9, Try.ntmps9
      go_wp2_with fail
      refine (KC.out _).mono ?_
      rintro e W1 ⟨rfl, n1⟩
      have hn : New w W1 := New.trans (by (repeat (first | (with_reducible exact New.refl _) | (with_reducible assumption) | ((with_reducible refine New.setB ?_ ?_ _); focus (first | omega | (simp; omega) | (simp; done))) | (with_reducible refine New.alloc ?_ _) | (with_reducible refine New.drew ?_) | (with_reducible refine New.drewN ?_ _) | (with_reducible refine New.hat ?_ _) | ((with_reducible apply New.snart); (with_reducible assumption))))) n1
      clear n1
      go_wp2_with fail
      refine (KX.out _).mono ?_
      rintro e W2 ⟨rfl, rfl⟩
      go_wp2_with fail
      refine bodyPost_ret (v := .tuple #[.slice none 0 0, .int .i64 2]) (by simp [results, Try.results9, go_sem, *]) rfl ?_
      exact ⟨rfl, hn⟩
    · cases hz : colB z
      · rw [hx] at KX
        rw [hz] at KZ
        simp only [Bool.and_false, Bool.false_eq_true, if_false]
        replace KC := Lib.hid KC
        replace KX := Lib.hid KX
        replace KZ := Lib.hid KZ
        clear h hk hx hz
        go_enter Try.func9, Try.ntmps9
        go_wp2_with fail
        refine (KC.out _).mono ?_
        rintro e W1 ⟨rfl, n1⟩
        have hn : New w W1 := New.trans (by (repeat (first | (with_reducible exact New.refl _) | (with_reducible assumption) | ((with_reducible refine New.setB ?_ ?_ _); focus (first | omega | (simp; omega) | (simp; done))) | (with_reducible refine New.alloc ?_ _) | (with_reducible refine New.drew ?_) | (with_reducible refine New.drewN ?_ _) | (with_reducible refine New.hat ?_ _) | ((with_reducible apply New.snart); (with_reducible assumption))))) n1
        clear n1
        go_wp2_with fail
        refine (KX.out _).mono ?_
        rintro e W2 ⟨rfl, rfl⟩
        go_wp2_with fail
        refine (KZ.out _).mono ?_
        rintro e W2 ⟨rfl, rfl⟩
        go_wp2_with fail
        refine bodyPost_ret (v := .tuple #[.slice none 0 0, .int .i64 2]) (by simp [results, Try.results9, go_sem, *]) rfl ?_
        exact ⟨rfl, hn⟩
      · rw [hx, hz] at h
        exact absurd rfl h

theorem cor_zero {T : TriR} {x z : Int} (h : corE T x z = 0) : okT T = true ∧ colB x = true ∧ colB z = true ∧ (-1 ≤ x ∧ x ≤ 32) ∧ (-1 ≤ z ∧ z ≤ 32) := by
  unfold corE at h
  split at h
  · split at h
    · rename_i h1 h2
      simp only [Bool.and_eq_true] at h2
      have a := h2.1
      have b := h2.2
      unfold colB at a b
      rw [decide_eq_true_eq] at a b
      exact ⟨h1, h2.1, h2.2, a, b⟩
    · omega
  · omega

theorem k_sort_none (p : Option Addr) (cap : Nat) (fv : Value) (w : World) :
    Calls Try.prog 24 #[.slice p 0 cap, fv] w fun e w' => e = .returned (.tuple #[]) ∧ w = w' := by
  have h := AnyF.slices_SortFunc_none laysSortF p cap fv w
  change Calls Try.prog 24 _ _ _ at h
  exact h.mono fun _ _ ⟨he, hw⟩ => ⟨he, hw.symm⟩

set_option maxHeartbeats 4000000 in
set_option maxRecDepth 100000 in
theorem k_cor (T : TriR) (x z : Int) (w : World) (h : corE T x z = 0) :
    Calls Try.prog 9 #[.agg #[.int .i64 T.i, .int .i64 T.x0, .int .i64 T.y0, .int .i64 T.z0, .int .i64 T.x1, .int .i64 T.y1, .int .i64 T.z1, .int .i64 T.x2, .int .i64 T.y2, .int .i64 T.z2], .int .i64 x, .int .i64 z] w (CorP T x z w) := by
  obtain ⟨hk, hcx, hcz, hx, hz⟩ := cor_zero h
  have KC := fun W => k_check T W
  have KX := fun W => k_col x W
  have KZ := fun W => k_col z W
  unfold chkE at KC
  rw [hk] at KC
  rw [hcx] at KX
  rw [hcz] at KZ
  simp only [if_true] at KC
  have KM := Lib.hid (fun W => k_common T hk x z W hx hz)
  have HO := Lib.hid (fun c hc => com_okc hk hx hz (c := c) hc)
  have HF := Lib.hid (cor_few (T := T) (x := x) (z := z))
  have HM := Lib.hid (fun m hp hs => cor_many hk hx hz (m := m) hp hs)
  have hlen := com_len T x z
  replace KC := Lib.hid KC
  replace KX := Lib.hid KX
  replace KZ := Lib.hid KZ
  clear h hk hcx hcz
  go_enter Try.func9, Try.ntmps9
  go_wp2_with fail
  refine (KC.out _).mono ?_
  rintro e W1 ⟨rfl, n1⟩
  have c0 : W1.cell? ⟨w.heap.size, 0, none⟩ = some (.int .i64 T.i) := n1.keep (by go_simp)
  have c1 : W1.cell? ⟨w.heap.size, 1, none⟩ = some (.int .i64 T.x0) := n1.keep (by go_simp)
  have c2 : W1.cell? ⟨w.heap.size, 2, none⟩ = some (.int .i64 T.y0) := n1.keep (by go_simp)
  have c3 : W1.cell? ⟨w.heap.size, 3, none⟩ = some (.int .i64 T.z0) := n1.keep (by go_simp)
  have c4 : W1.cell? ⟨w.heap.size, 4, none⟩ = some (.int .i64 T.x1) := n1.keep (by go_simp)
  have c5 : W1.cell? ⟨w.heap.size, 5, none⟩ = some (.int .i64 T.y1) := n1.keep (by go_simp)
  have c6 : W1.cell? ⟨w.heap.size, 6, none⟩ = some (.int .i64 T.z1) := n1.keep (by go_simp)
  have c7 : W1.cell? ⟨w.heap.size, 7, none⟩ = some (.int .i64 T.x2) := n1.keep (by go_simp)
  have c8 : W1.cell? ⟨w.heap.size, 8, none⟩ = some (.int .i64 T.y2) := n1.keep (by go_simp)
  have c9 : W1.cell? ⟨w.heap.size, 9, none⟩ = some (.int .i64 T.z2) := n1.keep (by go_simp)
  have hn : New w W1 := New.trans (by (repeat (first | (with_reducible exact New.refl _) | (with_reducible assumption) | ((with_reducible refine New.setB ?_ ?_ _); focus (first | omega | (simp; omega) | (simp; done))) | (with_reducible refine New.alloc ?_ _) | (with_reducible refine New.drew ?_) | (with_reducible refine New.drewN ?_ _) | (with_reducible refine New.hat ?_ _) | ((with_reducible apply New.snart); (with_reducible assumption))))) n1
  clear n1 KC
  go_wp2_with fail
  refine (KX.out _).mono ?_
  rintro e W2 ⟨rfl, rfl⟩
  go_wp2_with fail
  refine (KZ.out _).mono ?_
  rintro e W2 ⟨rfl, rfl⟩
  clear KX KZ
  go_wp2_with fail
  refine (KM.out _).mono ?_
  rintro e W2 ⟨v, rfl, ho, n2⟩
  have hz1 := hn.size
  replace hn := hn.trans n2
  clear n2 KM c0 c1 c2 c3 c4 c5 c6 c7 c8 c9
  have HW := Lib.hid ho
  have HSL := Lib.hid (own_sl Co.enc_len ho)
  rcases ho.2 with ⟨rfl, h0⟩ | ⟨g, cap, cur, rfl, hgb, hh, hc, hm, -, -⟩
  · have HS2 : Hid (Sl Co.enc 4 W2 (.slice none 0 0) (comL T x z)) := by simpa [h0] using HSL
    have HF2 := Lib.hid (HF.out (by omega))
    have hl2 : (comL T x z).length < 2 := by omega
    have HC2 := Lib.hid (k_compact_few (.slice none 0 0) _ W2 HS2.out hl2)
    clear h0 hlen ho hl2 HW HSL HM HF HO
    go_wp2_with fail
    refine (k_sort_none none 0 _ _).mono ?_
    rintro e W3 ⟨rfl, rfl⟩
    go_wp2_with fail
    refine HC2.out.mono ?_
    rintro e W3 ⟨rfl, rfl⟩
    go_wp2_with fail
    refine bodyPost_ret (v := .tuple #[.slice none 0 0, .int .i64 0]) (by simp [results, Try.results9, go_sem, *]) rfl ?_
    exact ⟨_, _, rfl, HS2.out, HF2.out, hn⟩
  · by_cases h0 : (comL T x z).length = 0
    · have HF2 := Lib.hid (HF.out (by omega))
      have HC2 := Lib.hid (k_compact_few _ _ W2 HSL.out (by omega))
      rw [h0] at HSL HC2 ⊢
      clear h0 hlen ho HW HM HF HO hh hc hm hgb
      go_wp2_with fail
      refine (k_sort_none _ cap _ _).mono ?_
      rintro e W3 ⟨rfl, rfl⟩
      go_wp2_with fail
      refine HC2.out.mono ?_
      rintro e W3 ⟨rfl, rfl⟩
      go_wp2_with fail
      refine bodyPost_ret (v := .tuple #[.slice (some ⟨g, 0, none⟩) 0 cap, .int .i64 0]) (by simp [results, Try.results9, go_sem]) rfl ?_
      exact ⟨_, _, rfl, HSL.out, HF2.out, hn⟩
    · have zg : g < W2.heap.size := by
        rcases Nat.lt_or_ge g W2.heap.size with q | q
        · exact q
        · rw [Array.getElem?_eq_none q] at hh; cases hh
      have KS := Lib.hid (k_sort g cap (comL T x z) HO.out (by omega) W2 (WRow.of_own HW.out) zg)
      obtain ⟨n, hnl⟩ : ∃ n, n = (comL T x z).length := ⟨_, rfl⟩
      rw [← hnl] at KS hc h0 hlen ⊢
      have HNL := Lib.hid hnl
      have zb : w.heap.size ≤ g := by omega
      clear hnl ho HW HSL hh hgb
      unfold maxLen at hm
      go_wp2_with fail
      refine KS.out.mono ?_
      rintro e W3 ⟨rfl, m, hp, hs, hw, hu⟩
      have hml : m.length = n := by rw [HNL.out]; exact hp.length_eq
      have HN3 := Lib.hid (hu w hn zb)
      by_cases h2 : n < 2
      · have HS3 : Hid (Sl Co.enc 4 W3 (.slice (some ⟨g, 0, none⟩) n cap) m) := Lib.hid (by rw [← hml]; exact sl_of_row hw.row (by omega) (by unfold maxLen; omega))
        have HC2 := Lib.hid (k_compact_few _ _ W3 HS3.out (by omega))
        have HI : Hid (IsCor T x z m) := Lib.hid (by
          have e : m = comL T x z := by
            have hl : (comL T x z).length = 1 := by rw [← HNL.out]; omega
            obtain ⟨a, ha⟩ := List.length_eq_one_iff.1 hl
            rw [ha] at hp ⊢
            exact List.perm_singleton.1 hp
          rw [e]; exact HF.out (by rw [← HNL.out]; exact h2))
        clear hml hp hs hw hu HF HO HM KS HNL hn
        go_wp2_with fail
        refine HC2.out.mono ?_
        rintro e W4 ⟨rfl, rfl⟩
        go_wp2_with fail
        refine bodyPost_ret (v := .tuple #[.slice (some ⟨g, 0, none⟩) n cap, .int .i64 0]) (by simp [results, Try.results9, go_sem]) rfl ?_
        exact ⟨_, _, rfl, HS3.out, HI.out, HN3.out⟩
      · have KK := k_compact g cap m W3 hw (by omega) (by omega) (by unfold maxLen; omega)
        rw [hml] at KK
        have HI := Lib.hid (HM.out m hp hs)
        have HLN : Hid ((cmpU m n).length ≤ n) := Lib.hid (cmpU_len n)
        rw [hml] at HI
        replace KK := Lib.hid KK
        clear hml hp hs hw hu HF HO HM KS HNL hn
        go_wp2_with fail
        refine KK.out.mono ?_
        rintro e W4 ⟨rfl, hr, hu⟩
        have HR := Lib.hid hr
        have hn4 := hu w HN3.out zb
        have HSL := Lib.hid (sl_of_row HR.out (by have := HLN.out; omega) (by unfold maxLen; omega : cap ≤ maxLen))
        generalize (cmpU m n).length = q at *
        clear hr hu
        go_wp2_with fail
        refine bodyPost_ret (v := .tuple #[.slice (some ⟨g, 0, none⟩) q cap, .int .i64 0]) (by simp [results, Try.results9, go_sem]) rfl ?_
        exact ⟨_, _, rfl, HSL.out, HI.out, hn4⟩

end Go.Proofs.Yteoongcajfcgcaa
