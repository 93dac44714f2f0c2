import Derived.Test.YtgoggogcbjfofaaDoorFdLY14
import Derived.Test.YtgoggogcbjfofaaDoorOgIY14
import Derived.Test.YtgoggogcbjfofaaDoorOgQY14
import Derived.Test.YtgoggogcbjfofaaDoorFdJY14
import Derived.Test.YtgoggogcbjfofaaDoorWholeJY14

/- The document's Least; Fits, both. -/
namespace Go.Proofs.YtgoggogcbjfofaaDoor
open Go.RowKit
set_option linter.unusedVariables false

theorem mnI_put (P : List Int) (x : Int) : mnI (P ++ [x]) = if P.length = 0 then x else if x < mnI P then x else mnI P := by
  by_cases h : P.length = 0
  · rw [if_pos h, List.eq_nil_of_length_eq_zero h]
    rfl
  · rw [if_neg h, mnI_snoc (fun e => h (by rw [e]; rfl))]
    split <;> omega

set_option maxHeartbeats 8000000 in
set_option maxRecDepth 100000 in
theorem fr_Least (va : Value) (L : List (List Int)) (w : World) (H : RowsK iE 1 w va L) :
    Calls Tryd.prog 18 #[va] w fun e w' => e = .returned (.tuple #[.int .i64 (mnI L.flatten), .bool (decide (0 < L.flatten.length))]) ∧ New w w' := by
  obtain ⟨ga, gc, rfl⟩ := H.shape
  have hmx := rows_max H
  unfold maxLen at hmx
  have HH := Lib.hid H
  have HFS := Lib.hid (fun i h => flT_succ L (i := i) h)
  have HFA := Lib.hid (flT_all L)
  have HF0 : Hid (flT L 0 = []) := Lib.hid rfl
  obtain ⟨n, hn⟩ : ∃ n, n = L.length := ⟨_, rfl⟩
  rw [← hn] at HH HFA hmx ⊢
  have HN := Lib.hid hn
  clear H hn
  generalize flT L = fT at *
  obtain ⟨y, hy⟩ : ∃ y, y = mnI L.flatten := ⟨_, rfl⟩
  obtain ⟨bb, hbb⟩ : ∃ b, b = decide (0 < L.flatten.length) := ⟨_, rfl⟩
  rw [← hy, ← hbb]
  have HY : Hid (mnI (fT n) = y ∧ decide (0 < (fT n).length) = bb) := Lib.hid ⟨by rw [HFA.out, hy], by rw [HFA.out, hbb]⟩
  clear hy hbb HFA
  go_enter Tryd.func18, Tryd.ntmps18
  go_wp2_with fail
  go_loopg [4, 5, 6] n (fun gk s4 s5 s6 wr => ∃ i : Nat, s6 = .int .i64 i ∧ s4 = .int .i64 (mnI (fT i)) ∧ s5 = .bool (decide (0 < (fT i).length)) ∧ i ≤ n ∧ n - i ≤ gk ∧ Hid (New w wr))
  case atStart => exact ⟨0, rfl, by rw [HF0.out]; rfl, by rw [HF0.out]; rfl, by omega, by omega, Lib.hid (New.refl _)⟩
  case round =>
    obtain ⟨i, rfl, rfl, rfl, hi, hgk, hnr⟩ := hrel
    by_cases hlt : i < n
    · have hil : i < L.length := by rw [← HN.out]; exact hlt
      have HGK := Lib.hid hgk
      have HFI := Lib.hid (HFS.out i hil)
      obtain ⟨P, hP⟩ : ∃ q, q = fT i := ⟨_, rfl⟩
      rw [← hP] at HFI ⊢
      obtain ⟨l, hl⟩ : ∃ q, q = L[i] := ⟨_, rfl⟩
      rw [← hl] at HFI
      have HLI := Lib.hid hl
      have hml : l.length ≤ 9223372036854775807 := by
        obtain ⟨b, off, a, c, -, -, hs⟩ := (HH.out.keep hnr.out).at i hil
        obtain ⟨a', c', e', h1, h2, -⟩ := hs
        unfold maxLen at h2
        rw [hl]
        omega
      obtain ⟨m, hm⟩ : ∃ q, q = l.length := ⟨_, rfl⟩
      rw [← hm] at hml
      have HM := Lib.hid hm
      clear hP hl hgk hm
      rename World => Wo
      go_wp2_with fail
      go_loopg [4, 5, 7] m (fun gk s4 s5 s7 wr => ∃ k : Nat, s7 = .int .i64 k ∧ s4 = .int .i64 (mnI (P ++ l.take k)) ∧ s5 = .bool (decide (0 < (P ++ l.take k).length)) ∧ k ≤ m ∧ m - k ≤ gk ∧ Hid (New w wr))
      case atStart => exact ⟨0, rfl, by rw [List.take_zero, List.append_nil], by rw [List.take_zero, List.append_nil], by omega, by omega, hnr⟩
      case round =>
        obtain ⟨k, rfl, rfl, rfl, hk, hgk, hnk⟩ := hrel
        obtain ⟨b, off, a, c, rfl, hc, hs⟩ := (HH.out.keep hnk.out).at i hil
        rw [← HLI.out] at hs hc
        rw [← HM.out] at hs hc
        by_cases hkt : k < m
        · have hkl : k < l.length := by rw [← HM.out]; exact hkt
          have hs2 : Sl iE 1 wr (.slice a l.length c) l := by rw [← HM.out]; exact hs
          obtain ⟨a', c', e', -, -, hrow⟩ := sl_at hs2
          obtain ⟨b2, o2, e2, hx⟩ := hrow k hkl
          injection e' with e3 e4 e5
          subst e3
          subst e2
          have htk : l.take (k + 1) = l.take k ++ [l[k]] := List.take_succ_eq_append_getElem hkl
          have hpt : mnI (P ++ l.take (k + 1)) = if (P ++ l.take k).length = 0 then l[k] else if l[k] < mnI (P ++ l.take k) then l[k] else mnI (P ++ l.take k) := by rw [htk, ← List.append_assoc, mnI_put]
          have HPT := Lib.hid hpt
          have hln : decide (0 < (P ++ l.take (k + 1)).length) = true := decide_eq_true (by rw [htk]; simp only [List.length_append, List.length_singleton]; omega)
          have HLN := Lib.hid hln
          generalize l[k] = x at *
          obtain ⟨PP, hPP⟩ : ∃ q, q = P ++ l.take k := ⟨_, rfl⟩
          rw [← hPP] at HPT ⊢
          clear htk hpt hln hs hs2 hrow hPP
          obtain ⟨pl, hpl⟩ : ∃ q, q = PP.length := ⟨_, rfl⟩
          rw [← hpl] at HPT ⊢
          obtain ⟨y, hy⟩ : ∃ q, q = mnI PP := ⟨_, rfl⟩
          rw [← hy] at HPT ⊢
          clear hpl hy
          by_cases h0 : pl = 0
          · have hd : decide (0 < pl) = false := decide_eq_false (by omega)
            have HR : Hid (mnI (P ++ l.take (k + 1)) = x) := Lib.hid (by rw [HPT.out, if_pos h0])
            rw [hd]
            clear hd h0 HPT
            go_wp2_with fail
            go_roundg (m - (k + 1))
            case measure => omega
            case rel => exact ⟨k + 1, by go_num, by rw [HR.out], by rw [HLN.out], by omega, by omega, hnk⟩
          · have hd : decide (0 < pl) = true := decide_eq_true (by omega)
            rw [hd]
            by_cases hxy : x < y
            · have HR : Hid (mnI (P ++ l.take (k + 1)) = x) := Lib.hid (by rw [HPT.out, if_neg h0, if_pos hxy])
              have hd2 : decide (x < y) = true := decide_eq_true hxy
              clear hd h0 HPT hxy
              go_wp2_with fail
              go_roundg (m - (k + 1))
              case measure => omega
              case rel => exact ⟨k + 1, by go_num, by rw [HR.out], by rw [HLN.out], by omega, by omega, hnk⟩
            · have HR : Hid (mnI (P ++ l.take (k + 1)) = y) := Lib.hid (by rw [HPT.out, if_neg h0, if_neg hxy])
              have hd2 : decide (x < y) = false := decide_eq_false hxy
              clear hd h0 HPT hxy
              go_wp2_with fail
              go_roundg (m - (k + 1))
              case measure => omega
              case rel => exact ⟨k + 1, by go_num, by rw [HR.out], by rw [HLN.out], by omega, by omega, hnk⟩
        · obtain rfl : k = m := by omega
          have hfi : P ++ l.take k = fT (i + 1) := by rw [HFI.out, List.take_of_length_le (by rw [HM.out]; exact Nat.le_refl _)]
          rw [hfi]
          clear hs hfi
          have hgk := HGK.out
          go_wp2_with fail
          go_roundg (n - (i + 1))
          case measure => omega
          case rel => exact ⟨i + 1, by go_num, rfl, rfl, by omega, by omega, hnk⟩
    · obtain rfl : i = n := by omega
      rw [HY.out.1, HY.out.2]
      go_wp2_with fail
      go_ret2
      exact ⟨rfl, hnr.out⟩

/-- As many rows as columns, as many numbers as floors, all from 0 on. -/
def FitP (G : Gd) (L : List (List Int)) : Prop := gE G = 0 ∧ L.length = G.L.length ∧ (∀ i (h : i < L.length), L[i].length = (gcol G i).length) ∧ ∀ i (h : i < L.length), ∀ x ∈ L[i], 0 ≤ x
theorem fit_flat {L : List (List Int)} : (∀ i (h : i < L.length), ∀ x ∈ L[i], 0 ≤ x) ↔ ∀ x ∈ L.flatten, 0 ≤ x := by
  constructor
  · intro h x hx
    obtain ⟨l, hl, hx⟩ := List.mem_flatten.1 hx
    obtain ⟨i, hi, rfl⟩ := List.getElem_of_mem hl
    exact h i hi x hx
  · intro h i hi x hx
    exact h x (List.mem_flatten.2 ⟨_, List.getElem_mem hi, hx⟩)
def FitV (G : Gd) (L : List (List Int)) (w : World) (e : Ending) (w' : World) : Prop := ∃ b, e = .returned (.bool b) ∧ (b = true ↔ FitP G L) ∧ New w w'

set_option maxHeartbeats 8000000 in
set_option maxRecDepth 100000 in
theorem fd_Fits (G : Gd) (va : Value) (L : List (List Int)) (hL : smallI L) (w : World) (hG : G.ok w) (H : RowsK iE 1 w va L) : Calls Tryd.prog 20 #[.agg #[.int .i64 G.x, .int .i64 G.z, .int .i64 G.w, .int .i64 G.d, .slice G.ga G.L.length G.gc], va] w (FitV G L w) := by
  obtain ⟨la, lc, rfl⟩ := H.shape
  have hmx := rows_max H
  unfold maxLen at hmx
  have HH := Lib.hid H
  have HGR : Hid (RowsK Fl.enc 3 w (.slice G.ga G.L.length G.gc) G.L) := Lib.hid hG
  have KC := Lib.hid (fun W n => og_check G W (hG.keep (n : New w W)))
  have KL := Lib.hid (fun W (n : New w W) => fd_Least _ L hL W (H.keep n))
  have h2 := gE_two G
  have HF : Hid (FitP G L ↔ gE G = 0 ∧ L.length = G.L.length ∧ (∀ i (h : i < L.length), L[i].length = (gcol G i).length) ∧ 0 ≤ mnI L.flatten) := Lib.hid (by
    unfold FitP
    rw [fit_flat, mnI_nonneg])
  obtain ⟨Q, hQ⟩ : ∃ Q, Q = FitV G L w := ⟨_, rfl⟩
  rw [← hQ]
  have HQ := Lib.hid hQ
  clear hQ
  obtain ⟨n, hn⟩ : ∃ n, n = L.length := ⟨_, rfl⟩
  have HN := Lib.hid hn
  rw [← hn] at HH KL hmx ⊢
  obtain ⟨gn, hgn⟩ : ∃ n, n = G.L.length := ⟨_, rfl⟩
  have HGN := Lib.hid hgn
  rw [← hgn] at HGR KC ⊢
  obtain ⟨ga, hga⟩ : ∃ q, q = G.ga := ⟨_, rfl⟩
  rw [← hga] at HGR KC ⊢
  obtain ⟨ge, hge⟩ : ∃ q, q = gE G := ⟨_, rfl⟩
  rw [← hge] at KC h2
  have HGE := Lib.hid hge
  obtain ⟨mn, hmn⟩ : ∃ q, q = mnI L.flatten := ⟨_, rfl⟩
  rw [← hmn] at KL HF
  obtain ⟨bb, hbb⟩ : ∃ q, q = decide (0 < L.flatten.length) := ⟨_, rfl⟩
  rw [← hbb] at KL
  clear H hn hgn hga hge hmn hbb hG hL
  go_enter Tryd.func20, Tryd.ntmps20
  go_wp2_with fail
  refine Calls.at (fun W hW => ?_)
  have n0 : New w W := by subst hW; (repeat (first | (with_reducible exact New.refl _) | (with_reducible assumption) | ((with_reducible refine New.setB ?_ ?_ _); focus (first | omega | (simp; omega) | (simp; done))) | (with_reducible refine New.alloc ?_ _) | (with_reducible refine New.drew ?_) | (with_reducible refine New.drewN ?_ _) | (with_reducible refine New.hat ?_ _) | ((with_reducible apply New.snart); (with_reducible assumption))))
  have g0 : W.cell? ⟨w.heap.size, 0, none⟩ = some (.int .i64 G.x) := by subst hW; go_simp
  have g1 : W.cell? ⟨w.heap.size, 1, none⟩ = some (.int .i64 G.z) := by subst hW; go_simp
  have g2 : W.cell? ⟨w.heap.size, 2, none⟩ = some (.int .i64 G.w) := by subst hW; go_simp
  have g3 : W.cell? ⟨w.heap.size, 3, none⟩ = some (.int .i64 G.d) := by subst hW; go_simp
  have g4 : W.cell? ⟨w.heap.size, 4, none⟩ = some (.slice ga gn G.gc) := by subst hW; go_simp
  clear hW
  refine (KC.out _ n0).mono ?_
  rintro e w1 ⟨rfl, n1⟩
  have HG4 := Lib.hid (fun W2 (q : New W W2) => q.keep g4)
  have N0 := Lib.hid n0
  have N1 := Lib.hid n1
  replace g4 := n1.keep g4
  clear g0 g1 g2 g3 n0 n1 KC
  rcases h2 with rfl | rfl
  rotate_left
  · go_wp2_with fail
    rw [HQ.out]
    exact ⟨false, rfl, by rw [HF.out]; constructor; (intro h; cases h); (rintro ⟨h, -⟩; rw [← HGE.out] at h; cases h), N0.out.trans N1.out⟩
  by_cases hnn : n = gn
  rotate_left
  · have hd : ((n : Int) != (gn : Int)) = true := by rw [bne_iff_ne]; omega
    have HNE := Lib.hid hnn
    clear hnn
    go_wp2_with fail
    rw [HQ.out]
    exact ⟨false, rfl, by rw [HF.out]; constructor; (intro h; cases h); (rintro ⟨-, h, -⟩; exact absurd (by rw [HN.out, HGN.out]; exact h) HNE.out), N0.out.trans N1.out⟩
  have hd : ((n : Int) != (gn : Int)) = false := by rw [bne_eq_false_iff_eq]; omega
  subst hnn
  go_wp2_with fail
  clear hd g4
  go_loopg [22] n (fun gk s22 wr => ∃ i : Nat, s22 = .int .i64 i ∧ i ≤ n ∧ n - i ≤ gk ∧ Hid (∀ j (h : j < L.length), j < i → L[j].length = (gcol G j).length) ∧ Hid (New W wr))
  case atStart => exact ⟨0, rfl, by omega, by omega, Lib.hid (fun j _ h => by omega), N1⟩
  case round =>
    obtain ⟨i, rfl, hi, hgk, hall, hnr⟩ := hrel
    by_cases hlt : i < n
    · have hil : i < L.length := by rw [← HN.out]; exact hlt
      have hgl : i < G.L.length := by rw [← HGN.out]; exact hlt
      obtain ⟨b, off, a, c, rfl, hc, -⟩ := (HH.out.keep (N0.out.trans hnr.out)).at i hil
      obtain ⟨b2, off2, a2, c2, rfl, hc2, -⟩ := (HGR.out.keep (N0.out.trans hnr.out)).at i hgl
      have hgc := gcol_at hgl
      rw [← hgc] at hc2
      have g4 := HG4.out _ hnr.out
      have HNX : Hid (L[i].length = (gcol G i).length → ∀ j (h : j < L.length), j < i + 1 → L[j].length = (gcol G j).length) := Lib.hid (fun q j h h1 => by
        by_cases e : j < i
        · exact hall.out j h e
        · obtain rfl : j = i := by omega
          exact q)
      have HNE : Hid (L[i].length ≠ (gcol G i).length → ¬ FitP G L) := Lib.hid (fun q h => q ((HF.out.1 h).2.2.1 i hil))
      obtain ⟨m1, hm1⟩ : ∃ q, q = L[i].length := ⟨_, rfl⟩
      obtain ⟨m2, hm2⟩ : ∃ q, q = (gcol G i).length := ⟨_, rfl⟩
      rw [← hm1] at hc HNX HNE
      rw [← hm2] at hc2 HNX HNE
      clear hm1 hm2 hgc
      by_cases hmm : m1 = m2
      · have hd : ((m1 : Int) != (m2 : Int)) = false := by rw [bne_eq_false_iff_eq]; omega
        have hnx := Lib.hid (HNX.out hmm)
        clear HNX HNE hmm
        go_wp2_with fail
        go_roundg (n - (i + 1))
        case measure => omega
        case rel => exact ⟨i + 1, by go_num, by omega, by omega, hnx, hnr⟩
      · have hd : ((m1 : Int) != (m2 : Int)) = true := by rw [bne_iff_ne]; omega
        have hnx := Lib.hid (HNE.out hmm)
        clear HNX HNE hmm
        go_wp2_with fail
        rw [HQ.out]
        exact ⟨false, rfl, ⟨fun h => (by cases h), fun h => absurd h hnx.out⟩, N0.out.trans hnr.out⟩
    · obtain rfl : i = n := by omega
      have HALL := Lib.hid (fun j (h : j < L.length) => hall.out j h (by rw [HN.out]; exact h))
      clear hall
      go_wp2_with fail
      refine (KL.out _ (N0.out.trans hnr.out)).mono ?_
      rintro e w2 ⟨rfl, n2⟩
      have NN := Lib.hid (N0.out.trans (hnr.out.trans n2))
      clear n2 hnr
      by_cases h0 : 0 ≤ mn
      · have hd : decide (0 ≤ mn) = true := decide_eq_true h0
        have H0 := Lib.hid h0
        clear h0
        go_wp2_with fail
        rw [HQ.out]
        exact ⟨true, rfl, ⟨fun _ => HF.out.2 ⟨HGE.out.symm, by rw [← HN.out, ← HGN.out], HALL.out, H0.out⟩, fun _ => rfl⟩, NN.out⟩
      · have hd : decide (0 ≤ mn) = false := decide_eq_false h0
        have H0 := Lib.hid h0
        clear h0
        go_wp2_with fail
        rw [HQ.out]
        exact ⟨false, rfl, ⟨fun h => (by cases h), fun h => by have h1 := (HF.out.1 h).2.2.2; have h2 := H0.out; omega⟩, NN.out⟩

end Go.Proofs.YtgoggogcbjfofaaDoor

/- The document's Fits, Cap. -/
namespace Go.Proofs.YtgoggogcbjfofaaDoor
open Go.RowKit
set_option linter.unusedVariables false

set_option maxHeartbeats 8000000 in
set_option maxRecDepth 100000 in
theorem fr_Fits (G : Gd) (va : Value) (L : List (List Int)) (w : World) (hG : G.ok w) (H : RowsK iE 1 w va L) : Calls Tryd.prog 21 #[.agg #[.int .i64 G.x, .int .i64 G.z, .int .i64 G.w, .int .i64 G.d, .slice G.ga G.L.length G.gc], va] w (FitV G L w) := by
  obtain ⟨la, lc, rfl⟩ := H.shape
  have hmx := rows_max H
  unfold maxLen at hmx
  have HH := Lib.hid H
  have HGR : Hid (RowsK Fl.enc 3 w (.slice G.ga G.L.length G.gc) G.L) := Lib.hid hG
  have KC := Lib.hid (fun W n => rg_check G W (hG.keep (n : New w W)))
  have h2 := gE_two G
  have HF : Hid (FitP G L ↔ gE G = 0 ∧ L.length = G.L.length ∧ (∀ i (h : i < L.length), L[i].length = (gcol G i).length) ∧ ∀ i (h : i < L.length), ∀ x ∈ L[i], 0 ≤ x) := Lib.hid Iff.rfl
  obtain ⟨Q, hQ⟩ : ∃ Q, Q = FitV G L w := ⟨_, rfl⟩
  rw [← hQ]
  have HQ := Lib.hid hQ
  clear hQ
  obtain ⟨n, hn⟩ : ∃ n, n = L.length := ⟨_, rfl⟩
  have HN := Lib.hid hn
  rw [← hn] at HH hmx ⊢
  obtain ⟨gn, hgn⟩ : ∃ n, n = G.L.length := ⟨_, rfl⟩
  have HGN := Lib.hid hgn
  rw [← hgn] at HGR KC ⊢
  obtain ⟨ga, hga⟩ : ∃ q, q = G.ga := ⟨_, rfl⟩
  rw [← hga] at HGR KC ⊢
  obtain ⟨ge, hge⟩ : ∃ q, q = gE G := ⟨_, rfl⟩
  rw [← hge] at KC h2
  have HGE := Lib.hid hge
  clear H hn hgn hga hge hG
  go_enter Tryd.func21, Tryd.ntmps21
  go_wp2_with fail
  refine Calls.at (fun W hW => ?_)
  have n0 : New w W := by subst hW; (repeat (first | (with_reducible exact New.refl _) | (with_reducible assumption) | ((with_reducible refine New.setB ?_ ?_ _); focus (first | omega | (simp; omega) | (simp; done))) | (with_reducible refine New.alloc ?_ _) | (with_reducible refine New.drew ?_) | (with_reducible refine New.drewN ?_ _) | (with_reducible refine New.hat ?_ _) | ((with_reducible apply New.snart); (with_reducible assumption))))
  have g0 : W.cell? ⟨w.heap.size, 0, none⟩ = some (.int .i64 G.x) := by subst hW; go_simp
  have g1 : W.cell? ⟨w.heap.size, 1, none⟩ = some (.int .i64 G.z) := by subst hW; go_simp
  have g2 : W.cell? ⟨w.heap.size, 2, none⟩ = some (.int .i64 G.w) := by subst hW; go_simp
  have g3 : W.cell? ⟨w.heap.size, 3, none⟩ = some (.int .i64 G.d) := by subst hW; go_simp
  have g4 : W.cell? ⟨w.heap.size, 4, none⟩ = some (.slice ga gn G.gc) := by subst hW; go_simp
  clear hW
  refine (KC.out _ n0).mono ?_
  rintro e w1 ⟨rfl, n1⟩
  have HG4 := Lib.hid (fun W2 (q : New W W2) => q.keep g4)
  have N0 := Lib.hid n0
  have N1 := Lib.hid n1
  replace g4 := n1.keep g4
  clear g0 g1 g2 g3 n0 n1 KC
  rcases h2 with rfl | rfl
  rotate_left
  · go_wp2_with fail
    rw [HQ.out]
    exact ⟨false, rfl, by rw [HF.out]; constructor; (intro h; cases h); (rintro ⟨h, -⟩; rw [← HGE.out] at h; cases h), N0.out.trans N1.out⟩
  by_cases hnn : n = gn
  rotate_left
  · have hd : ((n : Int) != (gn : Int)) = true := by rw [bne_iff_ne]; omega
    have HNE := Lib.hid hnn
    clear hnn
    go_wp2_with fail
    rw [HQ.out]
    exact ⟨false, rfl, by rw [HF.out]; constructor; (intro h; cases h); (rintro ⟨-, h, -⟩; exact absurd (by rw [HN.out, HGN.out]; exact h) HNE.out), N0.out.trans N1.out⟩
  have hd : ((n : Int) != (gn : Int)) = false := by rw [bne_eq_false_iff_eq]; omega
  subst hnn
  go_wp2_with fail
  clear hd g4
  go_loopg [5] n (fun gk s5 wr => ∃ i : Nat, s5 = .int .i64 i ∧ i ≤ n ∧ n - i ≤ gk ∧ Hid (∀ j (h : j < L.length), j < i → L[j].length = (gcol G j).length ∧ ∀ x ∈ L[j], 0 ≤ x) ∧ Hid (New W wr))
  case atStart => exact ⟨0, rfl, by omega, by omega, Lib.hid (fun j _ h => by omega), N1⟩
  case round =>
    obtain ⟨i, rfl, hi, hgk, hall, hnr⟩ := hrel
    by_cases hlt : i < n
    · have hil : i < L.length := by rw [← HN.out]; exact hlt
      have hgl : i < G.L.length := by rw [← HGN.out]; exact hlt
      obtain ⟨b, off, a, c, rfl, hc, hs⟩ := (HH.out.keep (N0.out.trans hnr.out)).at i hil
      obtain ⟨b2, off2, a2, c2, rfl, hc2, -⟩ := (HGR.out.keep (N0.out.trans hnr.out)).at i hgl
      have hgc := gcol_at hgl
      rw [← hgc] at hc2
      have g4 := HG4.out _ hnr.out
      have HNX : Hid (L[i].length = (gcol G i).length → (∀ x ∈ L[i], 0 ≤ x) → ∀ j (h : j < L.length), j < i + 1 → L[j].length = (gcol G j).length ∧ ∀ x ∈ L[j], 0 ≤ x) := Lib.hid (fun q1 q2 j h h1 => by
        by_cases e : j < i
        · exact hall.out j h e
        · obtain rfl : j = i := by omega
          exact ⟨q1, q2⟩)
      have HNE : Hid (L[i].length ≠ (gcol G i).length → ¬ FitP G L) := Lib.hid (fun q h => q ((HF.out.1 h).2.2.1 i hil))
      have HNZ : Hid (∀ x ∈ L[i], x < 0 → ¬ FitP G L) := Lib.hid (fun x hx q h => by have := (HF.out.1 h).2.2.2 i hil x hx; omega)
      obtain ⟨l, hl⟩ : ∃ q, q = L[i] := ⟨_, rfl⟩
      rw [← hl] at hc hs HNX HNE HNZ
      obtain ⟨a', c', e', hlen1, hlen2, hrow⟩ := sl_at hs
      injection e' with e3 e4 e5
      subst e3
      subst e5
      have hml : l.length ≤ 9223372036854775807 := by unfold maxLen at hlen2; omega
      have HROW := Lib.hid hrow
      obtain ⟨m1, hm1⟩ : ∃ q, q = l.length := ⟨_, rfl⟩
      obtain ⟨m2, hm2⟩ : ∃ q, q = (gcol G i).length := ⟨_, rfl⟩
      rw [← hm1] at hc HNX HNE hml
      rw [← hm2] at hc2 HNX HNE
      have HM1 := Lib.hid hm1
      have HC0 := Lib.hid (fun W2 (q : New wr W2) => q.keep hc)
      have HGK := Lib.hid hgk
      clear hm1 hm2 hgc hl hs hrow hlen1 hlen2 e4 hgk
      rename World => Wo
      by_cases hmm : m1 = m2
      · have hd : ((m1 : Int) != (m2 : Int)) = false := by rw [bne_eq_false_iff_eq]; omega
        have hnx := Lib.hid (HNX.out hmm)
        clear HNX HNE hmm
        go_upto_region 6 with fail
        (refine wp_region_hat (by kernel_rfl) (by kernel_rfl) ?_; intro hatc hatf; (repeat (go_big_quiet_step ((fail)))); refine wpQuiet_nil ?_; rintro _ ⟨q, rfl⟩)
        have NQ := Lib.hid q.h
        clear hatc hatf hc hc2 g4 hd
        generalize q.w = w6 at *
        clear q
        go_wp2_with fail
        go_loopg [6] m1 (fun gk s6 wr => ∃ k : Nat, s6 = .int .i64 k ∧ k ≤ m1 ∧ m1 - k ≤ gk ∧ Hid (∀ j (h : j < l.length), j < k → 0 ≤ l[j]) ∧ Hid (New Wo wr))
        case atStart => exact ⟨0, rfl, by omega, by omega, Lib.hid (fun j _ h => by omega), NQ⟩
        case round =>
          obtain ⟨k, rfl, hk, hgk, hpos, hnk⟩ := hrel
          have hc := HC0.out _ hnk.out
          by_cases hkt : k < m1
          · have hkl : k < l.length := by rw [← HM1.out]; exact hkt
            obtain ⟨b3, o3, rfl, hx⟩ := HROW.out k hkl
            replace hx := hnk.out.keep hx
            have HXX : Hid (0 ≤ l[k] → ∀ j (h : j < l.length), j < k + 1 → 0 ≤ l[j]) := Lib.hid (fun q j h h1 => by
              by_cases e : j < k
              · exact hpos.out j h e
              · obtain rfl : j = k := by omega
                exact q)
            have HXN := Lib.hid (HNZ.out l[k] (List.getElem_mem hkl))
            generalize l[k] = x at *
            by_cases hx0 : x < 0
            · have hd : decide (x < 0) = true := decide_eq_true hx0
              have hbad := Lib.hid (HXN.out hx0)
              clear HXX HXN hx0
              go_wp2_with fail
              rw [HQ.out]
              exact ⟨false, rfl, ⟨fun h => (by cases h), fun h => absurd h hbad.out⟩, N0.out.trans (hnr.out.trans hnk.out)⟩
            · have hd : decide (x < 0) = false := decide_eq_false hx0
              have hgood := Lib.hid (HXX.out (by omega))
              clear HXX HXN hx0
              go_wp2_with fail
              go_roundg (m1 - (k + 1))
              case measure => omega
              case rel => exact ⟨k + 1, by go_num, by omega, by omega, hgood, hnk⟩
          · obtain rfl : k = m1 := by omega
            have hnext := Lib.hid (hnx.out (fun x hx => by
              obtain ⟨j, hj, rfl⟩ := List.getElem_of_mem hx
              exact hpos.out j hj (by rw [HM1.out]; exact hj)))
            clear hnx hpos
            have hgk := HGK.out
            go_wp2_with fail
            go_roundg (n - (i + 1))
            case measure => omega
            case rel => exact ⟨i + 1, by go_num, by omega, by omega, hnext, Lib.hid (hnr.out.trans hnk.out)⟩
      · have hd : ((m1 : Int) != (m2 : Int)) = true := by rw [bne_iff_ne]; omega
        have hnx := Lib.hid (HNE.out hmm)
        clear HNX HNE hmm
        go_upto_region 6 with fail
        (refine wp_region_hat (by kernel_rfl) (by kernel_rfl) ?_; intro hatc hatf; (repeat (go_big_quiet_step ((fail)))); refine wpQuiet_nil ?_; rintro _ ⟨q, rfl⟩)
        have NQ := Lib.hid q.h
        clear hatc hatf hc hc2 g4
        generalize q.w = w6 at *
        clear q
        go_wp2_with fail
        rw [HQ.out]
        exact ⟨false, rfl, ⟨fun h => (by cases h), fun h => absurd h hnx.out⟩, N0.out.trans (hnr.out.trans NQ.out)⟩
    · obtain rfl : i = n := by omega
      have HALL := Lib.hid (fun j (h : j < L.length) => hall.out j h (by rw [HN.out]; exact h))
      have g4 := HG4.out _ hnr.out
      clear hall
      go_wp2_with fail
      rw [HQ.out]
      exact ⟨true, rfl, ⟨fun _ => HF.out.2 ⟨HGE.out.symm, by rw [← HN.out, ← HGN.out], fun j h => (HALL.out j h).1, fun j h => (HALL.out j h).2⟩, fun _ => rfl⟩, N0.out.trans hnr.out⟩

set_option maxHeartbeats 8000000 in
set_option maxRecDepth 100000 in
theorem fr_Cap (C : CfgR) (w : World) : Calls Tryd.prog 15 #[.agg #[.int .i64 C.cl, .int .i64 C.cb, .int .i64 C.ht, .int .i64 C.ri, .int .i64 C.ru, .int .i64 C.wd, .int .i64 C.dp]] w fun e w' => e = .returned (.int .i64 (capC C)) ∧ New w w' := by
  have KC : Hid (∀ W, Calls Tryd.prog 25 #[.agg #[.int .i64 C.cl, .int .i64 C.cb, .int .i64 C.ht, .int .i64 C.ri, .int .i64 C.ru, .int .i64 C.wd, .int .i64 C.dp]] W fun e w' => e = .returned (.int .i64 C.err) ∧ New W w') := Lib.hid (fun W => (rcheck_any C.cl C.cb C.ht C.ri C.ru C.wd C.dp W).mono fun e w' h => ⟨h.1, h.2.1⟩)
  have h1 := err_or C
  have hf := Lib.hid (fun h => fine_cl (C := C) h)
  unfold capC
  generalize C.err = ce at *
  go_enter Tryd.func15, Tryd.ntmps15
  go_wp2_with fail
  refine Calls.at (fun W hW => ?_)
  have n0 : New w W := by subst hW; (repeat (first | (with_reducible exact New.refl _) | (with_reducible assumption) | ((with_reducible refine New.setB ?_ ?_ _); focus (first | omega | (simp; omega) | (simp; done))) | (with_reducible refine New.alloc ?_ _) | (with_reducible refine New.drew ?_) | (with_reducible refine New.drewN ?_ _) | (with_reducible refine New.hat ?_ _) | ((with_reducible apply New.snart); (with_reducible assumption))))
  have c0 : W.cell? ⟨w.heap.size, 0, none⟩ = some (.int .i64 C.cl) := by subst hW; go_simp
  clear hW
  refine (KC.out _).mono ?_
  rintro e w1 ⟨rfl, n1⟩
  replace c0 := n1.keep c0
  have N1 := Lib.hid (n0.trans n1)
  clear n0 n1 KC
  rcases h1 with rfl | rfl
  · have := hf.out rfl
    have hw : IntKind.i64.wrap (C.cl + 3) = C.cl + 3 := IntWalk.i64_in _ (by omega)
    clear this hf
    go_wp2_with fail
    go_ret
    exact ⟨rfl, N1.out⟩
  · clear hf
    go_wp2_with fail
    go_ret
    exact ⟨rfl, N1.out⟩

end Go.Proofs.YtgoggogcbjfofaaDoor
