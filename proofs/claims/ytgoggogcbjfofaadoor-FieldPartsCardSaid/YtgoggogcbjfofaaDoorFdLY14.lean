import Derived.Test.YtgoggogcbjfofaaDoorIntLY14
import Derived.Test.YtgoggogcbjfofaaDoorOgWY14
import Derived.Test.YtgoggogcbjfofaaDoorFdIY14

/- Rows of rows of whole numbers: the same? -/
namespace Go.Proofs.YtgoggogcbjfofaaDoor
open Go.RowKit
set_option linter.unusedVariables false

set_option maxHeartbeats 4000000 in
set_option maxRecDepth 100000 in
theorem i_equal (v1 v2 : Value) (l1 l2 : List Int) (w : World) (h1 : Sl iE 1 w v1 l1) (h2 : Sl iE 1 w v2 l2) :
    Calls Tryd.prog 38 #[v1, v2] w fun e w' => e = .returned (.bool (decide (l1 = l2))) ∧ New w w' := by
  obtain ⟨a1, c1, rfl, p1, p2, H1⟩ := sl_at h1
  obtain ⟨a2, c2, rfl, q1, q2, H2⟩ := sl_at h2
  clear h1 h2
  have m1 : l1.length ≤ maxLen := by omega
  unfold maxLen at m1
  clear p1 p2 q1 q2
  have G1 := Lib.hid H1
  have G2 := Lib.hid H2
  obtain ⟨n1, hn1⟩ : ∃ n, n = l1.length := ⟨_, rfl⟩
  obtain ⟨n2, hn2⟩ : ∃ n, n = l2.length := ⟨_, rfl⟩
  rw [← hn1] at m1 ⊢
  rw [← hn2]
  have HN := Lib.hid (And.intro hn1 hn2)
  obtain ⟨r, hr⟩ : ∃ r, r = decide (l1 = l2) := ⟨_, rfl⟩
  rw [← hr]
  have HR := Lib.hid hr
  clear H1 H2 hn1 hn2 hr
  by_cases hl : n1 = n2
  rotate_left
  · have HE : Hid (r = false) := Lib.hid (by rw [HR.out]; exact decide_eq_false (fun e => hl (by rw [HN.out.1, HN.out.2, e])))
    have bz : ((n1 : Int) != (n2 : Int)) = true := by rw [bne_iff_ne]; omega
    clear hl
    go_enter Tryd.func38, Tryd.ntmps38
    go_wp2_with fail
    go_ret
    exact ⟨by rw [HE.out]; rfl, New.refl _⟩
  subst hl
  have bz : ((n1 : Int) != (n1 : Int)) = false := by simp
  go_enter Tryd.func38, Tryd.ntmps38
  go_wp2_with fail
  go_loopg [13] n1 (fun gk s13 wr => ∃ i : Nat, s13 = .int .i64 i ∧ i ≤ n1 ∧ n1 - i ≤ gk ∧ Hid (∀ j (h1 : j < l1.length) (h2 : j < l2.length), j < i → l1[j] = l2[j]) ∧ Hid (New w wr))
  case atStart => exact ⟨0, rfl, by omega, by omega, Lib.hid (fun j _ _ h => by omega), Lib.hid (New.refl _)⟩
  case round =>
    obtain ⟨i, rfl, hi, hgk, hall, hnr⟩ := hrel
    by_cases hlt : i < n1
    · have hi1 : i < l1.length := by rw [← HN.out.1]; exact hlt
      have hi2 : i < l2.length := by rw [← HN.out.2]; exact hlt
      obtain ⟨b1, o1, rfl, g1⟩ := G1.out i hi1
      obtain ⟨b2, o2, rfl, g2⟩ := G2.out i hi2
      replace g1 := hnr.out.keep g1
      replace g2 := hnr.out.keep g2
      have HX : Hid (l1[i] = l2[i] → ∀ j (h1 : j < l1.length) (h2 : j < l2.length), j < i + 1 → l1[j] = l2[j]) := Lib.hid (fun q j h1 h2 h => by
        by_cases e : j < i
        · exact hall.out j h1 h2 e
        · obtain rfl : j = i := by omega
          exact q)
      have HY : Hid (l1[i] ≠ l2[i] → r = false) := Lib.hid (fun q => by rw [HR.out]; exact decide_eq_false (fun e => q (by simp only [e])))
      generalize l1[i] = x at *
      generalize l2[i] = y at *
      cases he : (x != y)
      · have hxy : x = y := by simpa using he
        have hnx := Lib.hid (HX.out hxy)
        clear HX HY hxy
        go_upto_region 6 with fail
        (refine wp_region_hat (by kernel_rfl) (by kernel_rfl) ?_; intro hatc hatf; (repeat (go_big_quiet_step ((fail)))); refine wpQuiet_nil ?_; rintro _ ⟨q, rfl⟩)
        have HN1 := Lib.hid (hnr.out.trans q.h)
        clear hatc hatf g1 g2
        generalize q.w = w6 at *
        clear q
        go_wp2_with fail
        go_roundg (n1 - (i + 1))
        case measure => omega
        case rel => exact ⟨i + 1, by go_num, by omega, by omega, hnx, HN1⟩
      · have hxy : x ≠ y := by simpa using he
        have HE := Lib.hid (HY.out hxy)
        clear HX HY hxy
        go_upto_region 6 with fail
        (refine wp_region_hat (by kernel_rfl) (by kernel_rfl) ?_; intro hatc hatf; (repeat (go_big_quiet_step ((fail)))); refine wpQuiet_nil ?_; rintro _ ⟨q, rfl⟩)
        have HN1 := Lib.hid (hnr.out.trans q.h)
        clear hatc hatf g1 g2
        generalize q.w = w6 at *
        clear q
        go_wp2_with fail
        go_ret
        exact ⟨by rw [HE.out]; rfl, HN1.out⟩
    · obtain rfl : i = n1 := by omega
      have HE : Hid (r = true) := Lib.hid (by
        rw [HR.out]
        exact decide_eq_true (List.ext_getElem (by rw [← HN.out.1, ← HN.out.2]) (fun j h1 h2 => hall.out j h1 h2 (by rw [HN.out.1]; exact h1))))
      go_wp2_with fail
      go_ret
      exact ⟨by rw [HE.out]; rfl, hnr.out⟩

theorem rows_max {α : Type} {enc : α → List Value} {k : Nat} {w : World} {v : Value} {L : List (List α)} (H : RowsK enc k w v L) : L.length ≤ maxLen := by
  obtain ⟨us, h1, ⟨a, c, e, h2, h3, -⟩, -⟩ := H
  omega

set_option maxHeartbeats 4000000 in
set_option maxRecDepth 100000 in
theorem i_eqF (ga gb : Option Addr) (L M : List (List Int)) (c d : Nat) (w : World) (H : RowsK iE 1 w (.slice ga L.length c) L) (G : RowsK iE 1 w (.slice gb M.length d) M) :
    Calls Tryd.prog 37 #[.slice ga L.length c, .slice gb M.length d, .func (.func 38) #[] #[]] w fun e w' => e = .returned (.bool (decide (L = M))) ∧ New w w' := by
  have HH := Lib.hid H
  have HG := Lib.hid G
  have hmx := rows_max H
  unfold maxLen at hmx
  clear H G
  obtain ⟨r, hr⟩ : ∃ r, r = decide (L = M) := ⟨_, rfl⟩
  rw [← hr]
  have HR := Lib.hid hr
  clear hr
  by_cases hlm : L.length = M.length
  rotate_left
  · have HE : Hid (r = false) := Lib.hid (by rw [HR.out]; exact decide_eq_false (fun e => hlm (by rw [e])))
    have hd : ((L.length : Int) != (M.length : Int)) = true := by rw [bne_iff_ne]; omega
    generalize L.length = n at *
    generalize M.length = m at *
    go_enter Tryd.func37, Tryd.ntmps37
    go_wp2_with fail
    go_ret
    exact ⟨by rw [HE.out]; rfl, New.refl _⟩
  have hd : ((L.length : Int) != (M.length : Int)) = false := by rw [bne_eq_false_iff_eq]; omega
  obtain ⟨n, hn⟩ : ∃ n, n = L.length := ⟨_, rfl⟩
  obtain ⟨m, hm⟩ : ∃ m, m = M.length := ⟨_, rfl⟩
  rw [← hn] at HH hd hmx ⊢
  rw [← hm] at HG hd ⊢
  have hnm : n = m := by omega
  have HN := Lib.hid (And.intro hn hm)
  clear hlm hn hm
  go_enter Tryd.func37, Tryd.ntmps37
  go_wp2_with fail
  clear hd
  have HNM := Lib.hid hnm
  clear hnm
  go_loopg [17] n (fun gk s17 wr => ∃ i : Nat, s17 = .int .i64 i ∧ i ≤ n ∧ n - i ≤ gk ∧ Hid (∀ j (h1 : j < L.length) (h2 : j < M.length), j < i → L[j] = M[j]) ∧ Hid (New w wr))
  case atStart => exact ⟨0, rfl, by omega, by omega, Lib.hid (fun j _ _ h => by omega), Lib.hid (New.refl _)⟩
  case round =>
    obtain ⟨i, rfl, hi, hgk, hall, hnr⟩ := hrel
    by_cases hlt : i < n
    · have hi1 : i < L.length := by have := HN.out.1; omega
      have hi2 : i < M.length := by have := HN.out.2; have := HNM.out; omega
      have hlm : i < m := by have := HNM.out; omega
      obtain ⟨b, off, a, e1, rfl, hc, hs⟩ := (HH.out.keep hnr.out).at i hi1
      obtain ⟨b2, off2, a2, e2, rfl, hc2, hs2⟩ := (HG.out.keep hnr.out).at i hi2
      have KE := Lib.hid (fun W (q : New wr W) => i_equal _ _ L[i] M[i] W (hs.keep q) (hs2.keep q))
      obtain ⟨l1, hl1⟩ : ∃ l1, l1 = L[i].length := ⟨_, rfl⟩
      obtain ⟨l2, hl2⟩ : ∃ l2, l2 = M[i].length := ⟨_, rfl⟩
      rw [← hl1] at hc KE
      rw [← hl2] at hc2 KE
      clear hl1 hl2 hs hs2
      by_cases q : L[i] = M[i]
      · have hnx : Hid (∀ j (h1 : j < L.length) (h2 : j < M.length), j < i + 1 → L[j] = M[j]) := Lib.hid (fun j h1 h2 h => by
          by_cases e : j < i
          · exact hall.out j h1 h2 e
          · obtain rfl : j = i := by omega
            exact q)
        rw [decide_eq_true q] at KE
        clear q
        go_wp2_with fail
        refine (KE.out _ (New.refl _)).mono ?_
        rintro e w2 ⟨rfl, n2⟩
        have nn := Lib.hid (hnr.out.trans n2)
        clear hc hc2 n2
        go_wp2_with fail
        go_roundg (n - (i + 1))
        case measure => omega
        case rel => exact ⟨i + 1, by go_num, by omega, by omega, hnx, nn⟩
      · have HE : Hid (r = false) := Lib.hid (by
          rw [HR.out]
          exact decide_eq_false (fun e => q (by simp only [e])))
        rw [decide_eq_false q] at KE
        clear q
        go_wp2_with fail
        refine (KE.out _ (New.refl _)).mono ?_
        rintro e w2 ⟨rfl, n2⟩
        have nn := hnr.out.trans n2
        go_wp2_with fail
        go_ret
        exact ⟨by rw [HE.out]; rfl, nn⟩
    · have hnm := HNM.out
      subst hnm
      obtain rfl : i = n := by omega
      have HE : Hid (r = true) := Lib.hid (by
        rw [HR.out]
        exact decide_eq_true (List.ext_getElem (by have := HN.out.1; have := HN.out.2; omega) (fun j h1 h2 => hall.out j h1 h2 (by have := HN.out.1; omega))))
      go_wp2_with fail
      go_ret
      exact ⟨by rw [HE.out]; rfl, hnr.out⟩

set_option maxHeartbeats 1000000 in
theorem fd_Same (va vb : Value) (L M : List (List Int)) (w : World) (H : RowsK iE 1 w va L) (G : RowsK iE 1 w vb M) :
    Calls Tryd.prog 19 #[va, vb] w fun e w' => e = .returned (.bool (decide (L = M))) ∧ New w w' := by
  obtain ⟨ga, c, rfl⟩ := H.shape
  obtain ⟨gb, d, rfl⟩ := G.shape
  have K := i_eqF ga gb L M c d w H G
  clear H G
  generalize L.length = n at *
  generalize M.length = m at *
  generalize decide (L = M) = r at *
  go_enter Tryd.func19, Tryd.ntmps19
  go_wp2_with fail
  refine K.mono ?_
  rintro e w1 ⟨rfl, n1⟩
  go_wp2_with fail
  go_ret
  exact ⟨rfl, n1⟩

set_option maxHeartbeats 4000000 in
set_option maxRecDepth 100000 in
theorem fr_Same (va vb : Value) (L M : List (List Int)) (w : World) (H : RowsK iE 1 w va L) (G : RowsK iE 1 w vb M) :
    Calls Tryd.prog 13 #[va, vb] w fun e w' => e = .returned (.bool (decide (L = M))) ∧ New w w' := by
  obtain ⟨ga, c, rfl⟩ := H.shape
  obtain ⟨gb, d, rfl⟩ := G.shape
  have HH := Lib.hid H
  have HG := Lib.hid G
  have hmx := rows_max H
  unfold maxLen at hmx
  clear H G
  obtain ⟨r, hr⟩ : ∃ r, r = decide (L = M) := ⟨_, rfl⟩
  rw [← hr]
  have HR := Lib.hid hr
  clear hr
  by_cases hlm : L.length = M.length
  rotate_left
  · have HE : Hid (r = false) := Lib.hid (by rw [HR.out]; exact decide_eq_false (fun e => hlm (by rw [e])))
    have hd : ((L.length : Int) != (M.length : Int)) = true := by rw [bne_iff_ne]; omega
    generalize L.length = n at *
    generalize M.length = m at *
    go_enter Tryd.func13, Tryd.ntmps13
    go_wp2_with fail
    go_ret
    exact ⟨by rw [HE.out]; rfl, New.refl _⟩
  have hd : ((L.length : Int) != (M.length : Int)) = false := by rw [bne_eq_false_iff_eq]; omega
  obtain ⟨n, hn⟩ : ∃ n, n = L.length := ⟨_, rfl⟩
  obtain ⟨m, hm⟩ : ∃ m, m = M.length := ⟨_, rfl⟩
  rw [← hn] at HH hd hmx ⊢
  rw [← hm] at HG hd ⊢
  have hnm : n = m := by omega
  have HN := Lib.hid (And.intro hn hm)
  clear hlm hn hm
  go_enter Tryd.func13, Tryd.ntmps13
  go_wp2_with fail
  clear hd
  have HNM := Lib.hid hnm
  clear hnm
  go_loopg [5] n (fun gk s5 wr => ∃ i : Nat, s5 = .int .i64 i ∧ i ≤ n ∧ n - i ≤ gk ∧ Hid (∀ j (h1 : j < L.length) (h2 : j < M.length), j < i → L[j] = M[j]) ∧ Hid (New w wr))
  case atStart => exact ⟨0, rfl, by omega, by omega, Lib.hid (fun j _ _ h => by omega), Lib.hid (New.refl _)⟩
  case round =>
    obtain ⟨i, rfl, hi, hgk, hall, hnr⟩ := hrel
    by_cases hlt : i < n
    · have hi1 : i < L.length := by have := HN.out.1; omega
      have hi2 : i < M.length := by have := HN.out.2; have := HNM.out; omega
      have hlm : i < m := by have := HNM.out; omega
      obtain ⟨b, off, a, e1, rfl, hc, hs⟩ := (HH.out.keep hnr.out).at i hi1
      obtain ⟨b2, off2, a2, e2, rfl, hc2, hs2⟩ := (HG.out.keep hnr.out).at i hi2
      have KE := Lib.hid (fun W (q : New wr W) => rInts_any _ _ L[i] M[i] W (hs.keep q) (hs2.keep q))
      obtain ⟨l1, hl1⟩ : ∃ l1, l1 = L[i].length := ⟨_, rfl⟩
      obtain ⟨l2, hl2⟩ : ∃ l2, l2 = M[i].length := ⟨_, rfl⟩
      rw [← hl1] at hc KE
      rw [← hl2] at hc2 KE
      clear hl1 hl2 hs hs2
      have F0 := Lib.hid (fun (q : Hat wr) => KE.out q.w q.h)
      go_upto_region 6 with fail
      (refine wp_region_hat (by kernel_rfl) (by kernel_rfl) ?_; intro hatc hatf; (repeat (go_big_quiet_step (((go_at_call 29; with_reducible exact Calls.hat (F0.out _)))))); refine wpQuiet_nil ?_; rintro _ ⟨q, rfl⟩)
      have HN1 := Lib.hid (hnr.out.trans q.h)
      clear hatc hatf hc hc2 F0 KE
      generalize q.w = w6 at *
      clear q
      by_cases q : L[i] = M[i]
      · have hnx : Hid (∀ j (h1 : j < L.length) (h2 : j < M.length), j < i + 1 → L[j] = M[j]) := Lib.hid (fun j h1 h2 h => by
          by_cases e : j < i
          · exact hall.out j h1 h2 e
          · obtain rfl : j = i := by omega
            exact q)
        rw [decide_eq_true q]
        clear q
        go_wp2_with fail
        go_roundg (n - (i + 1))
        case measure => omega
        case rel => exact ⟨i + 1, by go_num, by omega, by omega, hnx, HN1⟩
      · have HE : Hid (r = false) := Lib.hid (by
          rw [HR.out]
          exact decide_eq_false (fun e => q (by simp only [e])))
        rw [decide_eq_false q]
        clear q
        go_wp2_with fail
        go_ret
        exact ⟨by rw [HE.out]; rfl, HN1.out⟩
    · have hnm := HNM.out
      subst hnm
      obtain rfl : i = n := by omega
      have HE : Hid (r = true) := Lib.hid (by
        rw [HR.out]
        exact decide_eq_true (List.ext_getElem (by have := HN.out.1; have := HN.out.2; omega) (fun j h1 h2 => hall.out j h1 h2 (by have := HN.out.1; omega))))
      go_wp2_with fail
      go_ret
      exact ⟨by rw [HE.out]; rfl, hnr.out⟩

end Go.Proofs.YtgoggogcbjfofaaDoor

/- Rows of rows of whole numbers: all of them, the least one. -/
namespace Go.Proofs.YtgoggogcbjfofaaDoor
open Go.RowKit
set_option linter.unusedVariables false

def i_Grown (n : Nat) (w : World) (e : Ending) (w' : World) : Prop := ∃ v, e = .returned v ∧ w'.ownsRow w.heap.size 3 1 v 0 [] ∧ New w w'

set_option maxHeartbeats 2000000 in
theorem i_grow (n : Nat) (hn : n ≤ 100000) (w : World) : Calls Tryd.prog 48 #[.slice none 0 0, .int .i64 n] w (i_Grown n w) := by
  have h1 : ¬ ((n : Int) < 0) := by omega
  rcases Nat.eq_zero_or_pos n with rfl | h0
  · go_enter Tryd.func48, Tryd.ntmps48
    go_wp2_with fail
    go_ret
    exact ⟨_, rfl, World.ownsRow_nil _ _ _ _, New.refl _⟩
  · obtain ⟨i, hi, hz0, hz1, hz2⟩ := info_parts int_info
    have hr : ∀ ty, (Builtin.append_ #[50, 3] ty #[.slice none 0 0, .int .i64 (n : Int)]).run Tryd.prog w = _ := fun ty =>
      Lib.run_append_nil_zeros w 50 3 ty 3 i _ .i64 .i64 Tryd.underlying50 Tryd.underlying3 hi hz0 n h0 (by rw [hz1]; omega) (by omega) (by rw [hz2]; omega)
    have hge : n ≤ grownCap w n 0 3 := grownCap_ge w _ _ _
    have hle : grownCap w n 0 3 ≤ maxLen := grownCap_le_maxLen w n 0 3 (by unfold maxLen; omega)
    obtain ⟨G, hG⟩ : ∃ G, G = grownCap w n 0 3 := ⟨_, rfl⟩
    rw [← hG] at hr hge hle
    have HLE := Lib.hid hle
    unfold maxLen at hle
    have h2 : (0 : Int) < (n : Int) := by omega
    clear hG
    go_enter Tryd.func48, Tryd.ntmps48
    go_wp2_with (at_builtin; refine Lib.wpList_append_run _ rfl _ _ _ _ rfl _ _ rfl rfl _ _ (hr _) ?_)
    go_ret
    refine ⟨_, rfl, ⟨by simp, Or.inr ⟨w.heap.size, G, _, rfl, Nat.le_refl _, heap_new w.drew _, Nat.zero_le _, HLE.out, ?_, by simp⟩⟩, (New.refl w).drew.alloc _⟩
    rw [Array.size_append, size_zeroCells, size_zeroCells]
    show n * 1 + (G - n) * 1 = G * 1
    omega

/-- The numbers of the first i rows. -/
def flT (L : List (List Int)) (i : Nat) : List Int := (L.take i).flatten
theorem flT_succ (L : List (List Int)) {i : Nat} (h : i < L.length) : flT L (i + 1) = flT L i ++ L[i] := by
  unfold flT
  rw [List.take_succ_eq_append_getElem h, List.flatten_append]
  simp
theorem flT_all (L : List (List Int)) : flT L L.length = L.flatten := by unfold flT; rw [List.take_length]
theorem flT_le (L : List (List Int)) (i : Nat) : (flT L i).length ≤ L.flatten.length := by
  unfold flT
  have h := List.take_append_drop i L
  have e : L.flatten.length = (L.take i).flatten.length + (L.drop i).flatten.length := by rw [← List.length_append, ← List.flatten_append, h]
  omega
def smallI (L : List (List Int)) : Prop := L.length ≤ 600 ∧ L.flatten.length ≤ 24000

set_option maxHeartbeats 4000000 in
set_option maxRecDepth 100000 in
theorem i_concat (va : Value) (L : List (List Int)) (hL : smallI L) (w : World) (H : RowsK iE 1 w va L) :
    Calls Tryd.prog 35 #[va] w fun e w' => ∃ v, e = .returned v ∧ Sl iE 1 w' v L.flatten ∧ New w w' := by
  obtain ⟨i0, hi, hz0, hz1, hz2⟩ := info_parts int_info
  obtain ⟨ga, gc, rfl⟩ := H.shape
  obtain ⟨hL1, hL2⟩ := hL
  have HH := Lib.hid H
  have HFS := Lib.hid (fun i h => flT_succ L (i := i) h)
  have HFL := Lib.hid (fun i => flT_le L i)
  have HFA := Lib.hid (flT_all L)
  have HF0 : Hid (flT L 0 = []) := Lib.hid rfl
  obtain ⟨n, hn⟩ : ∃ n, n = L.length := ⟨_, rfl⟩
  rw [← hn] at HH HFA hL1 ⊢
  have HN := Lib.hid hn
  obtain ⟨tot, htot⟩ : ∃ n, n = L.flatten.length := ⟨_, rfl⟩
  rw [← htot] at HFL hL2
  clear H hn htot
  generalize flT L = fT at *
  go_enter Tryd.func35, Tryd.ntmps35
  go_wp2_with fail
  go_loopg [3, 11] n (fun gk s3 s11 wr => ∃ i : Nat, s11 = .int .i64 i ∧ s3 = .int .i64 ((fT i).length : Nat) ∧ i ≤ n ∧ n - i ≤ gk ∧ Hid (New w wr))
  case atStart => exact ⟨0, rfl, by rw [HF0.out]; rfl, by omega, by omega, Lib.hid (New.refl _)⟩
  case round =>
    obtain ⟨i, rfl, rfl, hik, hgk, hnr⟩ := hrel
    by_cases hlt : i < n
    · have hil : i < L.length := by rw [← HN.out]; exact hlt
      obtain ⟨b, off, a, c, rfl, hc, -⟩ := (HH.out.keep hnr.out).at i hil
      have hfs := HFS.out i hil
      have hfl := HFL.out (i + 1)
      have hfe : (fT (i + 1)).length = (fT i).length + L[i].length := by rw [hfs, List.length_append]
      have HFE := Lib.hid hfe
      rw [hfe] at hfl
      obtain ⟨m, hm⟩ : ∃ m, m = L[i].length := ⟨_, rfl⟩
      rw [← hm] at hc hfl HFE
      obtain ⟨fl, hfl2⟩ : ∃ m, m = (fT i).length := ⟨_, rfl⟩
      rw [← hfl2] at hfl HFE ⊢
      have hd : decide (fl + m < (0 : Int)) = false := decide_eq_false (by omega)
      clear hm hfl2 hfs hfe
      go_wp2_with fail
      go_roundg (n - (i + 1))
      case measure => omega
      case rel => exact ⟨i + 1, by go_num, by rw [HFE.out]; go_num, by omega, by omega, hnr⟩
    · obtain rfl : i = n := by omega
      have hfl := HFL.out i
      have hg := Lib.hid (fun W => i_grow (fT i).length (by omega) W)
      unfold i_Grown at hg
      obtain ⟨N, hN⟩ : ∃ N, N = (fT i).length := ⟨_, rfl⟩
      rw [← hN] at hg ⊢
      clear hN hfl
      go_wp2_with fail
      refine (hg.out _).mono ?_
      rintro e w1 ⟨v, rfl, hown, n1⟩
      have N1 := Lib.hid (hnr.out.trans n1)
      obtain ⟨base, hbase⟩ : ∃ b, b = wr.heap.size := ⟨_, rfl⟩
      rw [← hbase] at hown
      have hbz : w.heap.size ≤ base := by rw [hbase]; exact hnr.out.size
      have hb1 : base ≤ w1.heap.size := by rw [hbase]; exact n1.size
      have OW : Hid (w1.ownsRow base 3 1 v (fT 0).length ((fT 0).flatMap iE)) := Lib.hid (by rw [HF0.out]; exact hown)
      clear hown hg n1 hbase
      go_wp2_with fail
      go_loopg [6, 27] i (fun gk s6 s27 wr => ∃ (j : Nat) (v6 : Value), s27 = .int .i64 j ∧ s6 = v6 ∧ j ≤ i ∧ i - j ≤ gk ∧ Hid (wr.ownsRow base 3 1 v6 (fT j).length ((fT j).flatMap iE)) ∧ Hid (New w wr) ∧ Hid (base ≤ wr.heap.size))
      case atStart => exact ⟨0, _, rfl, rfl, by omega, by omega, OW, N1, Lib.hid hb1⟩
      case round =>
        clear OW N1 hb1
        obtain ⟨j, v6, rfl, hs6, hjk, hgk, OW, hnj, hb1⟩ := hrel
        replace hs6 := hs6.symm
        subst hs6
        by_cases hlt : j < i
        · have hjl : j < L.length := by rw [← HN.out]; exact hlt
          obtain ⟨b, off, a, c, rfl, hc, hs⟩ := (HH.out.keep hnj.out).at j hjl
          have HFJ := Lib.hid (HFS.out j hjl)
          have hfl := HFL.out (j + 1)
          rw [HFJ.out, List.length_append] at hfl
          generalize L[j] = l at *
          obtain ⟨pre, hpre⟩ : ∃ q, q = fT j := ⟨_, rfl⟩
          rw [← hpre] at OW HFJ hfl
          obtain ⟨m, hm⟩ : ∃ m, m = l.length := ⟨_, rfl⟩
          rw [← hm] at hc hs hfl
          have HS := Lib.hid hs
          have HM := Lib.hid hm
          clear hpre hm hs
          by_cases hnone : a = none
          · subst hnone
            have hcl : c = 0 ∧ m = 0 := by
              obtain ⟨a', c', e', h1, -, h3, -⟩ := HS.out
              injection e' with q1 q2 q3
              have := h3 q1.symm
              omega
            obtain ⟨rfl, rfl⟩ := hcl
            have HL : Hid (l = []) := Lib.hid (List.eq_nil_of_length_eq_zero HM.out.symm)
            go_wp2_with (at_builtin; refine Lib.wpList_append_run _ rfl _ _ _ _ rfl _ _ rfl rfl _ _ (run_append_owned_none (P := Tryd.prog) wr base 50 _ 3 i0 1 Tryd.underlying50 hi _ _ _ OW.out) ?_)
            go_roundg (i - (j + 1))
            case measure => omega
            case rel => exact ⟨j + 1, _, by go_num, rfl, by omega, by omega, Lib.hid (by rw [HFJ.out, HL.out, List.append_nil]; exact OW.out), hnj, hb1⟩
          · obtain ⟨ad, rfl⟩ : ∃ ad, a = some ad := by
              cases a with
              | none => exact absurd rfl hnone
              | some x => exact ⟨x, rfl⟩
            have hS2 : Sl iE 1 wr (.slice (some ad) l.length c) l := by rw [← HM.out]; exact HS.out
            have hnews := sl_news iE_len hS2
            have hfml : (l.flatMap iE).length = m * 1 := by rw [flatMap_len iE_len, HM.out]
            have hb1' := hb1.out
            clear hnone hS2
            go_wp2_with (at_builtin; refine wpList_append_own _ rfl _ _ 50 rfl base 3 i0 (.int .i64 0) 1 8 Tryd.underlying50 hi hz0 hz1 hz2 rfl (by decide) _ _ _ rfl OW.out ad _ _ (l.flatMap iE) rfl hfml hnews (fun u hu => by obtain ⟨x, _, hx⟩ := List.mem_flatMap.1 hu; exact iE_one x u hx) (by unfold maxLen; omega) (by omega) hb1' ?_; intro v' w2 hown' hgrow _)
            have hn2 : Hid (New w w2) := Lib.hid (newGrown hnj.out hgrow (fun k e => Nat.le_trans hbz (own_block OW.out k e)))
            have hb2 : Hid (base ≤ w2.heap.size) := Lib.hid (Nat.le_trans hb1' hgrow.size)
            have OW2 : Hid (w2.ownsRow base 3 1 v' (fT (j + 1)).length ((fT (j + 1)).flatMap iE)) := Lib.hid (by rw [HFJ.out, List.length_append, List.flatMap_append, ← HM.out]; exact hown')
            clear hown' hgrow OW hc hnews hfml
            go_roundg (i - (j + 1))
            case measure => omega
            case rel => exact ⟨j + 1, _, by go_num, rfl, by omega, by omega, OW2, hn2, hb2⟩
        · obtain rfl : j = i := by omega
          have HEND : Hid (Sl iE 1 wr v6 L.flatten) := Lib.hid (by rw [← HFA.out]; exact own_sl iE_len OW.out)
          clear OW
          go_wp2_with fail
          go_ret
          exact ⟨_, rfl, HEND.out, hnj.out⟩

/-- The least number; 0 of none. -/
def mnI : List Int → Int
  | [] => 0
  | x :: xs => xs.foldl min x
theorem foldl_min_snoc (x y : Int) (l : List Int) : (l ++ [y]).foldl min x = min (l.foldl min x) y := by rw [List.foldl_append]; rfl
theorem mnI_snoc {l : List Int} (h : l ≠ []) (y : Int) : mnI (l ++ [y]) = min (mnI l) y := by
  cases l with
  | nil => exact absurd rfl h
  | cons x l => exact foldl_min_snoc x y l
theorem mnI_one (y : Int) : mnI [y] = y := rfl
theorem foldl_min_le (l : List Int) : ∀ x : Int, l.foldl min x ≤ x ∧ ∀ y ∈ l, l.foldl min x ≤ y := by
  induction l with
  | nil => intro x; exact ⟨Int.le_refl _, fun y h => by cases h⟩
  | cons z l ih =>
    intro x
    obtain ⟨h1, h2⟩ := ih (min x z)
    refine ⟨by show List.foldl min (min x z) l ≤ x; omega, fun y hy => ?_⟩
    show List.foldl min (min x z) l ≤ y
    rcases List.mem_cons.1 hy with rfl | hy
    · omega
    · exact h2 y hy
theorem foldl_min_mem (l : List Int) : ∀ x : Int, l.foldl min x = x ∨ l.foldl min x ∈ l := by
  induction l with
  | nil => intro x; exact .inl rfl
  | cons z l ih =>
    intro x
    rcases ih (min x z) with h | h
    · show List.foldl min (min x z) l = x ∨ List.foldl min (min x z) l ∈ z :: l
      rw [h]
      by_cases q : x ≤ z
      · left; omega
      · right; rw [show min x z = z by omega]; exact List.mem_cons_self
    · exact .inr (List.mem_cons_of_mem _ h)
theorem mnI_nonneg (l : List Int) : 0 ≤ mnI l ↔ ∀ x ∈ l, 0 ≤ x := by
  cases l with
  | nil => exact ⟨fun _ x h => (by cases h), fun _ => Int.le_refl _⟩
  | cons x l =>
    show 0 ≤ l.foldl min x ↔ _
    obtain ⟨h1, h2⟩ := foldl_min_le l x
    constructor
    · intro h y hy
      rcases List.mem_cons.1 hy with rfl | hy
      · omega
      · have := h2 y hy; omega
    · intro h
      rcases foldl_min_mem l x with q | q
      · rw [q]; exact h x List.mem_cons_self
      · exact h _ (List.mem_cons_of_mem _ q)

set_option maxHeartbeats 4000000 in
set_option maxRecDepth 100000 in
theorem i_min (v : Value) (l : List Int) (h0 : 0 < l.length) (w : World) (H : Sl iE 1 w v l) :
    Calls Tryd.prog 36 #[v] w fun e w' => e = .returned (.int .i64 (mnI l)) ∧ New w w' := by
  obtain ⟨a1, c1, rfl, p1, p2, H1⟩ := sl_at H
  have m1 : l.length ≤ maxLen := by omega
  unfold maxLen at m1
  clear p1 p2 H
  have G1 := Lib.hid H1
  have HT : Hid (∀ i (h : i < l.length), 1 ≤ i → mnI (l.take (i + 1)) = min (mnI (l.take i)) l[i]) := Lib.hid (fun i h h1 => by
    rw [List.take_succ_eq_append_getElem h]
    exact mnI_snoc (fun e => by
      have h2 : (l.take i).length = 0 := by rw [e]; rfl
      rw [List.length_take] at h2
      omega) _)
  have HT1 : Hid (mnI (l.take 1) = l[0]) := Lib.hid (by
    cases l with
    | nil => simp at h0
    | cons x l => rfl)
  have HTA : Hid (mnI (l.take l.length) = mnI l) := Lib.hid (by rw [List.take_length])
  obtain ⟨n, hn⟩ : ∃ n, n = l.length := ⟨_, rfl⟩
  rw [← hn] at m1 HTA ⊢
  have HN := Lib.hid hn
  obtain ⟨r, hr⟩ : ∃ r, r = mnI l := ⟨_, rfl⟩
  rw [← hr] at HTA ⊢
  obtain ⟨b, off, rfl, g0⟩ := H1 0 h0
  have hn0 : 0 < n := by omega
  have hd : decide ((n : Int) < 1) = false := decide_eq_false (by omega)
  have hd2 : decide (n < 1) = false := decide_eq_false (by omega)
  have hx0 := HT1.out
  rw [← hx0, Nat.add_zero] at g0
  have GB : Hid (∀ i (h : i < l.length), w.cell? ⟨b, off + i, none⟩ = some (.int .i64 l[i])) := Lib.hid (fun i h => by
    obtain ⟨b2, o2, e, g⟩ := G1.out i h
    injection e with e
    injection e with e1 e2
    subst e1
    subst e2
    exact g)
  clear H1 hn hr hx0 G1 HT1 h0
  obtain ⟨f, hf⟩ : ∃ f, f = fun i => mnI (l.take i) := ⟨_, rfl⟩
  have e1 : ∀ i, mnI (l.take i) = f i := fun i => by rw [hf]
  rw [e1] at g0 HTA
  have HT2 : Hid (∀ i (h : i < l.length), 1 ≤ i → f (i + 1) = min (f i) l[i]) := Lib.hid (fun i h h1 => by rw [← e1, ← e1]; exact HT.out i h h1)
  clear hf e1 HT
  go_enter Tryd.func36, Tryd.ntmps36
  go_wp2_with fail
  clear g0 hd hd2
  go_loopg [3, 4] n (fun gk s3 s4 wr => ∃ i : Nat, s4 = .int .i64 i ∧ s3 = .int .i64 (f i) ∧ 1 ≤ i ∧ i ≤ n ∧ n - i ≤ gk ∧ Hid (New w wr))
  case atStart => exact ⟨1, rfl, rfl, by omega, by omega, by omega, Lib.hid (New.refl _)⟩
  case round =>
    obtain ⟨i, rfl, rfl, hi1, hi2, hgk, hnr⟩ := hrel
    by_cases hlt : i < n
    · have hil : i < l.length := by rw [← HN.out]; exact hlt
      have g := hnr.out.keep (GB.out i hil)
      have hs := HT2.out i hil hi1
      have HS := Lib.hid hs
      generalize l[i] = x at *
      generalize f i = y at *
      clear hs
      go_wp2_with fail
      go_roundg (n - (i + 1))
      case measure => omega
      case rel => exact ⟨i + 1, by go_num, by rw [HS.out], by omega, by omega, by omega, hnr⟩
    · obtain rfl : i = n := by omega
      have e := HTA.out
      rw [e]
      clear e
      go_wp2_with fail
      go_ret
      exact ⟨rfl, hnr.out⟩

set_option maxHeartbeats 4000000 in
theorem fd_Least (va : Value) (L : List (List Int)) (hL : smallI L) (w : World) (H : RowsK iE 1 w va L) :
    Calls Tryd.prog 17 #[va] w fun e w' => e = .returned (.tuple #[.int .i64 (mnI L.flatten), .bool (decide (0 < L.flatten.length))]) ∧ New w w' := by
  have KC := Lib.hid (i_concat va L hL w H)
  have KM := Lib.hid (fun v h0 W (q : Sl iE 1 W v L.flatten) => i_min v L.flatten h0 W q)
  clear H hL
  generalize L.flatten = l at *
  obtain ⟨n, hn⟩ : ∃ n, n = l.length := ⟨_, rfl⟩
  rw [← hn] at KM ⊢
  have HN := Lib.hid hn
  clear hn
  go_enter Tryd.func17, Tryd.ntmps17
  go_wp2_with fail
  refine KC.out.mono ?_
  rintro e w1 ⟨v, rfl, hs, n1⟩
  obtain ⟨a, c, rfl, -⟩ := id hs
  rw [← HN.out] at hs ⊢
  have HS := Lib.hid hs
  clear hs KC
  rcases Nat.eq_zero_or_pos n with rfl | h0
  · have hl : l = [] := List.eq_nil_of_length_eq_zero HN.out.symm
    subst hl
    go_wp2_with fail
    go_ret2
    exact ⟨rfl, n1⟩
  · have hd : ((n : Int) == 0) = false := by rw [beq_eq_false_iff_ne]; omega
    have K2 := Lib.hid (KM.out _ h0 w1 HS.out)
    have h1 : decide (0 < n) = true := decide_eq_true h0
    obtain ⟨r, hr⟩ : ∃ r, r = mnI l := ⟨_, rfl⟩
    rw [← hr] at K2
    have HRR := Lib.hid hr
    clear KM h0 hr
    have H1 := Lib.hid h1
    clear h1
    go_wp2_with fail
    refine K2.out.mono ?_
    rintro e w2 ⟨rfl, n2⟩
    have nn := n1.trans n2
    go_wp2_with fail
    go_ret2
    exact ⟨by rw [H1.out, ← HRR.out]; rfl, nn⟩

end Go.Proofs.YtgoggogcbjfofaaDoor
