import Derived.Test.YtklopjbpfddgfaaOgAZ11
import Derived.Test.YtklopjbpfddgfaaHatS
import Derived.Deep.LoopGhost
import Derived.Test.YtklopjbpfddgfaaOgIZ11

/- The library's Equal, of slices of a kind. -/
namespace Go.Proofs.Ytklopjbpfddgfaa
open Go.RowKit
set_option linter.unusedVariables false

def Fl.allEq : List Fl → List Fl → Bool
  | [], [] => true
  | a :: l, b :: m => a.eqB b && Fl.allEq l m
  | _, _ => false
theorem Fl.allEq_iff : ∀ l m : List Fl, Fl.allEq l m = true ↔ l = m
  | [], [] => by simp [Fl.allEq]
  | [], _ :: _ => by simp [Fl.allEq]
  | _ :: _, [] => by simp [Fl.allEq]
  | a :: l, b :: m => by simp [Fl.allEq, Fl.eqB_iff, Fl.allEq_iff l m]

set_option maxHeartbeats 4000000 in
theorem fl_neq (w : World) (a b : Fl) : (binOp .neq 43 (.agg #[.int .i64 a.y, .int .i64 a.top, .int .i64 a.area]) (.agg #[.int .i64 b.y, .int .i64 b.top, .int .i64 b.area])).run Try.prog w = .ok (.bool (!a.eqB b)) w := by
  obtain ⟨a0, a1, a2⟩ := a
  obtain ⟨b0, b1, b2⟩ := b
  unfold Fl.eqB
  cases h0 : (a0 == b0)
  · go_simp
  · skip
    cases h1 : (a1 == b1)
    · go_simp
    · skip
      cases h2 : (a2 == b2)
      · go_simp
      · go_simp

set_option maxHeartbeats 4000000 in
set_option maxRecDepth 100000 in
theorem fl_equal (a0 b0 : Option Addr) (l m : List Fl) (c d : Nat) (hl : l.length ≤ 1000) (hm : m.length ≤ 1000) (w : World) (H : RowIn Fl.enc 3 w a0 l) (G : RowIn Fl.enc 3 w b0 m) :
    Calls Try.prog 34 #[.slice a0 l.length c, .slice b0 m.length d] w fun e w' => e = .returned (.bool (Fl.allEq l m)) ∧ New w w' := by
  have HH := Lib.hid H
  have HG := Lib.hid G
  clear H G
  by_cases hlm : l.length = m.length
  rotate_left
  · have hd : ((l.length : Int) != (m.length : Int)) = true := by simpa using fun h => hlm (by omega)
    have hr : Fl.allEq l m = false := by
      cases h : Fl.allEq l m with
      | false => rfl
      | true => exact absurd (by rw [(Fl.allEq_iff l m).1 h]) hlm
    have HR := Lib.hid hr
    clear hlm hr
    go_enter Try.func34, Try.ntmps34
    go_wp2_with fail
    go_ret
    rw [HR.out]
    exact ⟨rfl, New.refl _⟩
  have hd : ((l.length : Int) != (m.length : Int)) = false := by simp; omega
  have HLM := Lib.hid hlm
  clear hlm
  have hlm1 : l.length ≤ m.length := by rw [HLM.out]; omega
  have hlm2 : m.length ≤ l.length := by rw [HLM.out]; omega
  go_enter Try.func34, Try.ntmps34
  go_wp2_with fail
  clear hd
  go_loopg [13] l.length (fun k s wr => ∃ i : Nat, s = .int .i64 i ∧ i + k = l.length ∧ l.take i = m.take i ∧ New w wr)
  case atStart => exact ⟨0, by simp, by omega, by simp, New.refl _⟩
  case round =>
    obtain ⟨i, rfl, hik, hall, hn⟩ := hrel
    have HA := Lib.hid hall
    clear hall
    by_cases hlt : i < l.length
    · obtain ⟨b, off, rfl, hA⟩ := HH.out (by omega)
      obtain ⟨b', off', rfl, hA2⟩ := HG.out (by omega)
      have hA' := hA.keep hn
      have hA2' := hA2.keep hn
      obtain ⟨c0, c1, c2⟩ := Fl.cells hA' i hlt
      obtain ⟨d0, d1, d2⟩ := Fl.cells hA2' i (by omega)
      have hq := fun W => fl_neq W l[i] (m[i]'(by omega))
      clear hA hA' hA2 hA2'
      cases he : l[i].eqB (m[i]'(by omega))
      · rw [he] at hq
        have HNO : Hid (Fl.allEq l m = false) := by
          show _ = false
          cases h : Fl.allEq l m with
          | false => rfl
          | true =>
            have h1 := (Fl.allEq_iff l m).1 h
            subst h1
            rw [(Fl.eqB_iff _ _).2 rfl] at he
            cases he
        clear he
        go_wp2_with fail
        (refine wp_region_hat (by kernel_rfl) (by kernel_rfl) ?_; intro hatc hatf; (repeat (go_big_quiet_step ((fail)))); refine wpQuiet_nil ?_; rintro _ ⟨x, rfl⟩)
        go_wp2_with fail
        go_ret
        rw [HNO.out]
        exact ⟨rfl, hn.hat x⟩
      · rw [he] at hq
        have HE := Lib.hid ((Fl.eqB_iff _ _).1 he)
        clear he
        go_wp2_with fail
        (refine wp_region_hat (by kernel_rfl) (by kernel_rfl) ?_; intro hatc hatf; (repeat (go_big_quiet_step ((fail)))); refine wpQuiet_nil ?_; rintro _ ⟨x, rfl⟩)
        go_wp2_with fail
        go_roundg (gk - 1)
        case measure => omega
        case rel => exact ⟨i + 1, by go_num, by omega, by rw [List.take_succ_eq_append_getElem hlt, List.take_succ_eq_append_getElem (show i < m.length by omega), HA.out, HE.out], hn.hat x⟩
    · have hr : Fl.allEq l m = true := (Fl.allEq_iff l m).2 (by
        have := HA.out
        rwa [List.take_of_length_le (by omega), List.take_of_length_le (by omega)] at this)
      have HR := Lib.hid hr
      clear hr
      go_wp2_with fail
      go_ret
      rw [HR.out]
      exact ⟨rfl, hn⟩

end Go.Proofs.Ytklopjbpfddgfaa

/- Package open: Same. -/
namespace Go.Proofs.Ytklopjbpfddgfaa
open Go.RowKit
set_option linter.unusedVariables false

/-- The same rows? -/
def eqR (L M : List (List Fl)) : Bool := decide (L = M)
theorem eqR_len {L M : List (List Fl)} (h : L.length ≠ M.length) : eqR L M = false := decide_eq_false (fun e => h (by rw [e]))
theorem eqR_at {L M : List (List Fl)} (j : Nat) (h1 : j < L.length) (h2 : j < M.length) (h : L[j] ≠ M[j]) : eqR L M = false := decide_eq_false (fun e => by subst e; exact h rfl)
theorem eqR_all {L M : List (List Fl)} (hl : L.length = M.length) (h : ∀ j (h1 : j < L.length) (h2 : j < M.length), L[j] = M[j]) : eqR L M = true := decide_eq_true (List.ext_getElem hl h)
def smallL (L : List (List Fl)) : Prop := ∀ j (h : j < L.length), L[j].length ≤ 1000

set_option maxHeartbeats 4000000 in
set_option maxRecDepth 100000 in
theorem og_eqF (ga gb : Option Addr) (L M : List (List Fl)) (c d : Nat) (hL : smallL L) (hM : smallL M) (w : World) (H : RowsK Fl.enc 3 w (.slice ga L.length c) L) (G : RowsK Fl.enc 3 w (.slice gb M.length d) M) :
    Calls Try.prog 33 #[.slice ga L.length c, .slice gb M.length d, .func (.func 34) #[] #[]] w fun e w' => e = .returned (.bool (eqR L M)) ∧ New w w' := by
  have HH := Lib.hid H
  have HG := Lib.hid G
  have hmx : L.length ≤ maxLen := by obtain ⟨us, h1, ⟨a, c, e, h2, h3, -⟩, -⟩ := H; omega
  unfold maxLen at hmx
  clear H G
  obtain ⟨r, hr⟩ : ∃ r, r = eqR L M := ⟨_, rfl⟩
  rw [← hr]
  have HR := Lib.hid hr
  clear hr
  by_cases hlm : L.length = M.length
  rotate_left
  · have HE : Hid (r = false) := Lib.hid (by rw [HR.out]; exact eqR_len hlm)
    have hd : ((L.length : Int) != (M.length : Int)) = true := by rw [bne_iff_ne]; omega
    generalize L.length = n at *
    generalize M.length = m at *
    go_enter Try.func33, Try.ntmps33
    go_wp2_with fail
    go_ret
    exact ⟨by rw [HE.out]; rfl, New.refl _⟩
  have hd : ((L.length : Int) != (M.length : Int)) = false := by rw [bne_eq_false_iff_eq]; omega
  obtain ⟨n, hn⟩ : ∃ n, n = L.length := ⟨_, rfl⟩
  obtain ⟨m, hm⟩ : ∃ m, m = M.length := ⟨_, rfl⟩
  rw [← hn] at HH hd hmx ⊢
  rw [← hm] at HG hd ⊢
  have hnm : n = m := by omega
  have HN := Lib.hid (And.intro hn hm)
  clear hlm hn hm
  go_enter Try.func33, Try.ntmps33
  go_wp2_with fail
  clear hd
  have HNM := Lib.hid hnm
  clear hnm
  go_loopg [17] n (fun gk s17 wr => ∃ i : Nat, s17 = .int .i64 i ∧ i ≤ n ∧ n - i ≤ gk ∧ Hid (∀ j (h1 : j < L.length) (h2 : j < M.length), j < i → L[j] = M[j]) ∧ Hid (New w wr))
  case atStart => exact ⟨0, rfl, by omega, by omega, Lib.hid (fun j _ _ h => by omega), Lib.hid (New.refl _)⟩
  case round =>
    obtain ⟨i, rfl, hi, hgk, hall, hnr⟩ := hrel
    by_cases hlt : i < n
    · have hi1 : i < L.length := by have := HN.out.1; omega
      have hi2 : i < M.length := by have := HN.out.2; have := HNM.out; omega
      have hlm : i < m := by have := HNM.out; omega
      obtain ⟨b, off, a, e1, rfl, hc, hs⟩ := (HH.out.keep hnr.out).at i hi1
      obtain ⟨b2, off2, a2, e2, rfl, hc2, hs2⟩ := (HG.out.keep hnr.out).at i hi2
      have KE := Lib.hid (fun W (q : New wr W) => fl_equal a a2 L[i] M[i] e1 e2 (hL i hi1) (hM i hi2) W ((hs.keep q).row'.2.2.2.2) ((hs2.keep q).row'.2.2.2.2))
      obtain ⟨l1, hl1⟩ : ∃ l1, l1 = L[i].length := ⟨_, rfl⟩
      obtain ⟨l2, hl2⟩ : ∃ l2, l2 = M[i].length := ⟨_, rfl⟩
      rw [← hl1] at hc KE
      rw [← hl2] at hc2 KE
      clear hl1 hl2 hs hs2
      cases q : Fl.allEq L[i] M[i]
      · have HE : Hid (r = false) := Lib.hid (by
          rw [HR.out]
          exact eqR_at i hi1 hi2 (fun e => by rw [(Fl.allEq_iff _ _).2 e] at q; cases q))
        rw [q] at KE
        clear q
        go_wp2_with fail
        refine (KE.out _ (New.refl _)).mono ?_
        rintro e w2 ⟨rfl, n2⟩
        have nn := hnr.out.trans n2
        go_wp2_with fail
        go_ret
        exact ⟨by rw [HE.out]; rfl, nn⟩
      · have hnx : Hid (∀ j (h1 : j < L.length) (h2 : j < M.length), j < i + 1 → L[j] = M[j]) := Lib.hid (fun j h1 h2 h => by
          by_cases e : j < i
          · exact hall.out j h1 h2 e
          · obtain rfl : j = i := by omega
            exact (Fl.allEq_iff _ _).1 q)
        rw [q] at KE
        clear q
        go_wp2_with fail
        refine (KE.out _ (New.refl _)).mono ?_
        rintro e w2 ⟨rfl, n2⟩
        have nn := Lib.hid (hnr.out.trans n2)
        clear hc hc2 n2
        go_wp2_with fail
        go_roundg (n - (i + 1))
        case measure => omega
        case rel => exact ⟨i + 1, by go_num, by omega, by omega, hnx, nn⟩
    · have hnm := HNM.out
      subst hnm
      obtain rfl : i = n := by omega
      have HE : Hid (r = true) := Lib.hid (by
        rw [HR.out]
        exact eqR_all (by have := HN.out.1; have := HN.out.2; omega) (fun j h1 h2 => hall.out j h1 h2 (by have := HN.out.1; omega)))
      go_wp2_with fail
      go_ret
      exact ⟨by rw [HE.out]; rfl, hnr.out⟩

set_option maxHeartbeats 1000000 in
theorem og_same (ga gb : Option Addr) (L M : List (List Fl)) (c d : Nat) (hL : smallL L) (hM : smallL M) (w : World) (H : RowsK Fl.enc 3 w (.slice ga L.length c) L) (G : RowsK Fl.enc 3 w (.slice gb M.length d) M) :
    Calls Try.prog 25 #[.slice ga L.length c, .slice gb M.length d] w fun e w' => e = .returned (.bool (eqR L M)) ∧ New w w' := by
  have K := og_eqF ga gb L M c d hL hM w H G
  clear H G hL hM
  generalize L.length = n at *
  generalize M.length = m at *
  generalize eqR L M = r at *
  go_enter Try.func25, Try.ntmps25
  go_wp2_with fail
  refine K.mono ?_
  rintro e w2 ⟨rfl, n2⟩
  go_wp2_with fail
  go_ret
  exact ⟨rfl, n2⟩

/-- The same grids? -/
def sameG (G O : Gd) : Bool := G.x == O.x && (G.z == O.z && (G.w == O.w && (G.d == O.d && eqR G.L O.L)))

set_option maxHeartbeats 4000000 in
set_option maxRecDepth 100000 in
theorem og_Same (G O : Gd) (hG : smallL G.L) (hO : smallL O.L) (w : World) (h : G.ok w) (h2 : O.ok w) :
    Calls Try.prog 14 #[.agg #[.int .i64 G.x, .int .i64 G.z, .int .i64 G.w, .int .i64 G.d, .slice G.ga G.L.length G.gc], .agg #[.int .i64 O.x, .int .i64 O.z, .int .i64 O.w, .int .i64 O.d, .slice O.ga O.L.length O.gc]] w fun e w' => e = .returned (.bool (sameG G O)) ∧ New w w' := by
  have K := Lib.hid (fun W n => og_same G.ga O.ga G.L O.L G.gc O.gc hG hO W (RowsK.keep h (n : New w W)) (RowsK.keep h2 n))
  unfold sameG
  clear h h2 hG hO
  generalize G.L.length = n at *
  generalize O.L.length = m at *
  generalize eqR G.L O.L = r at *
  cases e0 : (G.x == O.x)
  · go_enter Try.func14, Try.ntmps14
    go_wp2_with fail
    go_ret
    exact ⟨rfl, by (repeat (first | (with_reducible exact New.refl _) | (with_reducible assumption) | ((with_reducible refine New.setB ?_ ?_ _); focus (first | omega | (simp; omega) | (simp; done))) | (with_reducible refine New.alloc ?_ _) | (with_reducible refine New.drew ?_) | (with_reducible refine New.drewN ?_ _) | (with_reducible refine New.hat ?_ _) | ((with_reducible apply New.snart); (with_reducible assumption))))⟩
  cases e1 : (G.z == O.z)
  · go_enter Try.func14, Try.ntmps14
    go_wp2_with fail
    go_ret
    exact ⟨rfl, by (repeat (first | (with_reducible exact New.refl _) | (with_reducible assumption) | ((with_reducible refine New.setB ?_ ?_ _); focus (first | omega | (simp; omega) | (simp; done))) | (with_reducible refine New.alloc ?_ _) | (with_reducible refine New.drew ?_) | (with_reducible refine New.drewN ?_ _) | (with_reducible refine New.hat ?_ _) | ((with_reducible apply New.snart); (with_reducible assumption))))⟩
  cases e2 : (G.w == O.w)
  · go_enter Try.func14, Try.ntmps14
    go_wp2_with fail
    go_ret
    exact ⟨rfl, by (repeat (first | (with_reducible exact New.refl _) | (with_reducible assumption) | ((with_reducible refine New.setB ?_ ?_ _); focus (first | omega | (simp; omega) | (simp; done))) | (with_reducible refine New.alloc ?_ _) | (with_reducible refine New.drew ?_) | (with_reducible refine New.drewN ?_ _) | (with_reducible refine New.hat ?_ _) | ((with_reducible apply New.snart); (with_reducible assumption))))⟩
  cases e3 : (G.d == O.d)
  · go_enter Try.func14, Try.ntmps14
    go_wp2_with fail
    go_ret
    exact ⟨rfl, by (repeat (first | (with_reducible exact New.refl _) | (with_reducible assumption) | ((with_reducible refine New.setB ?_ ?_ _); focus (first | omega | (simp; omega) | (simp; done))) | (with_reducible refine New.alloc ?_ _) | (with_reducible refine New.drew ?_) | (with_reducible refine New.drewN ?_ _) | (with_reducible refine New.hat ?_ _) | ((with_reducible apply New.snart); (with_reducible assumption))))⟩
  go_enter Try.func14, Try.ntmps14
  go_wp2_with fail
  refine (K.out _ (by (repeat (first | (with_reducible exact New.refl _) | (with_reducible assumption) | ((with_reducible refine New.setB ?_ ?_ _); focus (first | omega | (simp; omega) | (simp; done))) | (with_reducible refine New.alloc ?_ _) | (with_reducible refine New.drew ?_) | (with_reducible refine New.drewN ?_ _) | (with_reducible refine New.hat ?_ _) | ((with_reducible apply New.snart); (with_reducible assumption)))))).mono ?_
  rintro e w2 ⟨rfl, n2⟩
  go_wp2_with fail
  go_ret
  exact ⟨rfl, New.trans (by (repeat (first | (with_reducible exact New.refl _) | (with_reducible assumption) | ((with_reducible refine New.setB ?_ ?_ _); focus (first | omega | (simp; omega) | (simp; done))) | (with_reducible refine New.alloc ?_ _) | (with_reducible refine New.drew ?_) | (with_reducible refine New.drewN ?_ _) | (with_reducible refine New.hat ?_ _) | ((with_reducible apply New.snart); (with_reducible assumption))))) n2⟩

end Go.Proofs.Ytklopjbpfddgfaa
