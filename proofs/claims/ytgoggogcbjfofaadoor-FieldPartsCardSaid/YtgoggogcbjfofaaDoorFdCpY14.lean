import Derived.Test.YtgoggogcbjfofaaDoorOgAY14
import Derived.Test.YtgoggogcbjfofaaDoorHatS
import Derived.Deep.LoopGhost
import Derived.Test.YtgoggogcbjfofaaDoorOgIY14
import Derived.Test.YtgoggogcbjfofaaDoorLooseEY14
import Derived.Test.YtgoggogcbjfofaaDoorFdUY14
import Derived.Test.YtgoggogcbjfofaaDoorFdSY14
import Derived.Test.YtgoggogcbjfofaaDoorLkEY14

/- The library's Equal, of slices of a kind. -/
namespace Go.Proofs.YtgoggogcbjfofaaDoor
open Go.RowKit
set_option linter.unusedVariables false

def Fl.allEq : List Fl → List Fl → Bool
  | [], [] => true
  | a :: l, b :: m => a.eqB b && Fl.allEq l m
  | _, _ => false
theorem Fl.allEq_iff : ∀ l m : List Fl, Fl.allEq l m = true ↔ l = m
  | [], [] => by simp [Fl.allEq]
  | [], _ :: _ => by simp [Fl.allEq]
  | _ :: _, [] => by simp [Fl.allEq]
  | a :: l, b :: m => by simp [Fl.allEq, Fl.eqB_iff, Fl.allEq_iff l m]

set_option maxHeartbeats 4000000 in
theorem fl_neq (w : World) (a b : Fl) : (binOp .neq 58 (.agg #[.int .i64 a.y, .int .i64 a.top, .int .i64 a.area]) (.agg #[.int .i64 b.y, .int .i64 b.top, .int .i64 b.area])).run Tryd.prog w = .ok (.bool (!a.eqB b)) w := by
  obtain ⟨a0, a1, a2⟩ := a
  obtain ⟨b0, b1, b2⟩ := b
  unfold Fl.eqB
  cases h0 : (a0 == b0)
  · go_simp
  · skip
    cases h1 : (a1 == b1)
    · go_simp
    · skip
      cases h2 : (a2 == b2)
      · go_simp
      · go_simp

end Go.Proofs.YtgoggogcbjfofaaDoor

/- Package open: Same. -/
namespace Go.Proofs.YtgoggogcbjfofaaDoor
open Go.RowKit
set_option linter.unusedVariables false

/-- The same rows? -/
def eqR (L M : List (List Fl)) : Bool := decide (L = M)
theorem eqR_len {L M : List (List Fl)} (h : L.length ≠ M.length) : eqR L M = false := decide_eq_false (fun e => h (by rw [e]))
theorem eqR_at {L M : List (List Fl)} (j : Nat) (h1 : j < L.length) (h2 : j < M.length) (h : L[j] ≠ M[j]) : eqR L M = false := decide_eq_false (fun e => by subst e; exact h rfl)
theorem eqR_all {L M : List (List Fl)} (hl : L.length = M.length) (h : ∀ j (h1 : j < L.length) (h2 : j < M.length), L[j] = M[j]) : eqR L M = true := decide_eq_true (List.ext_getElem hl h)
def smallL (L : List (List Fl)) : Prop := ∀ j (h : j < L.length), L[j].length ≤ 1000

/-- The same grids? -/
def sameG (G O : Gd) : Bool := G.x == O.x && (G.z == O.z && (G.w == O.w && (G.d == O.d && eqR G.L O.L)))

end Go.Proofs.YtgoggogcbjfofaaDoor

/- Layer 12: Great. -/
namespace Go.Proofs.YtgoggogcbjfofaaDoor
open Go.RowKit
set_option linter.unusedVariables false

/-- What Great tells: where it says no, no column has many floors. -/
def ArGreated (L : List (List Fl)) (w : World) (e : Ending) (w' : World) : Prop := ∃ b, e = .returned (.bool b) ∧ (b = false → smallL L ∧ L.length ≤ 600) ∧ New w w'

set_option maxHeartbeats 4000000 in
set_option maxRecDepth 100000 in
theorem ar_great (G : Gd) (w : World) (h : G.ok w) : Calls Tryd.prog 9 #[.agg #[.int .i64 G.x, .int .i64 G.z, .int .i64 G.w, .int .i64 G.d, .slice G.ga G.L.length G.gc]] w (ArGreated G.L w) := by
  have HH : Hid (RowsK Fl.enc 3 w (.slice G.ga G.L.length G.gc) G.L) := Lib.hid h
  have hmx : G.L.length ≤ maxLen := by obtain ⟨us, h1, ⟨a, c, e, h2, h3, -⟩, -⟩ := h; omega
  unfold maxLen at hmx
  obtain ⟨n, hn⟩ : ∃ n, n = G.L.length := ⟨_, rfl⟩
  obtain ⟨ga, hga⟩ : ∃ q, q = G.ga := ⟨_, rfl⟩
  rw [← hn, ← hga] at HH
  rw [← hn] at hmx
  rw [← hn, ← hga]
  have HN := Lib.hid hn
  clear h hn hga
  go_enter Tryd.func9, Tryd.ntmps9
  go_upto_region 1 with fail
  refine Code.at (fun W0 hW => ?_)
  have n0 : Hid (New w W0) := Lib.hid (by subst hW; (repeat (first | (with_reducible exact New.refl _) | (with_reducible assumption) | ((with_reducible refine New.setB ?_ ?_ _); focus (first | omega | (simp; omega) | (simp; done))) | (with_reducible refine New.alloc ?_ _) | (with_reducible refine New.drew ?_) | (with_reducible refine New.drewN ?_ _) | (with_reducible refine New.hat ?_ _) | ((with_reducible apply New.snart); (with_reducible assumption)))))
  have g4 : W0.cell? ⟨w.heap.size, 4, none⟩ = some (.slice ga n G.gc) := by subst hW; go_simp
  clear hW
  by_cases h6 : 600 < n
  · have hd : decide (600 < n) = true := decide_eq_true h6
    have hd2 : ((n : Int) > 600) := by omega
    go_wp2_with fail
    go_ret
    exact ⟨true, rfl, (fun h => by cases h), n0.out⟩
  · have hn6 : n ≤ 600 := by omega
    have hd : decide (600 < n) = false := decide_eq_false h6
    have hd2 : ¬ ((n : Int) > 600) := by omega
    have HG := Lib.hid (fun W (q : New W0 W) => q.keep g4)
    clear h6
    go_wp2_with fail
    clear g4 hd hd2
    go_loopg [3] n (fun gk s3 wr => ∃ i : Nat, s3 = .int .i64 i ∧ i ≤ n ∧ n - i ≤ gk ∧ Hid (∀ j (h : j < G.L.length), j < i → G.L[j].length ≤ 1000) ∧ Hid (New W0 wr))
    case atStart => exact ⟨0, rfl, by omega, by omega, Lib.hid (fun j _ h => by omega), Lib.hid (New.refl _)⟩
    case round =>
      obtain ⟨i, rfl, hi, hgk, HB, hnr⟩ := hrel
      have g4 := HG.out _ hnr.out
      by_cases hlt : i < n
      · have hil : i < G.L.length := by rw [← HN.out]; exact hlt
        obtain ⟨b, off, a, c, rfl, hc, hs⟩ := (HH.out.keep (n0.out.trans hnr.out)).at i hil
        obtain ⟨m, hm⟩ : ∃ m, m = G.L[i].length := ⟨_, rfl⟩
        rw [← hm] at hc
        have HM := Lib.hid hm
        clear hm hs
        by_cases hq : 40 < m
        · have hd : decide (40 < m) = true := decide_eq_true hq
          have hd2 : ((m : Int) > 40) := by omega
          go_wp2_with fail
          go_ret
          exact ⟨true, rfl, (fun h => by cases h), n0.out.trans hnr.out⟩
        · have hd : decide (40 < m) = false := decide_eq_false hq
          have hd2 : ¬ ((m : Int) > 40) := by omega
          have hnx : Hid (∀ j (h : j < G.L.length), j < i + 1 → G.L[j].length ≤ 1000) := Lib.hid (fun j h hj => by
            by_cases e : j < i
            · exact HB.out j h e
            · obtain rfl : j = i := by omega
              have := HM.out
              omega)
          go_wp2_with fail
          go_roundg (n - (i + 1))
          case measure => omega
          case rel => exact ⟨i + 1, by go_num, by omega, by omega, hnx, hnr⟩
      · obtain rfl : i = n := by omega
        go_wp2_with fail
        go_ret
        exact ⟨false, rfl, (fun _ => ⟨fun j hj => HB.out j hj (by rw [HN.out]; exact hj), by rw [← HN.out]; exact hn6⟩), n0.out.trans hnr.out⟩

end Go.Proofs.YtgoggogcbjfofaaDoor

/- The laws FieldBuilds, FieldRows. -/
namespace Go.Proofs.YtgoggogcbjfofaaDoor
open Go.RowKit
set_option linter.unusedVariables false

set_option maxHeartbeats 16000000 in
set_option maxRecDepth 100000 in
theorem l_fieldBuilds (C : CfgR) (G : Gd) (w : World) (hG : G.ok w) (hD : Dirs w) : Calls Tryd.prog 3 #[.agg #[.int .i64 C.cl, .int .i64 C.cb, .int .i64 C.ht, .int .i64 C.ri, .int .i64 C.ru, .int .i64 C.wd, .int .i64 C.dp], .agg #[.int .i64 G.x, .int .i64 G.z, .int .i64 G.w, .int .i64 G.d, .slice G.ga G.L.length G.gc]] w fun e w' => e = .returned (.bool true) ∧ New w w' := by
  have KW := Lib.hid (fun W (q : New w W) => lw_wakes W (hD.new q))
  have KG := Lib.hid (fun W (q : New w W) => ar_great G W (hG.keep q))
  have KA := Lib.hid (fun W (q : New w W) => fd_Build C G W (hG.keep q) (hD.new q))
  have KR := Lib.hid (fun W (q : New w W) => fr_Build C G W (hG.keep q))
  have KP := Lib.hid (fun W => fd_Cap C W)
  have KQ := Lib.hid (fun W => fr_Cap C W)
  have KS : Hid (∀ va vb (L : List (List Int)) W, RowsK iE 1 W va L → RowsK iE 1 W vb L → Calls Tryd.prog 13 #[va, vb] W fun e w' => e = .returned (.bool true) ∧ New W w') := Lib.hid (fun va vb L W h1 h2 => by
    have := fr_Same va vb L L W h1 h2
    rw [decide_eq_true rfl] at this
    exact this)
  unfold ArGreated at KG
  unfold FBuilt at KA KR
  generalize lkE C G = er at *
  generalize fdT C G = R at *
  generalize capC C = cc at *
  obtain ⟨n, hn⟩ : ∃ n, n = G.L.length := ⟨_, rfl⟩
  rw [← hn] at KG KA KR ⊢
  clear hn hG hD
  have h1 : (er == er) = true := by simp
  have h2 : (cc == cc) = true := by simp
  go_enter Tryd.func3, Tryd.ntmps3
  go_upto_region 1 with fail
  refine Code.at (fun W hW => ?_)
  have n0 : New w W := by subst hW; (repeat (first | (with_reducible exact New.refl _) | (with_reducible assumption) | ((with_reducible refine New.setB ?_ ?_ _); focus (first | omega | (simp; omega) | (simp; done))) | (with_reducible refine New.alloc ?_ _) | (with_reducible refine New.drew ?_) | (with_reducible refine New.drewN ?_ _) | (with_reducible refine New.hat ?_ _) | ((with_reducible apply New.snart); (with_reducible assumption))))
  ((have c0 : W.cell? ⟨w.heap.size, 0, none⟩ = some (.int .i64 C.cl) := (by subst hW; go_simp)); (have c1 : W.cell? ⟨w.heap.size, 1, none⟩ = some (.int .i64 C.cb) := (by subst hW; go_simp)); (have c2 : W.cell? ⟨w.heap.size, 2, none⟩ = some (.int .i64 C.ht) := (by subst hW; go_simp)); (have c3 : W.cell? ⟨w.heap.size, 3, none⟩ = some (.int .i64 C.ri) := (by subst hW; go_simp)); (have c4 : W.cell? ⟨w.heap.size, 4, none⟩ = some (.int .i64 C.ru) := (by subst hW; go_simp)); (have c5 : W.cell? ⟨w.heap.size, 5, none⟩ = some (.int .i64 C.wd) := (by subst hW; go_simp)); (have c6 : W.cell? ⟨w.heap.size, 6, none⟩ = some (.int .i64 C.dp) := (by subst hW; go_simp)))
  have g0 : W.cell? ⟨w.heap.size + 1, 0, none⟩ = some (.int .i64 G.x) := by subst hW; go_simp
  have g1 : W.cell? ⟨w.heap.size + 1, 1, none⟩ = some (.int .i64 G.z) := by subst hW; go_simp
  have g2 : W.cell? ⟨w.heap.size + 1, 2, none⟩ = some (.int .i64 G.w) := by subst hW; go_simp
  have g3 : W.cell? ⟨w.heap.size + 1, 3, none⟩ = some (.int .i64 G.d) := by subst hW; go_simp
  have g4 : W.cell? ⟨w.heap.size + 1, 4, none⟩ = some (.slice G.ga n G.gc) := by subst hW; go_simp
  clear hW
  have HCG := Lib.hid (fun W2 (q : New W W2) => And.intro (q.keep c0) (And.intro (q.keep c1) (And.intro (q.keep c2) (And.intro (q.keep c3) (And.intro (q.keep c4) (And.intro (q.keep c5) (And.intro (q.keep c6) (And.intro (q.keep g0) (And.intro (q.keep g1) (And.intro (q.keep g2) (And.intro (q.keep g3) (q.keep g4))))))))))))
  have N0 := Lib.hid n0
  clear n0
  go_wp2_with fail
  refine (KG.out _ N0.out).mono ?_
  rintro e w1 ⟨bg, rfl, -, n1⟩
  have N1 := Lib.hid n1
  clear c0 c1 c2 c3 c4 c5 c6 g0 g1 g2 g3 g4
  clear n1 KG
  cases bg
  rotate_left
  · go_wp2_with fail
    refine (KW.out _ (N0.out.trans N1.out)).mono ?_
    rintro e w4 ⟨rfl, n4⟩
    go_wp2_with fail
    go_ret
    exact ⟨rfl, (N0.out.trans N1.out).trans n4⟩
  obtain ⟨c0, c1, c2, c3, c4, c5, c6, g0, g1, g2, g3, g4⟩ := HCG.out _ N1.out
  go_wp2_with fail
  refine (KA.out _ (N0.out.trans N1.out)).mono ?_
  rintro e w2 ⟨va, rfl, hra, n2⟩
  have N2 := Lib.hid (N1.out.trans n2)
  have HRA := Lib.hid hra
  clear c0 c1 c2 c3 c4 c5 c6 g0 g1 g2 g3 g4
  clear n2 N1 KA hra
  obtain ⟨c0, c1, c2, c3, c4, c5, c6, g0, g1, g2, g3, g4⟩ := HCG.out _ N2.out
  go_wp2_with fail
  refine (KR.out _ (N0.out.trans N2.out)).mono ?_
  rintro e w3 ⟨vb, rfl, hrb, n3⟩
  have N3 := Lib.hid (N2.out.trans n3)
  have HRA3 := Lib.hid (HRA.out.keep n3)
  have HRB3 := Lib.hid hrb
  clear c0 c1 c2 c3 c4 c5 c6 g0 g1 g2 g3 g4
  clear n3 N2 KR hrb HRA
  obtain ⟨c0, c1, c2, c3, c4, c5, c6, -, -, -, -, -⟩ := HCG.out _ N3.out
  go_upto_region 5 with fail
  have F1 := Lib.hid (fun (q : Hat w3) => KS.out va vb R q.w (HRA3.out.keep q.h) (HRB3.out.keep q.h))
  have F2 := Lib.hid (fun (q : Hat w3) => KP.out q.w)
  have F3 := Lib.hid (fun (q : Hat w3) => KQ.out q.w)
  have F4 := Lib.hid (fun (q : Hat w3) => KW.out q.w ((N0.out.trans N3.out).trans q.h))
  (refine wp_region_hat (by kernel_rfl) (by kernel_rfl) ?_; intro hatc hatf; (repeat (go_big_quiet_step (((first | (go_at_call 13; with_reducible exact Calls.hat (F1.out _)) | (go_at_call 14; with_reducible exact Calls.hat (F2.out _)) | (go_at_call 15; with_reducible exact Calls.hat (F3.out _)) | (go_at_call 10; with_reducible exact Calls.hat (F4.out _))))))); refine wpQuiet_nil ?_; rintro _ ⟨q, rfl⟩)
  have nn := N0.out.trans (N3.out.trans q.h)
  go_wp2_with fail
  go_ret
  exact ⟨rfl, nn⟩

theorem fitV_true {G : Gd} {L : List (List Int)} (h : FitP G L) {w w' : World} {e : Ending} (q : FitV G L w e w') : e = .returned (.bool true) ∧ New w w' := by
  obtain ⟨b, rfl, hb, hn⟩ := q
  rw [hb.2 h]
  exact ⟨rfl, hn⟩
theorem fitV_false {G : Gd} {L : List (List Int)} (h : ¬ FitP G L) {w w' : World} {e : Ending} (q : FitV G L w e w') : e = .returned (.bool false) ∧ New w w' := by
  obtain ⟨b, rfl, hb, hn⟩ := q
  have : b = false := by
    cases b
    · rfl
    · exact absurd (hb.1 rfl) h
  rw [this]
  exact ⟨rfl, hn⟩
/-- Fits, as one of two. -/
theorem fit_two (G : Gd) (L : List (List Int)) : ∃ b : Bool, ∀ w e w', FitV G L w e w' → e = .returned (.bool b) ∧ New w w' := by
  by_cases h : FitP G L
  · exact ⟨true, fun w e w' q => fitV_true h q⟩
  · exact ⟨false, fun w e w' q => fitV_false h q⟩

set_option maxHeartbeats 16000000 in
set_option maxRecDepth 100000 in
theorem l_fieldRows (G : Gd) (va vb : Value) (A B : List (List Int)) (w : World) (hG : G.ok w) (hA : RowsK iE 1 w va A) (hB : RowsK iE 1 w vb B) (hD : Dirs w) : Calls Tryd.prog 4 #[.agg #[.int .i64 G.x, .int .i64 G.z, .int .i64 G.w, .int .i64 G.d, .slice G.ga G.L.length G.gc], va, vb] w fun e w' => e = .returned (.bool true) ∧ New w w' := by
  obtain ⟨aa, ac, rfl⟩ := hA.shape
  obtain ⟨ba, bc, rfl⟩ := hB.shape
  have KW := Lib.hid (fun W (q : New w W) => lw_wakes W (hD.new q))
  have KG := Lib.hid (fun W (q : New w W) => ar_great G W (hG.keep q))
  have KGA := Lib.hid (fun W (q : New w W) => lw_great _ A W (hA.keep q))
  have KGB := Lib.hid (fun W (q : New w W) => lw_great _ B W (hB.keep q))
  have KL := Lib.hid (fun h W (q : New w W) => fd_Least _ A h W (hA.keep q))
  have KM := Lib.hid (fun W (q : New w W) => fr_Least _ A W (hA.keep q))
  have KS := Lib.hid (fun W (q : New w W) => fd_Same _ _ A B W (hA.keep q) (hB.keep q))
  have KT := Lib.hid (fun W (q : New w W) => fr_Same _ _ A B W (hA.keep q) (hB.keep q))
  obtain ⟨bf, hbf⟩ := fit_two G A
  have KF := Lib.hid (fun h W (q : New w W) => (fd_Fits G _ A h W (hG.keep q) (hA.keep q)).mono (fun e w' r => hbf W e w' r))
  have KH := Lib.hid (fun W (q : New w W) => (fr_Fits G _ A W (hG.keep q) (hA.keep q)).mono (fun e w' r => hbf W e w' r))
  unfold ArGreated at KG
  generalize decide (A = B) = sb at *
  generalize mnI A.flatten = mn at *
  generalize decide (0 < A.flatten.length) = ob at *
  obtain ⟨an, han⟩ : ∃ n, n = A.length := ⟨_, rfl⟩
  obtain ⟨bn, hbn⟩ : ∃ n, n = B.length := ⟨_, rfl⟩
  rw [← han] at KGA KL KM KS KT KF KH ⊢
  rw [← hbn] at KGB KS KT ⊢
  obtain ⟨n, hn⟩ : ∃ n, n = G.L.length := ⟨_, rfl⟩
  rw [← hn] at KG KF KH ⊢
  clear hn han hbn hG hD hA hB hbf
  have h1 : (mn == mn) = true := by simp
  have h2 : (ob == ob) = true := by simp
  have h3 : (sb == sb) = true := by simp
  have h4 : (bf == bf) = true := by simp
  go_enter Tryd.func4, Tryd.ntmps4
  go_upto_region 1 with fail
  refine Code.at (fun W hW => ?_)
  have n0 : New w W := by subst hW; (repeat (first | (with_reducible exact New.refl _) | (with_reducible assumption) | ((with_reducible refine New.setB ?_ ?_ _); focus (first | omega | (simp; omega) | (simp; done))) | (with_reducible refine New.alloc ?_ _) | (with_reducible refine New.drew ?_) | (with_reducible refine New.drewN ?_ _) | (with_reducible refine New.hat ?_ _) | ((with_reducible apply New.snart); (with_reducible assumption))))
  have g0 : W.cell? ⟨w.heap.size, 0, none⟩ = some (.int .i64 G.x) := by subst hW; go_simp
  have g1 : W.cell? ⟨w.heap.size, 1, none⟩ = some (.int .i64 G.z) := by subst hW; go_simp
  have g2 : W.cell? ⟨w.heap.size, 2, none⟩ = some (.int .i64 G.w) := by subst hW; go_simp
  have g3 : W.cell? ⟨w.heap.size, 3, none⟩ = some (.int .i64 G.d) := by subst hW; go_simp
  have g4 : W.cell? ⟨w.heap.size, 4, none⟩ = some (.slice G.ga n G.gc) := by subst hW; go_simp
  clear hW
  have HCG := Lib.hid (fun W2 (q : New W W2) => And.intro (q.keep g0) (And.intro (q.keep g1) (And.intro (q.keep g2) (And.intro (q.keep g3) (q.keep g4)))))
  have N0 := Lib.hid n0
  clear n0
  go_cut [20] (fun s20 Z => (∃ q : Bool, s20 = .bool q ∧ (q = false → smallI A)) ∧ New W Z)
  case first =>
    go_wp2_with fail
    refine (KG.out _ N0.out).mono ?_
    rintro e w1 ⟨bg, rfl, -, n1⟩
    have N1 := Lib.hid n1
    clear n1 KG g0 g1 g2 g3 g4
    cases bg
    rotate_left
    · go_wp2_with fail
      go_meet
      exact ⟨⟨true, rfl, fun q => by cases q⟩, N1.out⟩
    go_wp2_with fail
    refine (KGA.out _ (N0.out.trans N1.out)).mono ?_
    rintro e w2 ⟨bg, rfl, hsm, n2⟩
    have N2 := Lib.hid (N1.out.trans n2)
    have HSM := Lib.hid hsm
    clear n2 KGA N1 hsm
    cases bg
    rotate_left
    · go_wp2_with fail
      go_meet
      exact ⟨⟨true, rfl, fun q => by cases q⟩, N2.out⟩
    go_wp2_with fail
    refine (KGB.out _ (N0.out.trans N2.out)).mono ?_
    rintro e w3 ⟨bg, rfl, -, n3⟩
    have N3 := Lib.hid (N2.out.trans n3)
    clear n3 KGB N2
    cases bg
    · go_wp2_with fail
      go_meet
      exact ⟨⟨false, rfl, fun _ => HSM.out trivial⟩, N3.out⟩
    · go_wp2_with fail
      go_meet
      exact ⟨⟨true, rfl, fun q => by cases q⟩, N3.out⟩
  case rest =>
    obtain ⟨⟨q, rfl, hq⟩, hN⟩ := hcut
    have N3 := Lib.hid hN
    have HQ := Lib.hid hq
    clear hN hq KG KGA KGB g0 g1 g2 g3 g4
    rename World => w3
    cases q
    rotate_left
    · go_wp2_with fail
      refine (KW.out _ (N0.out.trans N3.out)).mono ?_
      rintro e w4 ⟨rfl, n4⟩
      go_wp2_with fail
      go_ret
      exact ⟨rfl, (N0.out.trans N3.out).trans n4⟩
    have hsm := HQ.out rfl
    have KL2 := Lib.hid (KL.out hsm)
    have KF2 := Lib.hid (KF.out hsm)
    clear HQ hsm KL KF
    go_wp2_with fail
    refine (KL2.out _ (N0.out.trans N3.out)).mono ?_
    rintro e w4 ⟨rfl, n4⟩
    have N4 := Lib.hid (N3.out.trans n4)
    clear n4 N3 KL2
    go_wp2_with fail
    refine (KM.out _ (N0.out.trans N4.out)).mono ?_
    rintro e w5 ⟨rfl, n5⟩
    have N5 := Lib.hid (N0.out.trans (N4.out.trans n5))
    obtain ⟨g0, g1, g2, g3, g4⟩ := HCG.out _ (N4.out.trans n5)
    clear n5 N4 KM
    go_upto_region 5 with fail
    have F1 := Lib.hid (fun (q : Hat w5) => KS.out q.w (N5.out.trans q.h))
    have F2 := Lib.hid (fun (q : Hat w5) => KT.out q.w (N5.out.trans q.h))
    have F3 := Lib.hid (fun (q : Hat w5) => KF2.out q.w (N5.out.trans q.h))
    have F4 := Lib.hid (fun (q : Hat w5) => KH.out q.w (N5.out.trans q.h))
    have F5 := Lib.hid (fun (q : Hat w5) => KW.out q.w (N5.out.trans q.h))
    (refine wp_region_hat (by kernel_rfl) (by kernel_rfl) ?_; intro hatc hatf; (repeat (go_big_quiet_step (((first | (go_at_call 19; with_reducible exact Calls.hat (F1.out _)) | (go_at_call 13; with_reducible exact Calls.hat (F2.out _)) | (go_at_call 20; with_reducible exact Calls.hat (F3.out _)) | (go_at_call 21; with_reducible exact Calls.hat (F4.out _)) | (go_at_call 10; with_reducible exact Calls.hat (F5.out _))))))); refine wpQuiet_nil ?_; rintro _ ⟨q, rfl⟩)
    have nn := N5.out.trans q.h
    go_wp2_with fail
    go_ret
    exact ⟨rfl, nn⟩

end Go.Proofs.YtgoggogcbjfofaaDoor

/- The law FieldSteps. -/
namespace Go.Proofs.YtgoggogcbjfofaaDoor
open Go.RowKit
set_option linter.unusedVariables false

theorem fit_made {C : CfgR} {G : Gd} (hC : C.err = 0) (hE : gE G = 0) : FitP G (fdL C G) := by
  have hr : ∀ i (h : i < (fdL C G).length), (fdL C G)[i] = fdC C G i := fun i h => by
    have h2 : i < G.L.length := by rw [← fdL_len C G]; exact h
    have : (fdL C G)[i]? = some (fdC C G i) := by
      unfold fdL
      rw [List.getElem?_map, List.getElem?_range h2]
      rfl
    exact (List.getElem?_eq_some_iff.1 this).2
  refine ⟨hE, fdL_len C G, fun i h => by rw [hr i h, fdC_len], fun i h x hx => ?_⟩
  rw [hr i h] at hx
  unfold fdC at hx
  obtain ⟨k, -, rfl⟩ := List.mem_map.1 hx
  exact Int.natCast_nonneg _
theorem fdL_get {C : CfgR} {G : Gd} (hC : C.err = 0) (hE : gE G = 0) {t : Sp} (ht : SpIn (fdN hC hE).M t) : ∃ (h1 : t.c < (fdL C G).length), ∃ (h2 : t.k < ((fdL C G)[t.c]).length), ((fdL C G)[t.c])[t.k] = ((clr (fdN hC hE).go (capN C) t : Nat) : Int) := by
  have e := fdL_is hC hE
  obtain ⟨h1, e1⟩ := List.getElem?_eq_some_iff.1 (clT_get (fdN hC hE) (capN C) (fdN hC hE).M.length ht.1)
  have e2 : clT (fdN hC hE) (capN C) (fdN hC hE).M.length = fdL C G := e
  simp only [e2] at h1 e1
  refine ⟨h1, ?_⟩
  rw [e1]
  obtain ⟨h2, e3⟩ := List.getElem?_eq_some_iff.1 (fcC_get (fdN hC hE) (capN C) t.c (colM (fdN hC hE).M t.c).length ht.2)
  exact ⟨h2, e3⟩

set_option maxHeartbeats 32000000 in
set_option maxRecDepth 100000 in
theorem l_fieldSteps (C : CfgR) (G : Gd) (w : World) (hG : G.ok w) (hD : Dirs w) : Calls Tryd.prog 5 #[.agg #[.int .i64 C.cl, .int .i64 C.cb, .int .i64 C.ht, .int .i64 C.ri, .int .i64 C.ru, .int .i64 C.wd, .int .i64 C.dp], .agg #[.int .i64 G.x, .int .i64 G.z, .int .i64 G.w, .int .i64 G.d, .slice G.ga G.L.length G.gc]] w fun e w' => e = .returned (.bool true) ∧ New w w' := by
  have KW := Lib.hid (fun W (q : New w W) => lw_wakes W (hD.new q))
  have KG := Lib.hid (fun W (q : New w W) => ar_great G W (hG.keep q))
  have KA := Lib.hid (fun W (q : New w W) => fd_Build C G W (hG.keep q) (hD.new q))
  have KR := Lib.hid (fun W (q : New w W) => lr_Build C G W (hG.keep q))
  have HGR : Hid (RowsK Fl.enc 3 w (.slice G.ga G.L.length G.gc) G.L) := Lib.hid hG
  unfold ArGreated at KG
  unfold FBuilt at KA
  unfold LBuilt at KR
  by_cases hle : lkE C G = 0
  rotate_left
  · have hle2 := lkE_is (C := C) (G := G)
    generalize lkE C G = er at *
    generalize fdT C G = R at *
    generalize lkT C G = LK at *
    obtain ⟨n, hn⟩ : ∃ n, n = G.L.length := ⟨_, rfl⟩
    rw [← hn] at KG KA KR ⊢
    have h1 : (er != er) = false := by simp
    have h2 : (er == 0) = false := by rw [beq_eq_false_iff_ne]; exact hle
    clear hn hG hD hle2 hle HGR
    go_enter Tryd.func5, Tryd.ntmps5
    go_upto_region 1 with fail
    refine Code.at (fun W hW => ?_)
    have n0 : New w W := by subst hW; (repeat (first | (with_reducible exact New.refl _) | (with_reducible assumption) | ((with_reducible refine New.setB ?_ ?_ _); focus (first | omega | (simp; omega) | (simp; done))) | (with_reducible refine New.alloc ?_ _) | (with_reducible refine New.drew ?_) | (with_reducible refine New.drewN ?_ _) | (with_reducible refine New.hat ?_ _) | ((with_reducible apply New.snart); (with_reducible assumption))))
    ((have c0 : W.cell? ⟨w.heap.size, 0, none⟩ = some (.int .i64 C.cl) := (by subst hW; go_simp)); (have c1 : W.cell? ⟨w.heap.size, 1, none⟩ = some (.int .i64 C.cb) := (by subst hW; go_simp)); (have c2 : W.cell? ⟨w.heap.size, 2, none⟩ = some (.int .i64 C.ht) := (by subst hW; go_simp)); (have c3 : W.cell? ⟨w.heap.size, 3, none⟩ = some (.int .i64 C.ri) := (by subst hW; go_simp)); (have c4 : W.cell? ⟨w.heap.size, 4, none⟩ = some (.int .i64 C.ru) := (by subst hW; go_simp)); (have c5 : W.cell? ⟨w.heap.size, 5, none⟩ = some (.int .i64 C.wd) := (by subst hW; go_simp)); (have c6 : W.cell? ⟨w.heap.size, 6, none⟩ = some (.int .i64 C.dp) := (by subst hW; go_simp)))
    have g0 : W.cell? ⟨w.heap.size + 1, 0, none⟩ = some (.int .i64 G.x) := by subst hW; go_simp
    have g1 : W.cell? ⟨w.heap.size + 1, 1, none⟩ = some (.int .i64 G.z) := by subst hW; go_simp
    have g2 : W.cell? ⟨w.heap.size + 1, 2, none⟩ = some (.int .i64 G.w) := by subst hW; go_simp
    have g3 : W.cell? ⟨w.heap.size + 1, 3, none⟩ = some (.int .i64 G.d) := by subst hW; go_simp
    have g4 : W.cell? ⟨w.heap.size + 1, 4, none⟩ = some (.slice G.ga n G.gc) := by subst hW; go_simp
    clear hW
    have HCG := Lib.hid (fun W2 (q : New W W2) => And.intro (q.keep c0) (And.intro (q.keep c1) (And.intro (q.keep c2) (And.intro (q.keep c3) (And.intro (q.keep c4) (And.intro (q.keep c5) (And.intro (q.keep c6) (And.intro (q.keep g0) (And.intro (q.keep g1) (And.intro (q.keep g2) (And.intro (q.keep g3) (q.keep g4))))))))))))
    have N0 := Lib.hid n0
    clear n0
    go_wp2_with fail
    refine (KG.out _ N0.out).mono ?_
    rintro e w1 ⟨bg, rfl, -, n1⟩
    have N1 := Lib.hid n1
    clear c0 c1 c2 c3 c4 c5 c6 g0 g1 g2 g3 g4
    clear n1 KG
    cases bg
    rotate_left
    · go_wp2_with fail
      refine (KW.out _ (N0.out.trans N1.out)).mono ?_
      rintro e w4 ⟨rfl, n4⟩
      go_wp2_with fail
      go_ret
      exact ⟨rfl, (N0.out.trans N1.out).trans n4⟩
    obtain ⟨c0, c1, c2, c3, c4, c5, c6, g0, g1, g2, g3, g4⟩ := HCG.out _ N1.out
    go_wp2_with fail
    refine (KA.out _ (N0.out.trans N1.out)).mono ?_
    rintro e w2 ⟨va, rfl, -, n2⟩
    have N2 := Lib.hid (N1.out.trans n2)
    clear c0 c1 c2 c3 c4 c5 c6 g0 g1 g2 g3 g4
    clear n2 N1 KA
    obtain ⟨c0, c1, c2, c3, c4, c5, c6, g0, g1, g2, g3, g4⟩ := HCG.out _ N2.out
    go_wp2_with fail
    refine (KR.out _ (N0.out.trans N2.out)).mono ?_
    rintro e w3 ⟨vb, rfl, -, n3⟩
    have N3 := Lib.hid (N2.out.trans n3)
    clear c0 c1 c2 c3 c4 c5 c6 g0 g1 g2 g3 g4
    clear n3 N2 KR
    obtain ⟨-, -, -, -, -, -, -, -, -, -, -, g4⟩ := HCG.out _ N3.out
    go_wp2_with fail
    refine wp_loop_rounds 1 ?_
    rw [rounds_succ]
    go_wp2_with fail
    all_goals
      refine (KW.out _ (N0.out.trans N3.out)).mono ?_
      rintro e w4 ⟨rfl, n4⟩
      go_wp2_with fail
      go_ret
      exact ⟨rfl, (N0.out.trans N3.out).trans n4⟩
  obtain ⟨hC, hE⟩ := lkE_is.1 hle
  obtain ⟨p1, p2, p3, p4⟩ := capN_is hC
  have hb := placeB_iff.1 (gd_is hE).1
  have KFI := Lib.hid (fun va W (q : New w W) (h : RowsK iE 1 W va (fdL C G)) => (fr_Fits G va (fdL C G) W (hG.keep q) h).mono (fun e w' r => fitV_true (fit_made hC hE) r))
  have KP : Hid (∀ W, Calls Tryd.prog 14 #[.agg #[.int .i64 C.cl, .int .i64 C.cb, .int .i64 C.ht, .int .i64 C.ri, .int .i64 C.ru, .int .i64 C.wd, .int .i64 C.dp]] W fun e w' => e = .returned (.int .i64 ((capN C : Nat) : Int)) ∧ New W w') := Lib.hid (fun W => by have := fd_Cap C W; rw [p4] at this; exact this)
  rw [hle, show fdT C G = fdL C G from by unfold fdT; rw [if_pos hle]] at KA
  rw [hle, show lkT C G = lkL C G from by unfold lkT; rw [if_pos hle]] at KR
  have HGET := Lib.hid (fun t ht => fdL_get hC hE (t := t) ht)
  obtain ⟨N, hN⟩ : ∃ N, N = fdN hC hE := ⟨_, rfl⟩
  have hNM : N.M = lkL C G := by rw [hN]; rfl
  have hNW : G.w = ((N.W : Nat) : Int) := by
    have : N.W = G.w.toNat := by rw [hN]; rfl
    omega
  have hNC : Hid (∀ c, (colM N.M c).length = (gcol G c).length) := Lib.hid (fun c => by rw [hNM]; exact colM_lk c)
  have hgn2 : N.M.length = G.L.length := by rw [hNM, lkL_len]
  rw [← hN] at HGET
  rw [← hNM] at KR
  have KE := Lib.hid (fun la lc s hs w0 W q hr => fr_Eight N G hNW la lc s hs w0 W q hr)
  unfold EightV at KE
  have HLEN := Lib.hid N.len
  have HCOL := Lib.hid N.col
  have HSM := Lib.hid (fun s (q : SpIn N.M s) => N.small q)
  have HSY := Lib.hid (fun s (q : SpIn N.M s) t ht => (N.sym s q t ht).1)
  have HPOS : Hid (∀ s, 0 < clr N.go (capN C) s ↔ fulP N.go s = true) := Lib.hid (fun s => clr_pos p2 s)
  have HCLE : Hid (∀ s, clr N.go (capN C) s ≤ capN C) := Lib.hid (fun s => clr_le _ s)
  have HNE1 : Hid (∀ s, SpIn N.M s → ∀ t ∈ arP N.go s, clr N.go (capN C) s ≤ clr N.go (capN C) t + 1 ∧ clr N.go (capN C) t ≤ clr N.go (capN C) s + 1) := Lib.hid (fun s hs t ht => ⟨near_one N.sym hs ht, near_two N.sym hs ht⟩)
  have HAL := Lib.hid (fun s => arP_len (go := N.go) s)
  generalize capN C = m at *
  rw [hgn2] at KE HLEN
  have HGM : Hid (G.L.length = N.M.length) := Lib.hid hgn2.symm
  obtain ⟨n, hn⟩ : ∃ n, n = G.L.length := ⟨_, rfl⟩
  have HN := Lib.hid hn
  rw [← hn] at KG KA KR KFI KE HGR HLEN HGM ⊢
  obtain ⟨ga, hga⟩ : ∃ q, q = G.ga := ⟨_, rfl⟩
  rw [← hga] at KG KA KR KFI KE HGR ⊢
  have HRL : Hid ((fdL C G).length = n) := Lib.hid (by rw [fdL_len, hn])
  clear hn hga hgn2 hNM hNW hN hG hD p1 p2 p4 hb hle hC hE
  generalize fdL C G = R at *
  generalize clr N.go m = cl at *
  have hm6 : m ≤ 6 := p3
  go_enter Tryd.func5, Tryd.ntmps5
  go_upto_region 1 with fail
  refine Code.at (fun W hW => ?_)
  have n0 : New w W := by subst hW; (repeat (first | (with_reducible exact New.refl _) | (with_reducible assumption) | ((with_reducible refine New.setB ?_ ?_ _); focus (first | omega | (simp; omega) | (simp; done))) | (with_reducible refine New.alloc ?_ _) | (with_reducible refine New.drew ?_) | (with_reducible refine New.drewN ?_ _) | (with_reducible refine New.hat ?_ _) | ((with_reducible apply New.snart); (with_reducible assumption))))
  ((have c0 : W.cell? ⟨w.heap.size, 0, none⟩ = some (.int .i64 C.cl) := (by subst hW; go_simp)); (have c1 : W.cell? ⟨w.heap.size, 1, none⟩ = some (.int .i64 C.cb) := (by subst hW; go_simp)); (have c2 : W.cell? ⟨w.heap.size, 2, none⟩ = some (.int .i64 C.ht) := (by subst hW; go_simp)); (have c3 : W.cell? ⟨w.heap.size, 3, none⟩ = some (.int .i64 C.ri) := (by subst hW; go_simp)); (have c4 : W.cell? ⟨w.heap.size, 4, none⟩ = some (.int .i64 C.ru) := (by subst hW; go_simp)); (have c5 : W.cell? ⟨w.heap.size, 5, none⟩ = some (.int .i64 C.wd) := (by subst hW; go_simp)); (have c6 : W.cell? ⟨w.heap.size, 6, none⟩ = some (.int .i64 C.dp) := (by subst hW; go_simp)))
  have g0 : W.cell? ⟨w.heap.size + 1, 0, none⟩ = some (.int .i64 G.x) := by subst hW; go_simp
  have g1 : W.cell? ⟨w.heap.size + 1, 1, none⟩ = some (.int .i64 G.z) := by subst hW; go_simp
  have g2 : W.cell? ⟨w.heap.size + 1, 2, none⟩ = some (.int .i64 G.w) := by subst hW; go_simp
  have g3 : W.cell? ⟨w.heap.size + 1, 3, none⟩ = some (.int .i64 G.d) := by subst hW; go_simp
  have g4 : W.cell? ⟨w.heap.size + 1, 4, none⟩ = some (.slice ga n G.gc) := by subst hW; go_simp
  clear hW
  have HCG := Lib.hid (fun W2 (q : New W W2) => And.intro (q.keep c0) (And.intro (q.keep c1) (And.intro (q.keep c2) (And.intro (q.keep c3) (And.intro (q.keep c4) (And.intro (q.keep c5) (And.intro (q.keep c6) (And.intro (q.keep g0) (And.intro (q.keep g1) (And.intro (q.keep g2) (And.intro (q.keep g3) (q.keep g4))))))))))))
  have N0 := Lib.hid n0
  clear n0
  go_wp2_with fail
  refine (KG.out _ N0.out).mono ?_
  rintro e w1 ⟨bg, rfl, -, n1⟩
  have N1 := Lib.hid n1
  clear c0 c1 c2 c3 c4 c5 c6 g0 g1 g2 g3 g4
  clear n1 KG
  cases bg
  rotate_left
  · go_wp2_with fail
    refine (KW.out _ (N0.out.trans N1.out)).mono ?_
    rintro e w4 ⟨rfl, n4⟩
    go_wp2_with fail
    go_ret
    exact ⟨rfl, (N0.out.trans N1.out).trans n4⟩
  obtain ⟨c0, c1, c2, c3, c4, c5, c6, g0, g1, g2, g3, g4⟩ := HCG.out _ N1.out
  go_wp2_with fail
  refine (KA.out _ (N0.out.trans N1.out)).mono ?_
  rintro e w2 ⟨va, rfl, hra, n2⟩
  have N2 := Lib.hid (N1.out.trans n2)
  have HRA := Lib.hid hra
  clear c0 c1 c2 c3 c4 c5 c6 g0 g1 g2 g3 g4
  clear n2 N1 KA hra
  obtain ⟨c0, c1, c2, c3, c4, c5, c6, g0, g1, g2, g3, g4⟩ := HCG.out _ N2.out
  go_wp2_with fail
  refine (KR.out _ (N0.out.trans N2.out)).mono ?_
  rintro e w3 ⟨vb, rfl, hrb, n3⟩
  have N3 := Lib.hid (N2.out.trans n3)
  have HRA3 := Lib.hid (HRA.out.keep n3)
  obtain ⟨la, lc, rfl⟩ := hrb.shape
  rw [← HGM.out] at hrb ⊢
  have HLK := Lib.hid hrb
  clear c0 c1 c2 c3 c4 c5 c6 g0 g1 g2 g3 g4
  clear n3 N2 KR hrb HRA
  obtain ⟨-, -, -, -, -, -, -, g0, g1, g2, g3, g4⟩ := HCG.out _ N3.out
  go_wp2_with fail
  refine (KFI.out va _ (N0.out.trans N3.out) HRA3.out).mono ?_
  rintro e w4 ⟨rfl, n4⟩
  have N4 := Lib.hid (N3.out.trans n4)
  have HRA4 := Lib.hid (HRA3.out.keep n4)
  have HLK4 := Lib.hid (HLK.out.keep n4)
  obtain ⟨ra, rc, rfl⟩ := HRA4.out.shape
  rw [HRL.out] at HRA4 ⊢
  have hnl := HLEN.out
  clear n4 N3 KFI HRA3 HLK g0 g1 g2 g3 g4
  go_wp2_with fail
  go_loopg [9] n (fun gk s9 wr => ∃ i : Nat, s9 = .int .i64 i ∧ i ≤ n ∧ n - i ≤ gk ∧ Hid (New w4 wr))
  case atStart => exact ⟨0, rfl, by omega, by omega, Lib.hid (New.refl _)⟩
  case round =>
    obtain ⟨i, rfl, hi, hgk, hnr⟩ := hrel
    obtain ⟨-, -, -, -, -, -, -, -, -, -, -, g4⟩ := HCG.out _ (N4.out.trans hnr.out)
    by_cases hlt : i < n
    rotate_left
    · obtain rfl : i = n := by omega
      go_wp2_with fail
      refine (KW.out _ (N0.out.trans (N4.out.trans hnr.out))).mono ?_
      rintro e w5 ⟨rfl, n5⟩
      have nn := (N0.out.trans (N4.out.trans hnr.out)).trans n5
      go_wp2_with fail
      go_ret
      exact ⟨rfl, nn⟩
    have hgl : i < G.L.length := by rw [← HN.out]; exact hlt
    have hgc := gcol_at hgl
    have hc8 := HCOL.out i
    have hNCi := hNC.out i
    have HKIN : Hid (∀ k, k < (colM N.M i).length → SpIn N.M ⟨i, k⟩) := Lib.hid (fun k hk => ⟨by rw [← HGM.out]; exact hlt, hk⟩)
    obtain ⟨k0, hk0⟩ : ∃ q, q = (colM N.M i).length := ⟨_, rfl⟩
    rw [← hk0] at hc8 hNCi HKIN
    have HGK := Lib.hid hgk
    have HGC : Hid (∀ W, New w4 W → ∃ b off a c, ga = some ⟨b, off, none⟩ ∧ W.cell? ⟨b, off + i, none⟩ = some (.slice a k0 c)) := Lib.hid (fun W q => by
      obtain ⟨b, off, a, c, e1, e2, -⟩ := (HGR.out.keep (N0.out.trans (N4.out.trans q))).at i hgl
      rw [← hgc, ← hNCi] at e2
      exact ⟨b, off, a, c, e1, e2⟩)
    clear hgl hgc hk0 hNCi hgk
    rename World => Wi
    go_wp2_with fail
    clear g4
    go_loopg [10] k0 (fun gk s10 wr => ∃ k : Nat, s10 = .int .i64 k ∧ k ≤ k0 ∧ k0 - k ≤ gk ∧ Hid (New w4 wr))
    case atStart => exact ⟨0, rfl, by omega, by omega, hnr⟩
    case round =>
      obtain ⟨k, rfl, hk, hgk, hnk⟩ := hrel
      obtain ⟨c0, c1, c2, c3, c4, c5, c6, g0, g1, g2, g3, g4⟩ := HCG.out _ (N4.out.trans hnk.out)
      obtain ⟨b, off, a, c, hgaq, hc⟩ := HGC.out _ hnk.out
      by_cases hkt : k < k0
      rotate_left
      · obtain rfl : k = k0 := by omega
        subst hgaq
        have hgk := HGK.out
        go_wp2_with fail
        go_roundg (n - (i + 1))
        case measure => omega
        case rel => exact ⟨i + 1, by go_num, by omega, by omega, hnk⟩
      have hin := HKIN.out k hkt
      have KEi := Lib.hid (fun W q => KE.out la lc ⟨i, k⟩ hin w4 W q HLK4.out)
      have HP1 := Lib.hid (HPOS.out ⟨i, k⟩)
      have HP2 := Lib.hid (HCLE.out ⟨i, k⟩)
      have HP3 := Lib.hid (HNE1.out ⟨i, k⟩ hin)
      have HP4 := Lib.hid (HSY.out ⟨i, k⟩ hin)
      have HP5 := Lib.hid (HGET.out ⟨i, k⟩ hin)
      have hal := HAL.out ⟨i, k⟩
      obtain ⟨fb, hfb⟩ : ∃ q, q = fulP N.go ⟨i, k⟩ := ⟨_, rfl⟩
      obtain ⟨ar, har⟩ : ∃ q, q = arP N.go ⟨i, k⟩ := ⟨_, rfl⟩
      rw [← hfb, ← har] at KEi
      rw [← hfb] at HP1
      rw [← har] at HP3 HP4 hal
      obtain ⟨x, hx⟩ : ∃ q, q = cl ⟨i, k⟩ := ⟨_, rfl⟩
      rw [← hx] at HP1 HP2 HP3 HP5
      have HGK2 := Lib.hid hgk
      clear hfb har hin hx hgk
      subst hgaq
      go_wp2_with fail
      refine (KEi.out _ hnk.out).mono ?_
      rintro e w5 ⟨ev, rfl, hsl5, n5⟩
      have N5 := Lib.hid (hnk.out.trans n5)
      obtain ⟨h1, h2, h3⟩ := HP5.out
      obtain ⟨b6, o6, a6, c6', e6, hc6, hs6⟩ := (HRA4.out.keep N5.out).at i h1
      subst e6
      obtain ⟨a7, c7, e7, -, -, hrow7⟩ := sl_at hs6
      injection e7 with e7a e7b e7c
      subst e7a
      obtain ⟨b8, o8, e8, hx8⟩ := hrow7 k h2
      subst e8
      have h3' : (R[i])[k] = ((x : Nat) : Int) := h3
      rw [h3'] at hx8
      obtain ⟨r6, hr6⟩ : ∃ r, r = (R[i]).length := ⟨_, rfl⟩
      have h2' : k < r6 := by rw [hr6]; exact h2
      rw [← hr6] at hc6
      clear c0 c1 c2 c3 c4 c5 c6 g0 g1 g2 g3 g4
      obtain ⟨c0, c1, c2, c3, c4, c5, c6, -, -, -, -, -⟩ := HCG.out _ (N4.out.trans N5.out)
      clear n5 KEi hc hs6 hrow7 h3 h3' h1 h2 hr6 e7b e7c HP5
      have F1 := Lib.hid (fun (q : Hat w5) => KP.out q.w)
      have hxm : x ≤ m := HP2.out
      have hd1 : decide ((m : Int) < (x : Int)) = false := decide_eq_false (by omega)
      have hd2 : decide (m < x) = false := decide_eq_false (by omega)
      have hfx : Hid (decide (0 < x) = fb) := Lib.hid (by
        cases e : fb
        · exact decide_eq_false (fun h => by rw [HP1.out.1 h] at e; cases e)
        · exact decide_eq_true (HP1.out.2 e))
      obtain ⟨lst, hlst⟩ : ∃ q, q = (if fb = true then ar else []) := ⟨_, rfl⟩
      rw [← hlst] at hsl5
      have hln8 : lst.length ≤ 8 := by rw [hlst]; split; exact hal; simp
      have HIN : Hid (∀ t ∈ lst, SpIn N.M t ∧ x ≤ cl t + 1 ∧ cl t ≤ x + 1) := Lib.hid (fun t ht => by
        rw [hlst] at ht
        by_cases q : fb = true
        · rw [if_pos q] at ht; exact ⟨HP4.out t ht, HP3.out t ht⟩
        · rw [if_neg q] at ht; cases ht)
      obtain ⟨ea, ec, rfl, -, -, -, hrow5⟩ := hsl5
      have HR5 := Lib.hid hrow5
      obtain ⟨ln, hln⟩ : ∃ q, q = lst.length := ⟨_, rfl⟩
      rw [← hln] at hln8 ⊢
      have HLN := Lib.hid hln
      have HX8 := Lib.hid (fun W (q : New w5 W) => And.intro (q.keep hc6) (q.keep hx8))
      clear hlst hln hrow5 HP1 HP2 HP3 HP4 hal ar
      go_upto_region 14 with fail
      have hd3 : decide ((0 : Int) < (x : Int)) = fb := by
        rw [← hfx.out]
        by_cases q : 0 < x
        · rw [decide_eq_true q, decide_eq_true (by omega)]
        · rw [decide_eq_false q, decide_eq_false (by omega)]
      have hd4 := hfx.out
      have hne : (fb != fb) = false := by simp
      (refine wp_region_hat (by kernel_rfl) (by kernel_rfl) ?_; intro hatc hatf; (repeat (go_big_quiet_step (((go_at_call 14; with_reducible exact Calls.hat (F1.out _)))))); refine wpQuiet_nil ?_; rintro _ ⟨q, rfl⟩)
      have HN6 := Lib.hid q.h
      clear hatc hatf hd1 hd2 hd3 hd4 hne F1 hc6 hx8 c0 c1 c2 c3 c4 c5 c6
      generalize q.w = w6 at *
      clear q
      go_wp2_with fail
      go_loopg [13] ln (fun gk s13 wr => ∃ q : Nat, s13 = .int .i64 q ∧ q ≤ ln ∧ ln - q ≤ gk ∧ Hid (New w5 wr))
      case atStart => exact ⟨0, rfl, by omega, by omega, HN6⟩
      case round =>
        obtain ⟨q, rfl, hq, hgk, hnq⟩ := hrel
        by_cases hqt : q < ln
        rotate_left
        · obtain rfl : q = ln := by omega
          have hgk := HGK2.out
          go_wp2_with fail
          go_roundg (k0 - (k + 1))
          case measure => omega
          case rel => exact ⟨k + 1, by go_num, by omega, by omega, Lib.hid (N5.out.trans hnq.out)⟩
        have hql : q < lst.length := by rw [← HLN.out]; exact hqt
        obtain ⟨b5, o5, rfl, hA5⟩ := HR5.out (by omega)
        obtain ⟨e0, e1⟩ := Sp.cells (w := wr) (b := b5) (off := o5) (l := lst) (fun j hj i hi => hnq.out.keep (hA5 j hj i hi)) q hql
        obtain ⟨hTin, hT1, hT2⟩ := HIN.out lst[q] (List.getElem_mem hql)
        obtain ⟨h1, h2, h3⟩ := HGET.out lst[q] hTin
        obtain ⟨hc1, hc2⟩ := HSM.out lst[q] hTin
        have hyle := HCLE.out lst[q]
        obtain ⟨b9, o9, a9, c9, e9, hc9, hs9⟩ := (HRA4.out.keep (N5.out.trans hnq.out)).at lst[q].c h1
        injection e9 with e9
        injection e9 with e9a e9b
        subst e9a
        subst e9b
        obtain ⟨a10, c10, e10, -, -, hrow10⟩ := sl_at hs9
        injection e10 with e10a e10b e10c
        subst e10a
        obtain ⟨b11, o11, e11, hx11⟩ := hrow10 lst[q].k h2
        subst e11
        rw [h3] at hx11
        obtain ⟨r9, hr9⟩ : ∃ r, r = (R[lst[q].c]).length := ⟨_, rfl⟩
        rw [← hr9] at hc9 h2
        rw [HRL.out] at h1
        clear hs9 hrow10 h3 hr9 hTin e10b e10c
        generalize lst[q] = T at *
        obtain ⟨y, hy⟩ : ∃ y, y = cl T := ⟨_, rfl⟩
        rw [← hy] at hx11 hT1 hT2 hyle
        clear hy
        go_upto_region 19 with fail
        (refine wp_region_hat (by kernel_rfl) (by kernel_rfl) ?_; intro hatc hatf; (repeat (go_big_quiet_step ((fail)))); refine wpQuiet_nil ?_; rintro _ ⟨qq, rfl⟩)
        have HNQ := Lib.hid (hnq.out.trans qq.h)
        clear hatc hatf e0 e1 hc9 hx11
        generalize qq.w = w9 at *
        clear qq
        obtain ⟨hc6, hx8⟩ := HX8.out _ HNQ.out
        have hw1 : IntKind.i64.wrap ((x : Int) - 1) = x - 1 := IntWalk.i64_in _ (by omega)
        have hw2 : IntKind.i64.wrap ((x : Int) + 1) = x + 1 := IntWalk.i64_in _ (by omega)
        have hd1 : decide ((y : Int) < (x : Int) - 1) = false := decide_eq_false (by omega)
        have hd2 : decide ((x : Int) + 1 < (y : Int)) = false := decide_eq_false (by omega)
        have hd3 : decide (x + 1 < y) = false := decide_eq_false (by omega)
        go_wp2_with fail
        go_roundg (ln - (q + 1))
        case measure => omega
        case rel => exact ⟨q + 1, by go_num, by omega, by omega, HNQ⟩

end Go.Proofs.YtgoggogcbjfofaaDoor

/- The law FieldCap. -/
namespace Go.Proofs.YtgoggogcbjfofaaDoor
open Go.RowKit
set_option linter.unusedVariables false

/-- The same links, whatever Clear is. -/
theorem lkB_cl (C : CfgR) (k : Int) (a b : Fl) : lkB ⟨k, C.cb, C.ht, C.ri, C.ru, C.wd, C.dp⟩ a b = lkB C a b := rfl
theorem toS_cl (C : CfgR) (k : Int) (G : Gd) : toS ⟨k, C.cb, C.ht, C.ri, C.ru, C.wd, C.dp⟩ G = toS C G := rfl
theorem err_cl {C : CfgR} (h : C.err = 0) {k : Int} (h1 : 0 ≤ k) (h2 : k ≤ 3) : (⟨k, C.cb, C.ht, C.ri, C.ru, C.wd, C.dp⟩ : CfgR).err = 0 := by
  unfold CfgR.err checkE checkB at h ⊢
  split at h
  · rename_i h3
    rw [if_pos]
    simp only [Bool.and_eq_true, decide_eq_true_eq] at h3 ⊢
    omega
  · cases h
/-- Rows that are the same up to a number. -/
def CapP (A B : List (List Int)) (lst : Int) : Prop := A.length = B.length ∧ ∀ i (h1 : i < A.length) (h2 : i < B.length), A[i].length = B[i].length ∧ ∀ k (q1 : k < A[i].length) (q2 : k < B[i].length), min A[i][k] lst = min B[i][k] lst
theorem fdT_get {C : CfgR} {G : Gd} (h : lkE C G = 0) : fdT C G = fdL C G := by unfold fdT; rw [if_pos h]
theorem fdL_row (C : CfgR) (G : Gd) {i : Nat} (h : i < (fdL C G).length) : (fdL C G)[i] = fdC C G i := by
  have h2 : i < G.L.length := by rw [← fdL_len C G]; exact h
  have : (fdL C G)[i]? = some (fdC C G i) := by
    unfold fdL
    rw [List.getElem?_map, List.getElem?_range h2]
    rfl
  exact (List.getElem?_eq_some_iff.1 this).2
theorem fdC_at (C : CfgR) (G : Gd) (i : Nat) {k : Nat} (h : k < (fdC C G i).length) : (fdC C G i)[k] = ((clr (toS C G) (capN C) (sdI G i k) : Nat) : Int) := by
  have h2 : k < (gcol G i).length := by rw [← fdC_len C G i]; exact h
  have : (fdC C G i)[k]? = some ((clr (toS C G) (capN C) (sdI G i k) : Nat) : Int) := by
    unfold fdC
    rw [List.getElem?_map, List.getElem?_range h2]
    rfl
  exact (List.getElem?_eq_some_iff.1 this).2
theorem cap_rows {C : CfgR} (G : Gd) (hC : C.err = 0) {k : Int} (h1 : 0 ≤ k) (h2 : k ≤ 3) : CapP (fdT C G) (fdT ⟨k, C.cb, C.ht, C.ri, C.ru, C.wd, C.dp⟩ G) (min (capC C) (capC ⟨k, C.cb, C.ht, C.ri, C.ru, C.wd, C.dp⟩)) := by
  have hD := err_cl hC h1 h2
  have hle : lkE ⟨k, C.cb, C.ht, C.ri, C.ru, C.wd, C.dp⟩ G = lkE C G := by unfold lkE; rw [if_pos hC, if_pos hD]
  by_cases hE : lkE C G = 0
  · rw [fdT_get hE, fdT_get (hle.trans hE)]
    refine ⟨by rw [fdL_len, fdL_len], fun i q1 q2 => ?_⟩
    simp only [fdL_row]
    refine ⟨by rw [fdC_len, fdC_len], fun j r1 r2 => ?_⟩
    rw [fdC_at, fdC_at, toS_cl C k G, (capN_is hC).2.2.2, (capN_is hD).2.2.2]
    have a := clr_min (go := toS C G) (k := min (capN C) (capN ⟨k, C.cb, C.ht, C.ri, C.ru, C.wd, C.dp⟩)) (m := capN C) (by omega) (sdI G i j)
    have b := clr_min (go := toS C G) (k := min (capN C) (capN ⟨k, C.cb, C.ht, C.ri, C.ru, C.wd, C.dp⟩)) (m := capN ⟨k, C.cb, C.ht, C.ri, C.ru, C.wd, C.dp⟩) (by omega) (sdI G i j)
    omega
  · have e1 : fdT C G = [] := by unfold fdT; rw [if_neg hE]
    have e2 : fdT ⟨k, C.cb, C.ht, C.ri, C.ru, C.wd, C.dp⟩ G = [] := by unfold fdT; rw [if_neg (by rw [hle]; exact hE)]
    rw [e1, e2]
    exact ⟨rfl, fun i q => absurd q (by simp)⟩
theorem cap_linked {C : CfgR} (hC : C.err = 0) : lkF C ⟨0, 9, 1⟩ ⟨0, 9, 1⟩ = decide (C.ht ≤ 9) := by
  rw [lkF_fine hC, Bool.eq_iff_iff, lkB_iff, decide_eq_true_eq]
  have := fine_step hC
  simp only
  omega

set_option maxHeartbeats 32000000 in
set_option maxRecDepth 100000 in
theorem l_fieldCap (C : CfgR) (G : Gd) (cl : Int) (w : World) (hG : G.ok w) (hD : Dirs w) : Calls Tryd.prog 7 #[.agg #[.int .i64 C.cl, .int .i64 C.cb, .int .i64 C.ht, .int .i64 C.ri, .int .i64 C.ru, .int .i64 C.wd, .int .i64 C.dp], .agg #[.int .i64 G.x, .int .i64 G.z, .int .i64 G.w, .int .i64 G.d, .slice G.ga G.L.length G.gc], .int .i64 cl] w fun e w' => e = .returned (.bool true) ∧ New w w' := by
  have KW := Lib.hid (fun W (q : New w W) => lw_wakes W (hD.new q))
  have KG := Lib.hid (fun W (q : New w W) => ar_great G W (hG.keep q))
  have KC : Hid (∀ W, Calls Tryd.prog 25 #[.agg #[.int .i64 C.cl, .int .i64 C.cb, .int .i64 C.ht, .int .i64 C.ri, .int .i64 C.ru, .int .i64 C.wd, .int .i64 C.dp]] W fun e w' => e = .returned (.int .i64 C.err) ∧ New W w') := Lib.hid (fun W => (rcheck_any C.cl C.cb C.ht C.ri C.ru C.wd C.dp W).mono fun e w' h => ⟨h.1, h.2.1⟩)
  have h1 := err_or C
  have KA := Lib.hid (fun W (q : New w W) => fd_Build C G W (hG.keep q) (hD.new q))
  have KP := Lib.hid (fun W => fd_Cap C W)
  obtain ⟨r, hr⟩ : ∃ r, r = Int.tmod cl 4 := ⟨_, rfl⟩
  have hr4 : -4 < r ∧ r < 4 := by
    have a := Int.tmod_lt_of_pos cl (show (0:Int) < 4 by omega)
    have b := Int.tmod_lt_of_pos (-cl) (show (0:Int) < 4 by omega)
    rw [Int.neg_tmod] at b
    rw [hr]
    omega
  obtain ⟨k, hk⟩ : ∃ k, k = Int.tmod (r + 4) 4 := ⟨_, rfl⟩
  have hk3 : 0 ≤ k ∧ k ≤ 3 := by
    rw [hk]
    have a := Int.tmod_lt_of_pos (r + 4) (show (0:Int) < 4 by omega)
    have b := Int.tmod_nonneg (4 : Int) (show (0:Int) ≤ r + 4 by omega)
    omega
  have HD := Lib.hid hD
  have HB2 : Hid (C.err = 0 → ∀ W, New w W → Calls Tryd.prog 11 #[.agg #[.int .i64 k, .int .i64 C.cb, .int .i64 C.ht, .int .i64 C.ri, .int .i64 C.ru, .int .i64 C.wd, .int .i64 C.dp], .agg #[.int .i64 G.x, .int .i64 G.z, .int .i64 G.w, .int .i64 G.d, .slice G.ga G.L.length G.gc]] W (FBuilt (lkE C G) (fdT ⟨k, C.cb, C.ht, C.ri, C.ru, C.wd, C.dp⟩ G) W)) := Lib.hid (fun q W n => by
    have := fd_Build ⟨k, C.cb, C.ht, C.ri, C.ru, C.wd, C.dp⟩ G W (hG.keep n) (HD.out.new n)
    have e : lkE ⟨k, C.cb, C.ht, C.ri, C.ru, C.wd, C.dp⟩ G = lkE C G := by unfold lkE; rw [if_pos q, if_pos (err_cl q hk3.1 hk3.2)]
    rw [e] at this
    exact this)
  have KP2 := Lib.hid (fun W => fd_Cap ⟨k, C.cb, C.ht, C.ri, C.ru, C.wd, C.dp⟩ W)
  have HCP := Lib.hid (fun q => cap_rows (C := C) G q hk3.1 hk3.2)
  have KL : Hid (C.err = 0 → ∀ W, Calls Tryd.prog 27 #[.agg #[.int .i64 C.cl, .int .i64 C.cb, .int .i64 C.ht, .int .i64 C.ri, .int .i64 C.ru, .int .i64 C.wd, .int .i64 C.dp], .agg #[.int .i64 0, .int .i64 9, .int .i64 1], .agg #[.int .i64 0, .int .i64 9, .int .i64 1]] W fun e w' => e = .returned (.bool (decide (C.ht ≤ 9))) ∧ New W w') := Lib.hid (fun q W => by have := lk_Linked C ⟨0, 9, 1⟩ ⟨0, 9, 1⟩ W; rw [cap_linked q] at this; exact this)
  unfold ArGreated at KG
  unfold FBuilt at KA HB2
  simp only at KP2
  generalize capC ⟨k, C.cb, C.ht, C.ri, C.ru, C.wd, C.dp⟩ = m2 at *
  generalize capC C = m1 at *
  generalize fdT ⟨k, C.cb, C.ht, C.ri, C.ru, C.wd, C.dp⟩ G = B at *
  generalize fdT C G = A at *
  generalize lkE C G = er at *
  generalize C.err = ce at *
  obtain ⟨n, hn⟩ : ∃ n, n = G.L.length := ⟨_, rfl⟩
  rw [← hn] at KG KA HB2 ⊢
  have hee : (er != er) = false := by simp
  have HR := Lib.hid (And.intro hr hk)
  clear hn hG hD hr hk
  go_enter Tryd.func7, Tryd.ntmps7
  go_upto_region 1 with fail
  refine Code.at (fun W hW => ?_)
  have n0 : New w W := by subst hW; (repeat (first | (with_reducible exact New.refl _) | (with_reducible assumption) | ((with_reducible refine New.setB ?_ ?_ _); focus (first | omega | (simp; omega) | (simp; done))) | (with_reducible refine New.alloc ?_ _) | (with_reducible refine New.drew ?_) | (with_reducible refine New.drewN ?_ _) | (with_reducible refine New.hat ?_ _) | ((with_reducible apply New.snart); (with_reducible assumption))))
  ((have c0 : W.cell? ⟨w.heap.size, 0, none⟩ = some (.int .i64 C.cl) := (by subst hW; go_simp)); (have c1 : W.cell? ⟨w.heap.size, 1, none⟩ = some (.int .i64 C.cb) := (by subst hW; go_simp)); (have c2 : W.cell? ⟨w.heap.size, 2, none⟩ = some (.int .i64 C.ht) := (by subst hW; go_simp)); (have c3 : W.cell? ⟨w.heap.size, 3, none⟩ = some (.int .i64 C.ri) := (by subst hW; go_simp)); (have c4 : W.cell? ⟨w.heap.size, 4, none⟩ = some (.int .i64 C.ru) := (by subst hW; go_simp)); (have c5 : W.cell? ⟨w.heap.size, 5, none⟩ = some (.int .i64 C.wd) := (by subst hW; go_simp)); (have c6 : W.cell? ⟨w.heap.size, 6, none⟩ = some (.int .i64 C.dp) := (by subst hW; go_simp)))
  have g0 : W.cell? ⟨w.heap.size + 1, 0, none⟩ = some (.int .i64 G.x) := by subst hW; go_simp
  have g1 : W.cell? ⟨w.heap.size + 1, 1, none⟩ = some (.int .i64 G.z) := by subst hW; go_simp
  have g2 : W.cell? ⟨w.heap.size + 1, 2, none⟩ = some (.int .i64 G.w) := by subst hW; go_simp
  have g3 : W.cell? ⟨w.heap.size + 1, 3, none⟩ = some (.int .i64 G.d) := by subst hW; go_simp
  have g4 : W.cell? ⟨w.heap.size + 1, 4, none⟩ = some (.slice G.ga n G.gc) := by subst hW; go_simp
  clear hW
  have HCG := Lib.hid (fun W2 (q : New W W2) => And.intro (q.keep c0) (And.intro (q.keep c1) (And.intro (q.keep c2) (And.intro (q.keep c3) (And.intro (q.keep c4) (And.intro (q.keep c5) (And.intro (q.keep c6) (And.intro (q.keep g0) (And.intro (q.keep g1) (And.intro (q.keep g2) (And.intro (q.keep g3) (q.keep g4))))))))))))
  have N0 := Lib.hid n0
  clear n0
  go_wp2_with fail
  refine (KG.out _ N0.out).mono ?_
  rintro e w1 ⟨bg, rfl, -, n1⟩
  have N1 := Lib.hid n1
  clear c0 c1 c2 c3 c4 c5 c6 g0 g1 g2 g3 g4
  clear n1 KG
  cases bg
  rotate_left
  · go_wp2_with fail
    refine (KW.out _ (N0.out.trans N1.out)).mono ?_
    rintro e w4 ⟨rfl, n4⟩
    go_wp2_with fail
    go_ret
    exact ⟨rfl, (N0.out.trans N1.out).trans n4⟩
  obtain ⟨c0, c1, c2, c3, c4, c5, c6, g0, g1, g2, g3, g4⟩ := HCG.out _ N1.out
  go_wp2_with fail
  refine (KC.out _).mono ?_
  rintro e w2 ⟨rfl, n2⟩
  have N2 := Lib.hid (N1.out.trans n2)
  clear c0 c1 c2 c3 c4 c5 c6 g0 g1 g2 g3 g4
  clear n2 N1 KC
  rcases h1 with rfl | rfl
  rotate_left
  · go_wp2_with fail
    refine (KW.out _ (N0.out.trans N2.out)).mono ?_
    rintro e w4 ⟨rfl, n4⟩
    go_wp2_with fail
    go_ret
    exact ⟨rfl, (N0.out.trans N2.out).trans n4⟩
  have KB2 := Lib.hid (HB2.out rfl)
  have HCAP := Lib.hid (HCP.out rfl)
  have KL2 := Lib.hid (KL.out rfl)
  clear HB2 HCP KL
  obtain ⟨c0, c1, c2, c3, c4, c5, c6, g0, g1, g2, g3, g4⟩ := HCG.out _ N2.out
  have hz1 := World.block_lt_of_cell? _ _ g0
  have hz0 := World.block_lt_of_cell? _ _ c0
  simp only [] at hz1 hz0
  have hrr : Int.tmod cl 4 = r := HR.out.1.symm
  have hw4 : IntKind.i64.wrap (r + 4) = r + 4 := IntWalk.i64_in _ (by omega)
  have hkk : Int.tmod (r + 4) 4 = k := HR.out.2.symm
  go_upto_region 5 with fail
  refine Code.at (fun W3 hW => ?_)
  have n3 : New w2 W3 := by subst hW; (repeat (first | (with_reducible exact New.refl _) | (with_reducible assumption) | ((with_reducible refine New.setB ?_ ?_ _); focus (first | omega | (simp; omega) | (simp; done))) | (with_reducible refine New.alloc ?_ _) | (with_reducible refine New.drew ?_) | (with_reducible refine New.drewN ?_ _) | (with_reducible refine New.hat ?_ _) | ((with_reducible apply New.snart); (with_reducible assumption))))
  have d0 : W3.cell? ⟨w2.heap.size, 0, none⟩ = some (.int .i64 k) := by subst hW; go_simp
  have d1 : W3.cell? ⟨w2.heap.size, 1, none⟩ = some (.int .i64 C.cb) := by subst hW; go_simp
  have d2 : W3.cell? ⟨w2.heap.size, 2, none⟩ = some (.int .i64 C.ht) := by subst hW; go_simp
  have d3 : W3.cell? ⟨w2.heap.size, 3, none⟩ = some (.int .i64 C.ri) := by subst hW; go_simp
  have d4 : W3.cell? ⟨w2.heap.size, 4, none⟩ = some (.int .i64 C.ru) := by subst hW; go_simp
  have d5 : W3.cell? ⟨w2.heap.size, 5, none⟩ = some (.int .i64 C.wd) := by subst hW; go_simp
  have d6 : W3.cell? ⟨w2.heap.size, 6, none⟩ = some (.int .i64 C.dp) := by subst hW; go_simp
  clear hW
  have HDC := Lib.hid (fun W2 (q : New W3 W2) => And.intro (q.keep d0) (And.intro (q.keep d1) (And.intro (q.keep d2) (And.intro (q.keep d3) (And.intro (q.keep d4) (And.intro (q.keep d5) (q.keep d6)))))))
  clear c0 c1 c2 c3 c4 c5 c6 g0 g1 g2 g3 g4
  have N3 := Lib.hid (N2.out.trans n3)
  clear d0 d1 d2 d3 d4 d5 d6 n3 N2 hz0 hz1 hrr hw4 hkk
  obtain ⟨c0, c1, c2, c3, c4, c5, c6, g0, g1, g2, g3, g4⟩ := HCG.out _ N3.out
  go_wp2_with fail
  refine (KA.out _ (N0.out.trans N3.out)).mono ?_
  rintro e w4 ⟨va, rfl, hra, n4⟩
  have N34 := Lib.hid n4
  have N4 := Lib.hid (N3.out.trans n4)
  have HRA := Lib.hid hra
  clear c0 c1 c2 c3 c4 c5 c6 g0 g1 g2 g3 g4
  clear n4 KA hra N3
  obtain ⟨-, -, -, -, -, -, -, g0, g1, g2, g3, g4⟩ := HCG.out _ N4.out
  obtain ⟨d0, d1, d2, d3, d4, d5, d6⟩ := HDC.out _ N34.out
  go_wp2_with fail
  refine (KB2.out _ (N0.out.trans N4.out)).mono ?_
  rintro e w5 ⟨vb, rfl, hrb, n5⟩
  have N35 := Lib.hid (N34.out.trans n5)
  have N5 := Lib.hid (N4.out.trans n5)
  have HRA5 := Lib.hid (HRA.out.keep n5)
  have HRB5 := Lib.hid hrb
  obtain ⟨aa, ac, rfl⟩ := HRA5.out.shape
  obtain ⟨ba, bc, rfl⟩ := hrb.shape
  have hmx := rows_max HRA5.out
  unfold maxLen at hmx
  obtain ⟨an, han⟩ : ∃ q, q = A.length := ⟨_, rfl⟩
  have hbn : B.length = an := by rw [han]; exact HCAP.out.1.symm
  rw [← han] at HRA5 hmx ⊢
  rw [hbn] at HRB5 ⊢
  have HAN := Lib.hid (And.intro han hbn)
  clear n5 KB2 hrb HRA N34 N4 g0 g1 g2 g3 g4 d0 d1 d2 d3 d4 d5 d6 han hbn
  have hnn : ((an : Int) != (an : Int)) = false := by simp
  obtain ⟨c0, c1, c2, c3, c4, c5, c6, -, -, -, -, -⟩ := HCG.out _ N5.out
  obtain ⟨d0, d1, d2, d3, d4, d5, d6⟩ := HDC.out _ N35.out
  go_upto_region 9 with fail
  have F1 := Lib.hid (fun (q : Hat w5) => KP.out q.w)
  have F2 := Lib.hid (fun (q : Hat w5) => KP2.out q.w)
  (refine wp_region_hat (by kernel_rfl) (by kernel_rfl) ?_; intro hatc hatf; (repeat (go_big_quiet_step (((go_at_call 14; first | (with_reducible exact Calls.hat (F1.out _)) | (with_reducible exact Calls.hat (F2.out _))))))); refine wpQuiet_nil ?_; rintro _ ⟨q, rfl⟩)
  have HN6 := Lib.hid q.h
  obtain ⟨lst, hlst⟩ : ∃ q, q = min m1 m2 := ⟨_, rfl⟩
  rw [← hlst] at HCAP ⊢
  clear c0 c1 c2 c3 c4 c5 c6
  clear hatc hatf F1 F2 d0 d1 d2 d3 d4 d5 d6 hlst KP KP2
  generalize q.w = w6 at *
  clear q
  go_wp2_with fail
  go_loopg [13] an (fun gk s13 wr => ∃ i : Nat, s13 = .int .i64 i ∧ i ≤ an ∧ an - i ≤ gk ∧ Hid (New w5 wr))
  case atStart => exact ⟨0, rfl, by omega, by omega, HN6⟩
  case round =>
    obtain ⟨i, rfl, hi, hgk, hnr⟩ := hrel
    by_cases hlt : i < an
    rotate_left
    · obtain rfl : i = an := by omega
      obtain ⟨c0, c1, c2, c3, c4, c5, c6, -, -, -, -, -⟩ := HCG.out _ (N5.out.trans hnr.out)
      have N7 := Lib.hid (N0.out.trans (N5.out.trans hnr.out))
      have F1 := Lib.hid (fun (q : Hat wr) => KL2.out q.w)
      have F2 := Lib.hid (fun (q : Hat wr) => KW.out q.w (N7.out.trans q.h))
      have hlb : (decide (C.ht ≤ 9) == decide (C.ht ≤ 9)) = true := by simp
      go_upto_region 20 with fail
      (refine wp_region_hat (by kernel_rfl) (by kernel_rfl) ?_; intro hatc hatf; (repeat (go_big_quiet_step (((first | (go_at_call 27; with_reducible exact Calls.hat (F1.out _)) | (go_at_call 10; with_reducible exact Calls.hat (F2.out _))))))); refine wpQuiet_nil ?_; rintro _ ⟨q, rfl⟩)
      have nn := N7.out.trans q.h
      go_wp2_with fail
      go_ret
      exact ⟨rfl, nn⟩
    have h1 : i < A.length := by rw [← HAN.out.1]; exact hlt
    have h2 : i < B.length := by rw [HAN.out.2]; exact hlt
    obtain ⟨b1, o1, a1, e1, rfl, hc1, hs1⟩ := (HRA5.out.keep hnr.out).at i h1
    obtain ⟨b2, o2, a2, e2, rfl, hc2, hs2⟩ := (HRB5.out.keep hnr.out).at i h2
    obtain ⟨hl, hmin⟩ := HCAP.out.2 i h1 h2
    have HMIN := Lib.hid hmin
    obtain ⟨a1', e1', x1, -, -, hr1⟩ := sl_at hs1
    obtain ⟨a2', e2', x2, -, -, hr2⟩ := sl_at hs2
    injection x1 with x1a x1b x1c
    injection x2 with x2a x2b x2c
    subst x1a
    subst x2a
    have hml : A[i].length ≤ 9223372036854775807 := by
      obtain ⟨_, _, _, y1, y2, -⟩ := hs1
      unfold maxLen at y2
      omega
    have HR1 := Lib.hid hr1
    have HR2 := Lib.hid hr2
    obtain ⟨m, hm⟩ : ∃ m, m = A[i].length := ⟨_, rfl⟩
    rw [← hl, ← hm] at hc2
    rw [← hm] at hc1 hml hl
    have HM := Lib.hid (And.intro hm hl)
    have HC := Lib.hid (fun W (q : New wr W) => And.intro (q.keep hc1) (q.keep hc2))
    have HGK := Lib.hid hgk
    have hmm : ((m : Int) != (m : Int)) = false := by simp
    clear hm hl hs1 hs2 hr1 hr2 hmin x1b x1c x2b x2c hgk
    rename World => Wi
    go_upto_region 13 with fail
    (refine wp_region_hat (by kernel_rfl) (by kernel_rfl) ?_; intro hatc hatf; (repeat (go_big_quiet_step ((fail)))); refine wpQuiet_nil ?_; rintro _ ⟨q, rfl⟩)
    have HNQ := Lib.hid q.h
    clear hatc hatf hc1 hc2 hmm
    generalize q.w = w7 at *
    clear q
    go_wp2_with fail
    go_loopg [14] m (fun gk s14 wr => ∃ k : Nat, s14 = .int .i64 k ∧ k ≤ m ∧ m - k ≤ gk ∧ Hid (New Wi wr))
    case atStart => exact ⟨0, rfl, by omega, by omega, HNQ⟩
    case round =>
      obtain ⟨k, rfl, hk, hgk, hnk⟩ := hrel
      obtain ⟨hc1, hc2⟩ := HC.out _ hnk.out
      by_cases hkt : k < m
      rotate_left
      · obtain rfl : k = m := by omega
        have hgk := HGK.out
        go_wp2_with fail
        go_roundg (an - (i + 1))
        case measure => omega
        case rel => exact ⟨i + 1, by go_num, by omega, by omega, Lib.hid (hnr.out.trans hnk.out)⟩
      have q1 : k < A[i].length := by rw [← HM.out.1]; exact hkt
      have q2 : k < B[i].length := by rw [← HM.out.2]; exact hkt
      obtain ⟨p1, r1, rfl, hx1⟩ := HR1.out k q1
      obtain ⟨p2, r2, rfl, hx2⟩ := HR2.out k q2
      replace hx1 := hnk.out.keep hx1
      replace hx2 := hnk.out.keep hx2
      have hmn := HMIN.out k q1 q2
      generalize A[i][k] = x at *
      generalize B[i][k] = y at *
      have hne : (min x lst != min y lst) = false := by rw [hmn]; simp
      clear hmn
      go_upto_region 18 with fail
      (refine wp_region_hat (by kernel_rfl) (by kernel_rfl) ?_; intro hatc hatf; (repeat (go_big_quiet_step ((fail)))); refine wpQuiet_nil ?_; rintro _ ⟨q, rfl⟩)
      have HNK := Lib.hid (hnk.out.trans q.h)
      clear hatc hatf hc1 hc2 hx1 hx2 hne
      generalize q.w = w8 at *
      clear q
      go_wp2_with fail
      go_roundg (m - (k + 1))
      case measure => omega
      case rel => exact ⟨k + 1, by go_num, by omega, by omega, HNK⟩

end Go.Proofs.YtgoggogcbjfofaaDoor
