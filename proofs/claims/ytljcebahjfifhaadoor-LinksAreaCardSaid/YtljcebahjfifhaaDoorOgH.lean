/- Package open: within, rise, Check. -/
import Derived.Test.YtljcebahjfifhaaDoorOgG
import Derived.Test.YtljcebahjfifhaaDoorSteady
import Derived.Test.YtljcebahjfifhaaDoorHatS
import Derived.Deep.LoopGhost
import Derived.Deep.DeepCutAuto
namespace Go.Proofs.YtljcebahjfifhaaDoor
open Go.RowKit
set_option linter.unusedVariables false

theorem CellsAt.new (w : World) (b : Nat) (G : Gd) (t : TypeId) (h : w.heap[b]? = some (.cells G.enc.toArray t (0, 0))) : CellsAt w b 0 G.enc := fun i hi => by
  rw [Nat.zero_add]
  exact cell_of_heap h (by
    have : i < 5 := hi
    rcases (show i = 0 ∨ i = 1 ∨ i = 2 ∨ i = 3 ∨ i = 4 by omega) with rfl | rfl | rfl | rfl | rfl <;> rfl)

/-! Plain. -/
def wiB (n lo hi : Int) : Bool := decide (lo ≤ n) && decide (n ≤ hi)
theorem wiB_iff {n lo hi : Int} : wiB n lo hi = true ↔ lo ≤ n ∧ n ≤ hi := by unfold wiB; simp
theorem wiB_not {n lo hi : Int} : wiB n lo hi = false ↔ ¬ (lo ≤ n ∧ n ≤ hi) := by rw [← wiB_iff]; simp
/-- Where the floor ahead of the j-th ends. -/
def leastAt (l : List Fl) (j : Nat) : Int := if j = 0 then -2048 else ((l[j - 1]?).map (·.top)).getD 0
theorem leastAt_succ {l : List Fl} {j : Nat} (h : j < l.length) : leastAt l (j + 1) = l[j].top := by unfold leastAt; simp [h]
/-- May the j-th floor be, behind the one ahead of it? -/
def okF (lo : Int) (f : Fl) : Bool := wiB f.y lo 2048 && (wiB f.top (f.y + 1) 1048576 && wiB f.area 0 7)
def okAt (l : List Fl) (j : Nat) : Bool := match l[j]? with
  | some f => okF (leastAt l j) f
  | none => true
theorem okAt_at {l : List Fl} {j : Nat} (h : j < l.length) : okAt l j = okF (leastAt l j) l[j] := by unfold okAt; rw [List.getElem?_eq_getElem h]
/-- May floors be one column's? -/
def riseB (l : List Fl) : Bool := decide (l.length ≤ 8) && (List.range l.length).all (okAt l)
theorem riseB_long {l : List Fl} (h : 8 < l.length) : riseB l = false := by unfold riseB; rw [decide_eq_false (by omega)]; rfl
theorem riseB_bad {l : List Fl} {j : Nat} (h : j < l.length) (hb : okAt l j = false) : riseB l = false := by
  unfold riseB
  rw [Bool.and_eq_false_iff]
  right
  rw [List.all_eq_false]
  exact ⟨j, List.mem_range.2 h, by rw [hb]; simp⟩
theorem riseB_all {l : List Fl} (h8 : l.length ≤ 8) (h : ∀ j, j < l.length → okAt l j = true) : riseB l = true := by
  unfold riseB
  rw [decide_eq_true h8, Bool.true_and, List.all_eq_true]
  exact fun j hj => h j (List.mem_range.1 hj)
theorem leastAt_lo {l : List Fl} : ∀ {i : Nat}, i ≤ l.length → (∀ j, j < i → okAt l j = true) → -2048 ≤ leastAt l i
  | 0, _, _ => by unfold leastAt; simp
  | i + 1, hi, h => by
    have h1 := leastAt_lo (show i ≤ l.length by omega) (fun j hj => h j (by omega))
    have h2 := h i (by omega)
    rw [okAt_at (by omega)] at h2
    unfold okF at h2
    simp only [Bool.and_eq_true, wiB_iff] at h2
    rw [leastAt_succ (by omega)]
    omega
theorem riseB_len {l : List Fl} (h : riseB l = true) : l.length ≤ 8 := by
  unfold riseB at h
  simp only [Bool.and_eq_true, decide_eq_true_eq] at h
  exact h.1

set_option maxHeartbeats 1000000 in
theorem og_within (n lo hi : Int) (w : World) : Calls Tryd.prog 42 #[.int .i64 n, .int .i64 lo, .int .i64 hi] w fun e w' => e = .returned (.bool (wiB n lo hi)) ∧ w = w' := by
  unfold wiB
  by_cases h : lo ≤ n
  · rw [decide_eq_true h]
    go_enter Tryd.func42, Tryd.ntmps42
    go_wp2_with fail
    go_ret
    exact ⟨rfl, rfl⟩
  · rw [decide_eq_false h]
    go_enter Tryd.func42, Tryd.ntmps42
    go_wp2_with fail
    go_ret
    exact ⟨rfl, rfl⟩

set_option maxHeartbeats 4000000 in
set_option maxRecDepth 100000 in
theorem og_rise (at0 : Option Addr) (l : List Fl) (c : Nat) (hl : l.length ≤ maxLen) (w : World) (H : RowIn Fl.enc 3 w at0 l) :
    Calls Tryd.prog 43 #[.slice at0 l.length c] w fun e w' => e = .returned (.bool (riseB l)) ∧ New w w' := by
  have KW := Lib.hid (fun n lo hi W => og_within n lo hi W)
  have HH := Lib.hid H
  unfold maxLen at hl
  clear H
  obtain ⟨r, hr⟩ : ∃ r, r = riseB l := ⟨_, rfl⟩
  rw [← hr]
  have HR := Lib.hid hr
  obtain ⟨n, hn⟩ : ∃ n, n = l.length := ⟨_, rfl⟩
  rw [← hn] at hl ⊢
  have HN := Lib.hid hn
  clear hn hr
  by_cases h8 : 8 < n
  · have HE : Hid (r = false) := Lib.hid (by rw [HR.out]; exact riseB_long (by rw [← HN.out]; exact h8))
    have hd : decide (8 < n) = true := decide_eq_true h8
    go_enter Tryd.func43, Tryd.ntmps43
    go_wp2_with fail
    go_ret
    exact ⟨by rw [HE.out]; rfl, New.refl _⟩
  have hd : decide (8 < n) = false := decide_eq_false h8
  go_enter Tryd.func43, Tryd.ntmps43
  go_wp2_with fail
  go_loopg [11, 3] n (fun gk s11 s3 wr => ∃ (i : Nat) (lo : Int), s11 = .int .i64 i ∧ s3 = .int .i64 lo ∧ Hid (lo = leastAt l i) ∧ i ≤ n ∧ n - i ≤ gk ∧ Hid (∀ j, j < i → okAt l j = true) ∧ Hid (New w wr))
  case atStart => exact ⟨0, -2048, rfl, rfl, Lib.hid rfl, by omega, by omega, Lib.hid (fun j h => by omega), Lib.hid (New.refl _)⟩
  case round =>
    obtain ⟨i, lo, rfl, rfl, HLO, hi, hgk, HB, hnr⟩ := hrel
    by_cases hlt : i < n
    · have hil : i < l.length := by rw [← HN.out]; exact hlt
      obtain ⟨b0, off, rfl, hA⟩ := HH.out (by omega)
      obtain ⟨c0, c1, c2⟩ := Fl.cells (hA.keep hnr.out) i hil
      have hok := okAt_at hil
      rw [← HLO.out] at hok
      have hls := leastAt_succ hil
      obtain ⟨f, hf⟩ : ∃ f, f = l[i] := ⟨_, rfl⟩
      rw [← hf] at c0 c1 c2 hok hls
      have HLS := Lib.hid hls
      have nr := hnr.out
      clear hA hf hls hnr
      unfold okF at hok
      cases h1 : wiB f.y lo 2048
      · rw [h1] at hok
        have HE : Hid (r = false) := Lib.hid (by rw [HR.out]; exact riseB_bad hil (by rw [hok]; rfl))
        have K1 := fun W => KW.out f.y lo 2048 W
        rw [h1] at K1
        clear hok h1
        go_wp2_with fail
        refine (K1 _).mono ?_
        rintro e w2 ⟨rfl, rfl⟩
        go_wp2_with fail
        go_ret
        exact ⟨by rw [HE.out]; rfl, by (repeat (first | (with_reducible exact New.refl _) | (with_reducible assumption) | ((with_reducible refine New.setB ?_ ?_ _); focus (first | omega | (simp; omega) | (simp; done))) | (with_reducible refine New.alloc ?_ _) | (with_reducible refine New.drew ?_) | (with_reducible refine New.drewN ?_ _) | (with_reducible refine New.hat ?_ _) | ((with_reducible apply New.snart); (with_reducible assumption))))⟩
      · rw [h1] at hok
        have K1 := fun W => KW.out f.y lo 2048 W
        rw [h1] at K1
        have h1' := wiB_iff.1 h1
        have hlo : -2048 ≤ lo := by rw [HLO.out]; exact leastAt_lo (by omega) HB.out
        have hw1 : IntKind.i64.wrap (f.y + 1) = f.y + 1 := IntWalk.i64_in _ (by omega)
        clear h1
        rw [Bool.true_and] at hok
        cases h2 : wiB f.top (f.y + 1) 1048576
        · rw [h2] at hok
          have HE : Hid (r = false) := Lib.hid (by rw [HR.out]; exact riseB_bad hil (by rw [hok]; rfl))
          have K2 := fun W => KW.out f.top (f.y + 1) 1048576 W
          rw [h2] at K2
          clear hok h2 h1' hlo
          go_wp2_with fail
          refine (K1 _).mono ?_
          rintro e w2 ⟨rfl, rfl⟩
          go_wp2_with fail
          refine (K2 _).mono ?_
          rintro e w2 ⟨rfl, rfl⟩
          go_wp2_with fail
          go_ret
          exact ⟨by rw [HE.out]; rfl, by (repeat (first | (with_reducible exact New.refl _) | (with_reducible assumption) | ((with_reducible refine New.setB ?_ ?_ _); focus (first | omega | (simp; omega) | (simp; done))) | (with_reducible refine New.alloc ?_ _) | (with_reducible refine New.drew ?_) | (with_reducible refine New.drewN ?_ _) | (with_reducible refine New.hat ?_ _) | ((with_reducible apply New.snart); (with_reducible assumption))))⟩
        · have K2 := fun W => KW.out f.top (f.y + 1) 1048576 W
          rw [h2] at K2
          rw [h2, Bool.true_and] at hok
          clear h2
          have K3 := fun W => KW.out f.area 0 7 W
          cases h3 : wiB f.area 0 7
          · have HE : Hid (r = false) := Lib.hid (by rw [HR.out]; exact riseB_bad hil (by rw [hok]; exact h3))
            rw [h3] at K3
            clear hok h3 h1' hlo
            go_wp2_with fail
            refine (K1 _).mono ?_
            rintro e w2 ⟨rfl, rfl⟩
            go_wp2_with fail
            refine (K2 _).mono ?_
            rintro e w2 ⟨rfl, rfl⟩
            go_wp2_with fail
            refine (K3 _).mono ?_
            rintro e w2 ⟨rfl, rfl⟩
            go_wp2_with fail
            go_ret
            exact ⟨by rw [HE.out]; rfl, by (repeat (first | (with_reducible exact New.refl _) | (with_reducible assumption) | ((with_reducible refine New.setB ?_ ?_ _); focus (first | omega | (simp; omega) | (simp; done))) | (with_reducible refine New.alloc ?_ _) | (with_reducible refine New.drew ?_) | (with_reducible refine New.drewN ?_ _) | (with_reducible refine New.hat ?_ _) | ((with_reducible apply New.snart); (with_reducible assumption))))⟩
          · have hnx : Hid (∀ j, j < i + 1 → okAt l j = true) := Lib.hid (fun j hj => by
              by_cases e : j < i
              · exact HB.out j e
              · obtain rfl : j = i := by omega
                rw [hok]; exact h3)
            rw [h3] at K3
            clear hok h3 h1' hlo
            go_wp2_with fail
            refine (K1 _).mono ?_
            rintro e w2 ⟨rfl, rfl⟩
            go_wp2_with fail
            refine (K2 _).mono ?_
            rintro e w2 ⟨rfl, rfl⟩
            go_wp2_with fail
            refine (K3 _).mono ?_
            rintro e w2 ⟨rfl, rfl⟩
            go_wp2_with fail
            go_roundg (n - (i + 1))
            case measure => omega
            case rel => exact ⟨i + 1, f.top, by go_num, rfl, Lib.hid HLS.out.symm, by omega, by omega, hnx, Lib.hid (by (repeat (first | (with_reducible exact New.refl _) | (with_reducible assumption) | ((with_reducible refine New.setB ?_ ?_ _); focus (first | omega | (simp; omega) | (simp; done))) | (with_reducible refine New.alloc ?_ _) | (with_reducible refine New.drew ?_) | (with_reducible refine New.drewN ?_ _) | (with_reducible refine New.hat ?_ _) | ((with_reducible apply New.snart); (with_reducible assumption)))))⟩
    · obtain rfl : i = n := by omega
      have HE : Hid (r = true) := Lib.hid (by rw [HR.out]; exact riseB_all (by rw [← HN.out]; omega) (by rw [← HN.out]; exact HB.out))
      go_wp2_with fail
      go_ret
      exact ⟨by rw [HE.out]; rfl, hnr.out⟩

end Go.Proofs.YtljcebahjfifhaaDoor
