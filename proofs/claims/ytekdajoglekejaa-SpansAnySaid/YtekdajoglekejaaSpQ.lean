/- Package spans: Put, Same. -/
import Derived.Test.YtekdajoglekejaaSpM
import Derived.Test.YtekdajoglekejaaSpP
import Derived.Test.YtekdajoglekejaaSoXS
import Derived.Test.YtekdajoglekejaaSlApp
namespace Go.Proofs.Ytekdajoglekejaa
open Go.RowKit
set_option linter.unusedVariables false

theorem sn_part2 {w : World} {B c d : Nat} {a b : Option Addr} {l m : List Sn} (h : w.cell? ⟨B, 0, none⟩ = some (.slice a l.length c)) (hs : Sl Sn.enc 3 w (.slice a l.length c) l) (h' : w.cell? ⟨B, 1, none⟩ = some (.slice b m.length d)) (hs' : Sl Sn.enc 3 w (.slice b m.length d) m) : PartsAt Sn.enc 3 w B [⟨a, l, c⟩, ⟨b, m, d⟩] := fun j hj => by
  rcases (show j = 0 ∨ j = 1 by simp at hj; omega) with rfl | rfl
  · exact ⟨h, hs⟩
  · exact ⟨h', hs'⟩
theorem sn_one {w : World} {g : Nat} {s : Sn} (h0 : w.cell? ⟨g, 0, none⟩ = some (.int .i64 s.lo)) (h1 : w.cell? ⟨g, 1, none⟩ = some (.int .i64 s.hi)) (h2 : w.cell? ⟨g, 2, none⟩ = some (.bool s.wk)) : Sl Sn.enc 3 w (.slice (some ⟨g, 0, none⟩) [s].length 1) [s] :=
  ⟨_, _, rfl, Nat.le_refl _, by unfold maxLen; omega, fun h => (by cases h), fun _ => ⟨g, 0, rfl, fun j hj i hi => by
    have e : j = 0 := by simp at hj; omega
    subst e
    have hi' : i < 3 := hi
    rcases (show i = 0 ∨ i = 1 ∨ i = 2 by omega) with rfl | rfl | rfl
    · exact h0
    · exact h1
    · exact h2⟩⟩

/-- What Put answers. -/
def Putted (l : List Sn) (s : Sn) (w : World) (e : Ending) (w' : World) : Prop :=
  New w w' ∧ (((chkE l = 2 ∨ badS s = true) ∧ e = .returned (.tuple #[.slice none 0 0, .int .i64 2])) ∨
    (chkE l = 0 ∧ badS s = false ∧ ∃ R : List Sn, IsM (l ++ [s]) R ∧ ((8 < R.length ∧ e = .returned (.tuple #[.slice none 0 0, .int .i64 51])) ∨
      (R.length ≤ 8 ∧ ∃ (a : Option Addr) (c : Nat), e = .returned (.tuple #[.slice a R.length c, .int .i64 0]) ∧ Sl Sn.enc 3 w' (.slice a R.length c) R))))

theorem hBad {l : List Sn} {s : Sn} {b : Bool} (h : fstB badS (l ++ [s]) = true) (k : fstB badS (l ++ [s]) = b) : b = true := by rw [← k]; exact h
theorem bad_snoc (l : List Sn) (s : Sn) (h : chkE l = 0) : fstB badS (l ++ [s]) = badS s := by
  have hp := (chkE_zero h).2.1
  have h1 : l.any badS = false := by
    rw [List.any_eq_false]
    intro p hpm
    rw [(badS_not p).2 (hp p hpm)]; simp
  unfold fstB
  rw [List.any_append, h1]; simp

set_option maxHeartbeats 2000000 in
theorem k_put (at0 : Option Addr) (l : List Sn) (c : Nat) (s : Sn) (w : World) (h : Sl Sn.enc 3 w (.slice at0 l.length c) l) :
    Calls Try.prog 14 #[.slice at0 l.length c, .agg #[.int .i64 s.lo, .int .i64 s.hi, .bool s.wk]] w (Putted l s w) := by
  have hl : l.length ≤ maxLen := by obtain ⟨_, h1, h2, _⟩ := h.row'; omega
  have KC := Lib.hid (fun W n => k_check at0 l c hl W ((h.keep (n : New w W)).row'.2.2.2.2))
  have HS := Lib.hid (fun W n => h.keep (n : New w W))
  clear h hl
  have HB := Lib.hid (bad_snoc l s)
  have HZ := Lib.hid (fun h => (chkE_zero (l := l) h).1)
  obtain ⟨r, hr⟩ : ∃ r, r = chkE l := ⟨_, rfl⟩
  rw [← hr] at KC
  have HR := Lib.hid hr
  have hr2 : r = 0 ∨ r = 2 := by rw [hr]; exact chkE_two l
  clear hr
  go_enter Try.func14, Try.ntmps14
  go_upto_region 1 with fail
  refine Code.at (fun W0 hW => ?_)
  have n0 : New w W0 := by subst hW; (repeat (first | (with_reducible exact New.refl _) | (with_reducible assumption) | ((with_reducible refine New.setB ?_ ?_ _); focus (first | omega | (simp; omega) | (simp; done))) | (with_reducible refine New.alloc ?_ _) | (with_reducible refine New.drew ?_) | (with_reducible refine New.drewN ?_ _) | (with_reducible refine New.hat ?_ _) | ((with_reducible apply New.snart); (with_reducible assumption))))
  have s0 : W0.cell? ⟨w.heap.size, 0, none⟩ = some (.int .i64 s.lo) := by subst hW; go_simp
  have s1 : W0.cell? ⟨w.heap.size, 1, none⟩ = some (.int .i64 s.hi) := by subst hW; go_simp
  have s2 : W0.cell? ⟨w.heap.size, 2, none⟩ = some (.bool s.wk) := by subst hW; go_simp
  clear hW
  go_wp2_with fail
  refine (KC.out _ n0).mono ?_
  rintro e w1 ⟨rfl, n1⟩
  (replace s0 := n1.keep s0; replace s1 := n1.keep s1; replace s2 := n1.keep s2)
  have hn1 : New w w1 := n0.trans n1
  clear n1 n0
  rcases hr2 with rfl | rfl
  rotate_left
  · go_wp2_with fail
    refine bodyPost_ret (v := .tuple #[.slice none 0 0, .int .i64 2]) (by simp [results, Try.results14, go_sem, *]) rfl ?_
    exact ⟨hn1, .inl ⟨.inl HR.out.symm, rfl⟩⟩
  · have HL := Lib.hid (show l.length ≤ 8 from HZ.out HR.out.symm)
    have hz1 := hn1.size
    have HPT := Lib.hid (fun W n g0 g1 h0 h1 h2 => sn_part2 (B := w1.heap.size + 1) (g0 : W.cell? ⟨w1.heap.size + 1, 0, none⟩ = some (.slice at0 l.length c)) (HS.out W (hn1.trans n)) (g1 : W.cell? ⟨w1.heap.size + 1, 1, none⟩ = some (.slice (some ⟨w1.heap.size, 0, none⟩) 1 1)) (sn_one (s := s) h0 h1 h2))
    go_wp2_with fail
    refine Calls.at (fun W2 hW => ?_)
    have nW : New w1 W2 := by subst hW; (repeat (first | (with_reducible exact New.refl _) | (with_reducible assumption) | ((with_reducible refine New.setB ?_ ?_ _); focus (first | omega | (simp; omega) | (simp; done))) | (with_reducible refine New.alloc ?_ _) | (with_reducible refine New.drew ?_) | (with_reducible refine New.drewN ?_ _) | (with_reducible refine New.hat ?_ _) | ((with_reducible apply New.snart); (with_reducible assumption))))
    have hpt := HPT.out W2 nW (by subst hW; go_simp) (by subst hW; go_simp) (by subst hW; go_simp) (by subst hW; go_simp) (by subst hW; go_simp)
    clear hW
    refine (sn_concat (w1.heap.size + 1) 2 [⟨at0, l, c⟩, ⟨some ⟨w1.heap.size, 0, none⟩, [s], 1⟩] (by simp) (by have := HL.out; simp; omega) W2 hpt).mono ?_
    rintro e w2 ⟨v, rfl, hown, n2⟩
    have hn2 : New w w2 := (hn1.trans nW).trans n2
    clear nW hpt
    simp only [List.flatMap_cons, List.flatMap_nil, List.append_nil] at hown
    obtain ⟨a, c2, N, hN, rfl⟩ := own_shape2 hown
    have hSl := own_sl Sn.enc_len hown
    rw [hN] at hSl
    have KM := Lib.hid (k_merge a (l ++ [s]) c2 (by have := HL.out; simp; omega) w2 hSl)
    rw [← hN] at KM
    clear hown n2 hSl hN s0 s1 s2 hn1
    go_wp2_with fail
    refine KM.out.mono ?_
    rintro e w3 ⟨n3, hcase⟩
    have hn3 : New w w3 := hn2.trans n3
    have HBS := HB.out HR.out.symm
    rcases hcase with ⟨hb, rfl⟩ | ⟨hb, R, a', c', hR, hRl, rfl, hSl⟩
    · have HE := Lib.hid (hBad hb HBS)
      clear hb HBS
      go_wp2_with fail
      refine bodyPost_ret (v := .tuple #[.slice none 0 0, .int .i64 2]) (by simp [results, Try.results14, go_sem, *]) rfl ?_
      exact ⟨hn3, .inl ⟨.inr HE.out, rfl⟩⟩
    · rw [HBS] at hb
      have HE := Lib.hid (And.intro hb (And.intro hR hSl))
      clear hb hR hSl HBS hRl
      obtain ⟨M, hM⟩ : ∃ M, M = R.length := ⟨_, rfl⟩
      rw [← hM]
      have HM := Lib.hid hM
      clear hM
      by_cases h8 : 8 < M
      · have hd : decide (8 < M) = true := decide_eq_true h8
        go_wp2_with fail
        refine bodyPost_ret (v := .tuple #[.slice none 0 0, .int .i64 51]) (by simp [results, Try.results14, go_sem, *]) rfl ?_
        exact ⟨hn3, .inr ⟨HR.out.symm, HE.out.1, R, HE.out.2.1, .inl ⟨by rw [← HM.out]; exact h8, rfl⟩⟩⟩
      · have hd : decide (8 < M) = false := decide_eq_false h8
        go_wp2_with fail
        refine bodyPost_ret (v := .tuple #[.slice a' M c', .int .i64 0]) (by simp [results, Try.results14, go_sem, *]) rfl ?_
        exact ⟨hn3, .inr ⟨HR.out.symm, HE.out.1, R, HE.out.2.1, .inr ⟨by rw [← HM.out]; omega, a', c', by rw [HM.out], HE.out.2.2⟩⟩⟩

set_option maxHeartbeats 1000000 in
theorem k_same (at0 bt0 : Option Addr) (l m : List Sn) (c d : Nat) (hl : l.length ≤ 1000) (hm : m.length ≤ 1000) (w : World) (h : Sl Sn.enc 3 w (.slice at0 l.length c) l) (h' : Sl Sn.enc 3 w (.slice bt0 m.length d) m) :
    Calls Try.prog 18 #[.slice at0 l.length c, .slice bt0 m.length d] w fun e w' => e = .returned (.bool (Sn.allEq l m)) ∧ New w w' := by
  have K := Lib.hid (fun W n => sn_equal at0 bt0 l m c d hl hm W ((h.keep (n : New w W)).row'.2.2.2.2) ((h'.keep n).row'.2.2.2.2))
  clear h h'
  generalize Sn.allEq l m = b at *
  go_enter Try.func18, Try.ntmps18
  go_wp2_with fail
  refine (K.out _ (by (repeat (first | (with_reducible exact New.refl _) | (with_reducible assumption) | ((with_reducible refine New.setB ?_ ?_ _); focus (first | omega | (simp; omega) | (simp; done))) | (with_reducible refine New.alloc ?_ _) | (with_reducible refine New.drew ?_) | (with_reducible refine New.drewN ?_ _) | (with_reducible refine New.hat ?_ _) | ((with_reducible apply New.snart); (with_reducible assumption)))))).mono ?_
  rintro e w1 ⟨rfl, n1⟩
  have hn : New w w1 := New.trans (by (repeat (first | (with_reducible exact New.refl _) | (with_reducible assumption) | ((with_reducible refine New.setB ?_ ?_ _); focus (first | omega | (simp; omega) | (simp; done))) | (with_reducible refine New.alloc ?_ _) | (with_reducible refine New.drew ?_) | (with_reducible refine New.drewN ?_ _) | (with_reducible refine New.hat ?_ _) | ((with_reducible apply New.snart); (with_reducible assumption))))) n1
  clear n1
  go_wp2_with fail
  go_ret
  exact ⟨rfl, hn⟩

end Go.Proofs.Ytekdajoglekejaa
