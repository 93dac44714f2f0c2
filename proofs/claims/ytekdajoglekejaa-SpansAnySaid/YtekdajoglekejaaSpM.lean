/- Package spans: Merge. -/
import Derived.Test.YtekdajoglekejaaSoLS
import Derived.Test.YtekdajoglekejaaSpE
import Derived.Test.YtekdajoglekejaaSpJ
import Derived.Test.YtekdajoglekejaaSpN
import Derived.Deep.DeepCutAuto
namespace Go.Proofs.Ytekdajoglekejaa
open Go.RowKit
set_option linter.unusedVariables false

theorem sn_part {w : World} {B c : Nat} {a : Option Addr} {l : List Sn} (h : w.cell? ⟨B, 0, none⟩ = some (.slice a l.length c)) (hs : Sl Sn.enc 3 w (.slice a l.length c) l) : PartsAt Sn.enc 3 w B [⟨a, l, c⟩] := fun j hj => by
  have e : j = 0 := by simp at hj; omega
  subst e
  exact ⟨h, hs⟩
theorem not_bad {l : List Sn} (h : fstB badS l = false) : ∀ p ∈ l, -2048 ≤ p.lo ∧ p.lo ≤ p.hi ∧ p.hi ≤ 2048 := fun p hp => by
  unfold fstB at h
  rw [List.any_eq_false] at h
  have := h p hp
  exact (badS_not p).1 (by cases hb : badS p; rfl; exact absurd hb this)

/-- What Merge answers of pieces l. -/
def Merged (l : List Sn) (w : World) (e : Ending) (w' : World) : Prop :=
  New w w' ∧ ((fstB badS l = true ∧ e = .returned (.tuple #[.slice none 0 0, .int .i64 2])) ∨
    (fstB badS l = false ∧ ∃ (R : List Sn) (a : Option Addr) (c : Nat), IsM l R ∧ R.length ≤ l.length ∧ e = .returned (.tuple #[.slice a R.length c, .int .i64 0]) ∧ Sl Sn.enc 3 w' (.slice a R.length c) R))

/-- The row sorted and made one. -/
theorem k_row (l : List Sn) (hl : l.length ≤ 1000) (hf : Proper l) (base : Nat) (w : World) (v : Value) (h : w.ownsRow base 31 3 v l.length (l.flatMap Sn.enc)) :
    Calls Try.prog 22 #[v, .func (.func 23) #[] #[]] w fun e w1 => e = .returned (.tuple #[]) ∧ (∀ a, New a w → a.heap.size ≤ base → New a w1) ∧
      Calls Try.prog 25 #[v] w1 fun e w2 => ∃ (R : List Sn) (a : Option Addr) (c : Nat), IsM l R ∧ R.length ≤ l.length ∧ e = .returned (.slice a R.length c) ∧ Sl Sn.enc 3 w2 (.slice a R.length c) R ∧ (∀ a, New a w → a.heap.size ≤ base → New a w2) := by
  rcases h.2 with ⟨rfl, h0⟩ | ⟨g, cap, cur, rfl, hbg, hg, hc, hm, _⟩
  · obtain rfl := List.eq_nil_of_length_eq_zero h0
    refine (k_sort_nil w _).mono ?_
    rintro e w1 ⟨rfl, n1⟩
    refine ⟨rfl, fun a ha _ => ha.trans n1, ?_⟩
    refine (k_joined_nil w1).mono ?_
    rintro e w2 ⟨rfl, rfl⟩
    exact ⟨[], none, 0, IsM.nil, Nat.le_refl _, rfl, Sl.nil, fun a ha _ => ha.trans n1⟩
  · have hW := WRow.of_own h
    have hlt : g < w.heap.size := by
      rcases Nat.lt_or_ge g w.heap.size with q | q
      · exact q
      · rw [Array.getElem?_eq_none q] at hg; cases hg
    refine (k_sort g cap l (by omega) w hW hlt).mono ?_
    rintro e w1 ⟨rfl, m, hp, hs, hW1, hn1⟩
    have hn2 : ∀ a, New a w → a.heap.size ≤ base → New a w1 := fun a ha hb => hn1 a ha (by omega)
    refine ⟨rfl, hn2, ?_⟩
    have hml := hp.length_eq
    have hjo := k_joined g cap m w1 hW1 (by omega) hm hs (fun p hp' => hf p (hp.mem_iff.1 hp'))
    rw [hml] at hjo
    refine hjo.mono ?_
    rintro e w2 ⟨K, rfl, hK, hrow, hu, hkl⟩
    have hkl2 : K.length ≤ maxLen := by omega
    exact ⟨K, _, _, hK.congr (fun p => (hp.mem_iff).symm), by omega, rfl, ⟨_, _, rfl, Nat.le_refl _, hkl2, fun h => (by cases h), fun _ => ⟨g, 0, rfl, hrow⟩⟩, fun a ha hb => hu a (hn2 a ha hb) (by omega)⟩

set_option maxHeartbeats 2000000 in
theorem k_merge (at0 : Option Addr) (l : List Sn) (c : Nat) (hl : l.length ≤ 1000) (w : World) (h : Sl Sn.enc 3 w (.slice at0 l.length c) l) :
    Calls Try.prog 9 #[.slice at0 l.length c] w (Merged l w) := by
  have KP := Lib.hid (fun W n => k_pieces at0 l c (by unfold maxLen; omega) W ((h.keep (n : New w W)).row'.2.2.2.2))
  have HS := Lib.hid (fun W n => h.keep (n : New w W))
  clear h
  obtain ⟨b, hb⟩ : ∃ b, b = fstB badS l := ⟨_, rfl⟩
  rw [← hb] at KP
  have HB := Lib.hid hb
  clear hb
  go_enter Try.func9, Try.ntmps9
  go_wp2_with fail
  refine (KP.out _ (by (repeat (first | (with_reducible exact New.refl _) | (with_reducible assumption) | ((with_reducible refine New.setB ?_ ?_ _); focus (first | omega | (simp; omega) | (simp; done))) | (with_reducible refine New.alloc ?_ _) | (with_reducible refine New.drew ?_) | (with_reducible refine New.drewN ?_ _) | (with_reducible refine New.hat ?_ _) | ((with_reducible apply New.snart); (with_reducible assumption)))))).mono ?_
  rintro e w1 ⟨rfl, n1⟩
  have hn1 : New w w1 := New.trans (by (repeat (first | (with_reducible exact New.refl _) | (with_reducible assumption) | ((with_reducible refine New.setB ?_ ?_ _); focus (first | omega | (simp; omega) | (simp; done))) | (with_reducible refine New.alloc ?_ _) | (with_reducible refine New.drew ?_) | (with_reducible refine New.drewN ?_ _) | (with_reducible refine New.hat ?_ _) | ((with_reducible apply New.snart); (with_reducible assumption))))) n1
  clear n1
  cases b
  · have HF := Lib.hid (not_bad HB.out.symm)
    have HPT := Lib.hid (fun W n h0 => sn_part (B := w1.heap.size) (h0 : W.cell? ⟨w1.heap.size, 0, none⟩ = some (.slice at0 l.length c)) (HS.out W (hn1.trans n)))
    have hz1 := hn1.size
    go_upto_region 4 with fail
    refine (sn_concat w1.heap.size 1 [⟨at0, l, c⟩] (by simp) (by simpa using hl) _ (HPT.out _ (by (repeat (first | (with_reducible exact New.refl _) | (with_reducible assumption) | ((with_reducible refine New.setB ?_ ?_ _); focus (first | omega | (simp; omega) | (simp; done))) | (with_reducible refine New.alloc ?_ _) | (with_reducible refine New.drew ?_) | (with_reducible refine New.drewN ?_ _) | (with_reducible refine New.hat ?_ _) | ((with_reducible apply New.snart); (with_reducible assumption))))) (by go_simp))).mono ?_
    rintro e w2 ⟨v, rfl, hown, n2⟩
    simp only [List.flatMap_cons, List.flatMap_nil, List.append_nil] at hown
    have hb0 : w.heap.size ≤ (w1.alloc (.cells #[.slice at0 l.length c] 22)).heap.size := by simp; omega
    have hn2 : New w w2 := hn1.trans (New.trans (by (repeat (first | (with_reducible exact New.refl _) | (with_reducible assumption) | ((with_reducible refine New.setB ?_ ?_ _); focus (first | omega | (simp; omega) | (simp; done))) | (with_reducible refine New.alloc ?_ _) | (with_reducible refine New.drew ?_) | (with_reducible refine New.drewN ?_ _) | (with_reducible refine New.hat ?_ _) | ((with_reducible apply New.snart); (with_reducible assumption))))) n2)
    have KR := Lib.hid (k_row l hl (fun p hp => (HF.out p hp).2.1) _ w2 v hown)
    generalize (w1.alloc (.cells #[.slice at0 l.length c] 22)).heap.size = base at *
    clear hown n2
    go_wp2_with fail
    refine KR.out.mono ?_
    rintro e w3 ⟨rfl, hn3, hj⟩
    have KJ := Lib.hid hj
    clear hj
    go_wp2_with fail
    refine KJ.out.mono ?_
    rintro e w4 ⟨R, a, c', hR, hRl, rfl, hSl, hn4⟩
    have HE := Lib.hid (And.intro hR (And.intro hRl (And.intro hSl (hn4 w hn2 hb0))))
    clear hR hRl hSl hn4
    go_wp2_with fail
    refine bodyPost_ret (v := .tuple #[.slice a R.length c', .int .i64 0]) (by simp [results, Try.results9, go_sem, *]) rfl ?_
    exact ⟨HE.out.2.2.2, .inr ⟨HB.out.symm, R, a, c', HE.out.1, HE.out.2.1, rfl, HE.out.2.2.1⟩⟩
  · go_wp2_with fail
    refine bodyPost_ret (v := .tuple #[.slice none 0 0, .int .i64 2]) (by simp [results, Try.results9, go_sem, *]) rfl ?_
    exact ⟨hn1, .inl ⟨HB.out.symm, rfl⟩⟩

end Go.Proofs.Ytekdajoglekejaa
