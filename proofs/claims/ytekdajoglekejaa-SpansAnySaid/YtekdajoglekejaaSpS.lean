/- The law SpansSolid. -/
import Derived.Test.YtekdajoglekejaaSpX
import Derived.Deep.LoopGhost
import Derived.Deep.DeepCutAuto
namespace Go.Proofs.Ytekdajoglekejaa
open Go.RowKit
set_option linter.unusedVariables false

/-- A height is in a span just if it is in a piece. -/
theorem IsM.height {l R : List Sn} (h : IsM l R) (hf : Proper l) (y : Int) : fstB (hasS y) R = fstB (hasS y) l := by
  unfold fstB
  rw [Bool.eq_iff_iff, List.any_eq_true, List.any_eq_true]
  constructor
  · rintro ⟨r, hr, k⟩
    obtain ⟨k1, k2⟩ := (hasS_iff y r).1 k
    by_cases e : y = r.lo
    · obtain ⟨p, hp, q⟩ := h.low r hr
      have := hf p hp
      exact ⟨p, hp, (hasS_iff y p).2 ⟨by omega, by omega⟩⟩
    · obtain ⟨p, hp, q1, q2⟩ := h.cov r hr (y - 1) (by omega) (by omega)
      exact ⟨p, hp, (hasS_iff y p).2 ⟨by omega, by omega⟩⟩
  · rintro ⟨p, hp, k⟩
    obtain ⟨k1, k2⟩ := (hasS_iff y p).1 k
    obtain ⟨r, hr, q1, q2⟩ := h.isin p hp
    exact ⟨r, hr, (hasS_iff y r).2 ⟨by omega, by omega⟩⟩
/-- Where a height of the j-th span is found. -/
theorem Sep.at {R : List Sn} (h : Sep R) {j : Nat} (hj : j < R.length) {y : Int} (h1 : R[j].lo ≤ y) (h2 : y ≤ R[j].hi) : fstB (hasS y) R = true ∧ fstI (hasS y) R = j := by
  refine fst_hit hj ((hasS_iff _ _).2 ⟨h1, h2⟩) fun k hk hkj => ?_
  have := List.pairwise_iff_getElem.1 h k j hk hj hkj
  cases hb : hasS y R[k]
  · rfl
  · have := ((hasS_iff _ _).1 hb).2; omega
theorem chk_of {l R : List Sn} (h : IsM l R) (hb : ∀ p ∈ l, -2048 ≤ p.lo ∧ p.lo ≤ p.hi ∧ p.hi ≤ 2048) (h8 : R.length ≤ 8) : chkE R = 0 := by
  refine chkE_fine h8 ?_ fun i hi => List.pairwise_iff_getElem.1 h.sep i (i + 1) (by omega) hi (by omega)
  unfold fstB
  rw [List.any_eq_false]
  intro r hr
  rw [(badS_not r).2 ?_]
  · simp
  · obtain ⟨p, hp, q⟩ := h.low r hr
    have := hb p hp
    have f := h.fit r hr
    refine ⟨by omega, f, ?_⟩
    by_cases e : r.lo < r.hi
    · obtain ⟨u, hu, u1, u2⟩ := h.cov r hr (r.hi - 1) (by omega) (by omega)
      have := hb u hu
      omega
    · omega
/-- What is said of a row to which a piece was put. -/
theorem put_facts {l R : List Sn} {s : Sn} (h : PR l s R 0) : chkE R = 0 ∧ R.length ≤ 8 ∧ l.length ≤ 8 ∧ (∀ y, fstB (hasS y) R = (fstB (hasS y) l || hasS y s)) ∧ ∀ p ∈ l, ∃ j : Nat, fstB (hasS p.hi) R = true ∧ fstB (hasS p.lo) R = true ∧ fstI (hasS p.hi) R = j ∧ fstI (hasS p.lo) R = j := by
  rcases h with ⟨_, _, e⟩ | ⟨a, b, Q, q, ⟨_, _, e⟩ | ⟨c1, c2, _⟩⟩
  · omega
  · omega
  · subst c2
    have hp := PR.proper a b
    have hb : ∀ p ∈ l ++ [s], -2048 ≤ p.lo ∧ p.lo ≤ p.hi ∧ p.hi ≤ 2048 := fun p hp' => by
      rcases List.mem_append.1 hp' with k | k
      · exact (chkE_zero a).2.1 p k
      · rw [List.mem_singleton] at k; subst k; exact (badS_not _).1 b
    refine ⟨chk_of q hb c1, c1, (chkE_zero a).1, fun y => ?_, fun p hpl => ?_⟩
    · rw [q.height hp y]
      unfold fstB
      rw [List.any_append]; simp
    · obtain ⟨r, hr, r1, r2⟩ := q.isin p (List.mem_append_left _ hpl)
      have := hp p (List.mem_append_left _ hpl)
      obtain ⟨j, hj, rfl⟩ := List.getElem_of_mem hr
      have t1 := q.sep.at hj (y := p.hi) (by omega) (by omega)
      have t2 := q.sep.at hj (y := p.lo) (by omega) (by omega)
      exact ⟨j, t1.1, t2.1, t1.2, t2.2⟩
theorem PR.num {l R : List Sn} {s : Sn} {r : Int} (h : PR l s R r) : r = 0 ∨ (r ≠ 0 ∧ R.length = 0) := by
  rcases h with ⟨_, c, e⟩ | ⟨a, b, Q, q, ⟨_, c, e⟩ | ⟨c1, c2, e⟩⟩
  · exact .inr ⟨by omega, by rw [c]; rfl⟩
  · exact .inr ⟨by omega, by rw [c]; rfl⟩
  · exact .inl e

set_option maxHeartbeats 8000000 in
set_option maxRecDepth 100000 in
theorem l_solid (at0 : Option Addr) (l : List Sn) (c : Nat) (s : Sn) (y : Int) (w : World) (h : Sl Sn.enc 3 w (.slice at0 l.length c) l) :
    Calls Try.prog 7 #[.slice at0 l.length c, .agg #[.int .i64 s.lo, .int .i64 s.hi, .bool s.wk], .int .i64 y] w fun e w' => e = .returned (.bool true) ∧ New w w' := by
  have KW := Lib.hid (fun W => s_wakes W)
  have hlm : l.length ≤ maxLen := by obtain ⟨_, h1, h2, _⟩ := h.row'; omega
  have KP := Lib.hid (fun W n => k_put at0 l c s W (h.keep (n : New w W)))
  have KS := Lib.hid (fun W n => k_solid at0 l c hlm y W ((h.keep (n : New w W)).row'.2.2.2.2))
  have HR := Lib.hid h.row'.2.2.2.2
  clear h
  unfold maxLen at hlm
  obtain ⟨n, hn⟩ : ∃ n, n = l.length := ⟨_, rfl⟩
  rw [← hn] at hlm KP KS ⊢
  have HN := Lib.hid hn
  clear hn
  go_enter Try.func7, Try.ntmps7
  go_wp2_with fail
  refine Calls.at (fun W0 hW => ?_)
  have n0 : New w W0 := by subst hW; (repeat (first | (with_reducible exact New.refl _) | (with_reducible assumption) | ((with_reducible refine New.setB ?_ ?_ _); focus (first | omega | (simp; omega) | (simp; done))) | (with_reducible refine New.alloc ?_ _) | (with_reducible refine New.drew ?_) | (with_reducible refine New.drewN ?_ _) | (with_reducible refine New.hat ?_ _) | ((with_reducible apply New.snart); (with_reducible assumption))))
  have s0 : W0.cell? ⟨w.heap.size, 0, none⟩ = some (.int .i64 s.lo) := by subst hW; go_simp
  have s1 : W0.cell? ⟨w.heap.size, 1, none⟩ = some (.int .i64 s.hi) := by subst hW; go_simp
  clear hW
  refine (KP.out _ n0).mono ?_
  rintro e w1 hm
  obtain ⟨n1, R, a1, c1, r, hR, hRl, rfl, h1⟩ := hm.flat
  (replace s0 := n1.keep s0; replace s1 := n1.keep s1)
  have hn1 : New w w1 := n0.trans n1
  have hR8 : R.length ≤ maxLen := by unfold maxLen; omega
  have KS2 := Lib.hid (fun y W n => k_solid a1 R c1 hR8 y W ((h1.keep (n : New w1 W)).row'.2.2.2.2))
  have KC2 := Lib.hid (fun W n => k_check a1 R c1 hR8 W ((h1.keep (n : New w1 W)).row'.2.2.2.2))
  obtain ⟨m, hm'⟩ : ∃ m, m = R.length := ⟨_, rfl⟩
  rw [← hm'] at KS2 KC2 hRl ⊢
  have hr := hR.num
  rw [← hm'] at hr
  clear hm h1 n1 n0 hm' hR8
  rcases hr with rfl | ⟨hr0, hm0⟩
  rotate_left
  · have hrd : (r != 0) = true := by simpa using hr0
    subst hm0
    clear s0 s1 hr0 hR KS2 KC2
    go_wp2_with fail
    refine (KW.out _).mono ?_
    rintro e w2 ⟨rfl, n2⟩
    have hn2 : New w w2 := hn1.trans n2
    clear n2
    go_wp2_with fail
    go_ret
    exact ⟨rfl, hn2⟩
  · obtain ⟨hck, -, hl8, hy, hp⟩ := put_facts hR
    rw [hck] at KC2
    have hys := hy y
    have HP := Lib.hid hp
    rw [← HN.out] at hl8
    clear hck hy hp hR
    generalize fstB (hasS y) l = was at *
    obtain ⟨is, his⟩ : ∃ is, is = fstB (hasS y) R := ⟨_, rfl⟩
    have KY := Lib.hid (fun W n => KS2.out y W n)
    rw [← his] at KY hys
    clear his
    generalize fstI (hasS y) R = z2 at KY
    generalize fstI (hasS y) l = z1 at *
    have hsd : hasS y s = (decide (s.lo ≤ y) && decide (y ≤ s.hi)) := rfl
    rw [hsd] at hys
    obtain ⟨t1, ht1⟩ : ∃ t, decide (s.lo ≤ y) = t := ⟨_, rfl⟩
    obtain ⟨t2, ht2⟩ : ∃ t, decide (y ≤ s.hi) = t := ⟨_, rfl⟩
    rw [ht1, ht2] at hys
    clear hsd
    go_wp2_with fail
    refine (KS.out _ hn1).mono ?_
    rintro e w2 ⟨rfl, n2⟩
    have hn2 : New w w2 := hn1.trans n2
    have hm2 : New w1 w2 := n2
    (replace s0 := n2.keep s0; replace s1 := n2.keep s1)
    clear n2
    go_wp2_with fail
    refine (KY.out _ hm2).mono ?_
    rintro e w3 ⟨rfl, n3⟩
    have hn3 : New w w3 := hn2.trans n3
    have hm3 : New w1 w3 := hm2.trans n3
    (replace s0 := n3.keep s0; replace s1 := n3.keep s1)
    clear n3 hn2 hm2 hn1
    subst hys
    cases was <;> cases t1 <;> cases t2
    all_goals
      go_wp2_with fail
      refine (KC2.out _ hm3).mono ?_
      rintro e w4 ⟨rfl, n4⟩
      have hn4 : New w w4 := hn3.trans n4
      have hm4 : New w1 w4 := hm3.trans n4
      clear n4 hn3 hm3 s0 s1 KC2 KP KS KY ht1 ht2
      go_wp2_with fail
      go_loopg [13] n (fun gk s13 wr => ∃ i : Nat, s13 = .int .i64 i ∧ i ≤ n ∧ n - i ≤ gk ∧ Hid (New w wr) ∧ Hid (New w1 wr))
      case atStart => exact ⟨0, rfl, by omega, by omega, Lib.hid hn4, Lib.hid hm4⟩
      case round =>
        obtain ⟨i, rfl, hi, hgk, hnr, hmr⟩ := hrel
        clear hn4 hm4
        by_cases hlt : i < n
        · have hil : i < l.length := by rw [← HN.out]; exact hlt
          obtain ⟨be, oe, rfl, hB⟩ := HR.out (by omega)
          obtain ⟨e0, e1, e2⟩ := Sn.cells (hB.keep hnr.out) i hil
          obtain ⟨j, f1, f2, f3, f4⟩ := HP.out l[i] (List.getElem_mem hil)
          obtain ⟨E, hE⟩ : ∃ E, E = l[i] := ⟨_, rfl⟩
          rw [← hE] at e0 e1 e2 f1 f2 f3 f4
          have K1 := Lib.hid (fun W n => by have := KS2.out E.hi W n; rw [f1, f3] at this; exact this : ∀ W, New w1 W → Calls Try.prog 16 #[.slice a1 m c1, .int .i64 E.hi] W fun e w' => e = .returned (.tuple #[.int .i64 j, .bool true]) ∧ New W w')
          have K2 := Lib.hid (fun W n => by have := KS2.out E.lo W n; rw [f2, f4] at this; exact this : ∀ W, New w1 W → Calls Try.prog 16 #[.slice a1 m c1, .int .i64 E.lo] W fun e w' => e = .returned (.tuple #[.int .i64 j, .bool true]) ∧ New W w')
          clear hE hB f1 f2 f3 f4 e2
          go_wp2_with fail
          refine (K1.out _ hmr.out).mono ?_
          rintro e w5 ⟨rfl, n5⟩
          have hn5 := Lib.hid (hnr.out.trans n5)
          have hm5 := Lib.hid (hmr.out.trans n5)
          (replace e0 := n5.keep e0; replace e1 := n5.keep e1)
          clear n5
          go_wp2_with fail
          refine (K2.out _ hm5.out).mono ?_
          rintro e w6 ⟨rfl, n6⟩
          have hn6 := Lib.hid (hn5.out.trans n6)
          have hm6 := Lib.hid (hm5.out.trans n6)
          clear n6 e0 e1
          go_wp2_with fail
          go_roundg (n - (i + 1))
          case measure => omega
          case rel => exact ⟨i + 1, by go_num, by omega, by omega, hn6, hm6⟩
        · have e : i = n := by omega
          subst e
          go_wp2_with fail
          refine (KW.out _).mono ?_
          rintro e w5 ⟨rfl, n5⟩
          have hn5 := hnr.out.trans n5
          clear n5
          go_wp2_with fail
          go_ret
          exact ⟨rfl, hn5⟩

end Go.Proofs.Ytekdajoglekejaa
