/- The law SpansAny of no pieces at all. -/
import Derived.Test.YtekdajoglekejaaSpZ
import Derived.Deep.LoopGhost
import Derived.Deep.DeepCutAuto
namespace Go.Proofs.Ytekdajoglekejaa
open Go.RowKit
set_option linter.unusedVariables false

/-- Merge of no pieces. -/
theorem k_none (v : Value) (w : World) (h : Sl Sn.enc 3 w v ([] : List Sn)) :
    Calls Try.prog 9 #[v] w fun e w' => New w w' ∧ ∃ (a : Option Addr) (c : Nat), e = .returned (.tuple #[.slice a 0 c, .int .i64 0]) ∧ Sl Sn.enc 3 w' (.slice a 0 c) ([] : List Sn) := by
  obtain ⟨a0, c0, rfl, h1⟩ := id h
  refine (k_merge a0 [] c0 (by simp) w h).mono ?_
  rintro e w' hm
  obtain ⟨n1, R, a, c, r, hR, hRl, rfl, hs⟩ := hm.flat
  obtain rfl : R = [] := List.eq_nil_of_length_eq_zero (by simpa using hRl)
  obtain ⟨_, rfl⟩ := hR.is (fun p hp => by simp at hp)
  exact ⟨n1, a, c, rfl, hs⟩
theorem sl_none {w : World} {v : Value} (h : Sl Sn.enc 3 w v ([] : List Sn)) : ∃ a c, v = .slice a 0 c ∧ Sl Sn.enc 3 w (.slice a 0 c) ([] : List Sn) := by
  obtain ⟨a, c, rfl, h1⟩ := id h
  exact ⟨a, c, rfl, h⟩

set_option maxHeartbeats 8000000 in
set_option maxRecDepth 100000 in
theorem l_any_none (bt0 : Option Addr) (o : List Int) (d : Nat) (cut y : Int) (w : World) (h' : Sl encI 1 w (.slice bt0 o.length d) o) :
    Calls Try.prog 5 #[.slice none 0 0, .slice bt0 o.length d, .int .i64 cut, .int .i64 y] w fun e w' => e = .returned (.bool true) ∧ New w w' := by
  obtain ⟨i0, hi, hz0, hz1, hz2⟩ := info_parts sn_info
  have HI := Lib.hid hi
  have HZ0 := Lib.hid hz0
  have HZ1 := Lib.hid hz1
  have HZ2 := Lib.hid hz2
  have KW := Lib.hid (fun W => s_wakes W)
  have KM := Lib.hid (fun v W h => k_none v W h)
  have KV := Lib.hid (fun W n => s_moved none bt0 [] o 0 d (by simp) W Sl.nil (h'.keep (n : New w W)))
  have HNIL : Hid (∀ W, Sl Sn.enc 3 W (.slice none 0 0) ([] : List Sn)) := Lib.hid (fun W => Sl.nil)
  clear h' hi hz0 hz1 hz2
  have hc : cut.tmod 1 = 0 := by rw [Int.tmod_one]
  go_enter Try.func5, Try.ntmps5
  go_wp2_with fail
  refine (KM.out _ _ (HNIL.out _)).mono ?_
  rintro e w1 ⟨n1, a1, c1, rfl, h1⟩
  have HN1 : New w w1 := n1
  have H1 := Lib.hid h1
  clear h1 n1
  go_wp2_with fail
  refine (KV.out _ HN1).mono ?_
  rintro e w2 ⟨m, v, rfl, hm, hp, n2⟩
  obtain rfl : m = [] := hp.eq_nil
  obtain ⟨a2, c2, rfl, hm2⟩ := sl_none hm
  have HM := Lib.hid hm2
  have HN2 := HN1.trans n2
  replace H1 := Lib.hid (H1.out.keep n2)
  clear hm hp n2 hm2 HN1
  go_wp2_with fail
  refine (KM.out _ _ HM.out).mono ?_
  rintro e w3 ⟨n3, a3, c3, rfl, h3⟩
  have H3 := Lib.hid h3
  have HN3 := HN2.trans n3
  replace H1 := Lib.hid (H1.out.keep n3)
  clear h3 n3 HN2
  go_wp2_with fail
  refine (KM.out _ _ (HNIL.out _)).mono ?_
  rintro e w4 ⟨n4, a4, c4, rfl, h4⟩
  have H4 := Lib.hid h4
  have HN4 := HN3.trans n4
  replace H1 := Lib.hid (H1.out.keep n4)
  replace H3 := Lib.hid (H3.out.keep n4)
  clear h4 n4 HN3
  go_wp2_with (at_builtin; refine wpList_append_sl rfl _ _ 22 rfl Sn.enc_len Sn.enc_one w4.heap.size 31 i0 (.agg #[.int .i64 0, .int .i64 0, .bool false]) 24 Try.underlying22 HI.out HZ0.out HZ1.out HZ2.out rfl (by decide) (.slice none 0 0) [] rfl (World.ownsRow_nil _ _ _ _) _ [] rfl H4.out (by unfold maxLen; simp) (by simp) (Nat.le_refl _) ?_)
  intro v5 W5 hown5 hnew5 _
  change W5.ownsRow _ _ _ _ ([] : List Sn).length (([] : List Sn).flatMap Sn.enc) at hown5
  have n5 : New w4 W5 := hnew5 w4 (New.refl _) (Nat.le_refl _)
  have OW5 := Lib.hid hown5
  have N45 := Lib.hid n5
  have hs5 : w4.heap.size ≤ W5.heap.size := n5.size
  clear hown5 hnew5 n5
  go_wp2_with (at_builtin; refine wpList_append_sl rfl _ _ 22 rfl Sn.enc_len Sn.enc_one w4.heap.size 31 i0 (.agg #[.int .i64 0, .int .i64 0, .bool false]) 24 Try.underlying22 HI.out HZ0.out HZ1.out HZ2.out rfl (by decide) v5 [] rfl OW5.out _ [] rfl (HNIL.out _) (by unfold maxLen; simp) (by simp) hs5 ?_)
  intro v6 W6 hown6 hnew6 _
  change W6.ownsRow _ _ _ _ ([] : List Sn).length (([] : List Sn).flatMap Sn.enc) at hown6
  have n6 : New w4 W6 := hnew6 w4 N45.out (Nat.le_refl _)
  have H6 := Lib.hid (own_sl Sn.enc_len hown6)
  have HN6 := HN4.trans n6
  replace H1 := Lib.hid (H1.out.keep n6)
  replace H3 := Lib.hid (H3.out.keep n6)
  clear hown6 hnew6 n6 hs5 HN4
  go_wp2_with fail
  refine (KM.out _ _ H6.out).mono ?_
  rintro e w7 ⟨n7, a7, c7, rfl, h7⟩
  have H7 := Lib.hid h7
  have HN7 := HN6.trans n7
  replace H1 := Lib.hid (H1.out.keep n7)
  replace H3 := Lib.hid (H3.out.keep n7)
  clear h7 n7 HN6
  go_wp2_with fail
  refine (KM.out _ _ H1.out).mono ?_
  rintro e w8 ⟨n8, a8, c8, rfl, h8⟩
  have HN8 := HN7.trans n8
  have KE1 := Lib.hid (fun W n => k_same a1 a3 [] [] c1 c3 (by simp) (by simp) W ((H1.out.keep n8).keep (n : New w8 W)) ((H3.out.keep n8).keep n))
  have KE2 := Lib.hid (fun W n => k_same a1 a7 [] [] c1 c7 (by simp) (by simp) W ((H1.out.keep n8).keep (n : New w8 W)) ((H7.out.keep n8).keep n))
  have KE3 := Lib.hid (fun W n => k_same a1 a8 [] [] c1 c8 (by simp) (by simp) W ((H1.out.keep n8).keep (n : New w8 W)) (h8.keep n))
  simp only [allEq_self, List.length_nil] at KE1 KE2 KE3
  clear h8 n8 HN7
  go_wp2_with fail
  refine (KE1.out _ (New.refl _)).mono ?_
  rintro e w9 ⟨rfl, n9⟩
  go_wp2_with fail
  refine (KE2.out _ n9).mono ?_
  rintro e wa ⟨rfl, na⟩
  have n9a := n9.trans na
  clear n9 na
  go_wp2_with fail
  refine (KE3.out _ n9a).mono ?_
  rintro e wb ⟨rfl, nb⟩
  have HN := HN8.trans (n9a.trans nb)
  clear n9a nb KE1 KE2 KE3 HN8
  go_wp2_with fail
  refine wp_loop_rounds 1 ?_
  rw [rounds_succ]
  go_wp2_with fail
  refine wp_loop_rounds 1 ?_
  rw [rounds_succ]
  go_wp2_with fail
  refine (KW.out _).mono ?_
  rintro e wc ⟨rfl, nc⟩
  have hn := HN.trans nc
  clear nc
  go_wp2_with fail
  go_ret
  exact ⟨rfl, hn⟩

end Go.Proofs.Ytekdajoglekejaa
