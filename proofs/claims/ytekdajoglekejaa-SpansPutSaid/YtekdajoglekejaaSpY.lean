/- The laws SpansMerge and SpansPut. -/
import Derived.Test.YtekdajoglekejaaSpX
import Derived.Deep.DeepCutAuto
namespace Go.Proofs.Ytekdajoglekejaa
open Go.RowKit
set_option linter.unusedVariables false

set_option maxHeartbeats 4000000 in
set_option maxRecDepth 100000 in
theorem l_merge (at0 : Option Addr) (l : List Sn) (c : Nat) (w : World) (h : Sl Sn.enc 3 w (.slice at0 l.length c) l) :
    Calls Try.prog 3 #[.slice at0 l.length c] w fun e w' => e = .returned (.bool true) ∧ New w w' := by
  have KW := Lib.hid (fun W => s_wakes W)
  have hlm : l.length ≤ maxLen := by obtain ⟨_, h1, h2, _⟩ := h.row'; omega
  have HS := Lib.hid (fun W n => h.keep (n : New w W))
  have KC := Lib.hid (fun W n => k_check at0 l c hlm W ((h.keep (n : New w W)).row'.2.2.2.2))
  have RC := Lib.hid (fun W n => r_check at0 l c hlm W ((h.keep (n : New w W)).row'.2.2.2.2))
  have KM := Lib.hid (fun hl W n => k_merge at0 l c hl W (h.keep (n : New w W)))
  have RM := Lib.hid (fun hl W n => r_merge at0 l c hl W (h.keep (n : New w W)))
  clear h
  unfold maxLen at hlm
  generalize chkE l = ck at *
  go_enter Try.func3, Try.ntmps3
  go_wp2_with fail
  · rename_i hl
    refine (KW.out _).mono ?_
    rintro e w1 ⟨rfl, n1⟩
    have hn := New.trans (by (repeat (first | (with_reducible exact New.refl _) | (with_reducible assumption) | ((with_reducible refine New.setB ?_ ?_ _); focus (first | omega | (simp; omega) | (simp; done))) | (with_reducible refine New.alloc ?_ _) | (with_reducible refine New.drew ?_) | (with_reducible refine New.drewN ?_ _) | (with_reducible refine New.hat ?_ _) | ((with_reducible apply New.snart); (with_reducible assumption)))) : New w _) n1
    clear n1
    go_wp2_with fail
    go_ret
    exact ⟨rfl, hn⟩
  · rename_i hl
    refine (KM.out (by omega) _ (by (repeat (first | (with_reducible exact New.refl _) | (with_reducible assumption) | ((with_reducible refine New.setB ?_ ?_ _); focus (first | omega | (simp; omega) | (simp; done))) | (with_reducible refine New.alloc ?_ _) | (with_reducible refine New.drew ?_) | (with_reducible refine New.drewN ?_ _) | (with_reducible refine New.hat ?_ _) | ((with_reducible apply New.snart); (with_reducible assumption)))))).mono ?_
    rintro e w1 hm
    obtain ⟨n1, R, a1, c1, r, hR, hRl, rfl, h1⟩ := hm.flat
    have H1 := Lib.hid (And.intro hR h1)
    have hR8 : R.length ≤ 1000 := by omega
    clear hm hR h1
    go_wp2_with fail
    refine (RM.out (by omega) _ n1).mono ?_
    rintro e w2 hm
    obtain ⟨n2, R', a2, c2, r', hR', hRl', rfl, h2⟩ := hm.flat
    obtain ⟨e1, e2⟩ := hR'.uniq H1.out.1
    subst e1 e2
    have hn2 : New w w2 := n1.trans n2
    have RS := Lib.hid (fun W n => r_same a1 a2 R' R' c1 c2 hR8 hR8 W ((H1.out.2.keep n2).keep (n : New w2 W)) (h2.keep n))
    simp only [allEq_self] at RS
    clear hm hR' h2 H1 n1 n2
    go_wp2_with fail
    refine (RS.out _ (by (repeat (first | (with_reducible exact New.refl _) | (with_reducible assumption) | ((with_reducible refine New.setB ?_ ?_ _); focus (first | omega | (simp; omega) | (simp; done))) | (with_reducible refine New.alloc ?_ _) | (with_reducible refine New.drew ?_) | (with_reducible refine New.drewN ?_ _) | (with_reducible refine New.hat ?_ _) | ((with_reducible apply New.snart); (with_reducible assumption)))))).mono ?_
    rintro e w3 ⟨rfl, n3⟩
    have hn3 : New w w3 := hn2.trans n3
    clear hn2 n3
    go_wp2_with fail
    refine (KC.out _ hn3).mono ?_
    rintro e w4 ⟨rfl, n4⟩
    have hn4 : New w w4 := hn3.trans n4
    clear hn3 n4
    go_wp2_with fail
    refine (RC.out _ hn4).mono ?_
    rintro e w5 ⟨rfl, n5⟩
    have hn5 : New w w5 := hn4.trans n5
    clear hn4 n5
    go_wp2_with fail
    refine (KW.out _).mono ?_
    rintro e w6 ⟨rfl, n6⟩
    have hn6 : New w w6 := hn5.trans n6
    clear hn5 n6
    go_wp2_with fail
    go_ret
    exact ⟨rfl, hn6⟩

set_option maxHeartbeats 4000000 in
set_option maxRecDepth 100000 in
theorem l_put (at0 bt0 : Option Addr) (l m : List Sn) (c d : Nat) (s : Sn) (y : Int) (w : World) (h : Sl Sn.enc 3 w (.slice at0 l.length c) l) (h' : Sl Sn.enc 3 w (.slice bt0 m.length d) m) :
    Calls Try.prog 4 #[.slice at0 l.length c, .slice bt0 m.length d, .agg #[.int .i64 s.lo, .int .i64 s.hi, .bool s.wk], .int .i64 y] w fun e w' => e = .returned (.bool true) ∧ New w w' := by
  have KW := Lib.hid (fun W => s_wakes W)
  have hlm : l.length ≤ maxLen := by obtain ⟨_, h1, h2, _⟩ := h.row'; omega
  have hmm : m.length ≤ maxLen := by obtain ⟨_, h1, h2, _⟩ := h'.row'; omega
  have KP := Lib.hid (fun W n => k_put at0 l c s W (h.keep (n : New w W)))
  have RP := Lib.hid (fun W n => r_Put at0 l c s W (h.keep (n : New w W)))
  have KS := Lib.hid (fun W n => k_solid at0 l c hlm y W ((h.keep (n : New w W)).row'.2.2.2.2))
  have RS := Lib.hid (fun W n => r_solid at0 l c hlm y W ((h.keep (n : New w W)).row'.2.2.2.2))
  have KE := Lib.hid (fun h1 h2 W n => k_same at0 bt0 l m c d h1 h2 W (h.keep (n : New w W)) (h'.keep n))
  have RE := Lib.hid (fun h1 h2 W n => r_same at0 bt0 l m c d h1 h2 W (h.keep (n : New w W)) (h'.keep n))
  clear h h'
  unfold maxLen at hlm hmm
  generalize Sn.allEq l m = eq at *
  generalize fstI (hasS y) l = z at *
  generalize fstB (hasS y) l = b at *
  go_enter Try.func4, Try.ntmps4
  go_wp2_with fail
  · rename_i h1 h2
    refine (KW.out _).mono ?_
    rintro e w1 ⟨rfl, n1⟩
    have hn := New.trans (by (repeat (first | (with_reducible exact New.refl _) | (with_reducible assumption) | ((with_reducible refine New.setB ?_ ?_ _); focus (first | omega | (simp; omega) | (simp; done))) | (with_reducible refine New.alloc ?_ _) | (with_reducible refine New.drew ?_) | (with_reducible refine New.drewN ?_ _) | (with_reducible refine New.hat ?_ _) | ((with_reducible apply New.snart); (with_reducible assumption)))) : New w _) n1
    clear n1
    go_wp2_with fail
    go_ret
    exact ⟨rfl, hn⟩
  · rename_i h1 h2
    refine Calls.at (fun W0 hW => ?_)
    have n0 : New w W0 := by subst hW; (repeat (first | (with_reducible exact New.refl _) | (with_reducible assumption) | ((with_reducible refine New.setB ?_ ?_ _); focus (first | omega | (simp; omega) | (simp; done))) | (with_reducible refine New.alloc ?_ _) | (with_reducible refine New.drew ?_) | (with_reducible refine New.drewN ?_ _) | (with_reducible refine New.hat ?_ _) | ((with_reducible apply New.snart); (with_reducible assumption))))
    have s0 : W0.cell? ⟨w.heap.size, 0, none⟩ = some (.int .i64 s.lo) := by subst hW; go_simp
    have s1 : W0.cell? ⟨w.heap.size, 1, none⟩ = some (.int .i64 s.hi) := by subst hW; go_simp
    have s2 : W0.cell? ⟨w.heap.size, 2, none⟩ = some (.bool s.wk) := by subst hW; go_simp
    clear hW
    refine (KP.out _ n0).mono ?_
    rintro e w1 hm
    obtain ⟨n1, R, a1, c1, r, hR, hRl, rfl, g1⟩ := hm.flat
    have hn1 : New w w1 := n0.trans n1
    (replace s0 := n1.keep s0; replace s1 := n1.keep s1; replace s2 := n1.keep s2)
    have H1 := Lib.hid (And.intro hR g1)
    have hR8 : R.length ≤ 1000 := by omega
    clear hm hR g1 n1 n0
    go_wp2_with fail
    refine (RP.out _ hn1).mono ?_
    rintro e w2 hm
    obtain ⟨n2, R', a2, c2, r', hR', hRl', rfl, g2⟩ := hm.flat
    obtain ⟨e1, e2⟩ := hR'.uniq H1.out.1
    subst e1 e2
    have hn2 : New w w2 := hn1.trans n2
    have RQ := Lib.hid (fun W n => r_same a1 a2 R' R' c1 c2 hR8 hR8 W ((H1.out.2.keep n2).keep (n : New w2 W)) (g2.keep n))
    simp only [allEq_self] at RQ
    clear hm hR' g2 H1 n2 hn1 s0 s1 s2
    go_wp2_with fail
    refine (KS.out _ hn2).mono ?_
    rintro e w3 ⟨rfl, n3⟩
    have hn3 : New w w3 := hn2.trans n3
    have hm3 := n3
    clear n3 hn2
    go_wp2_with fail
    refine (RS.out _ hn3).mono ?_
    rintro e w4 ⟨rfl, n4⟩
    have hn4 : New w w4 := hn3.trans n4
    have hm4 := hm3.trans n4
    clear n4 hn3 hm3
    go_wp2_with fail
    refine (RQ.out _ hm4).mono ?_
    rintro e w5 ⟨rfl, n5⟩
    have hn5 : New w w5 := hn4.trans n5
    clear n5 hn4 hm4
    go_wp2_with fail
    refine (KE.out (by omega) (by omega) _ hn5).mono ?_
    rintro e w6 ⟨rfl, n6⟩
    have hn6 : New w w6 := hn5.trans n6
    clear n6 hn5
    go_wp2_with fail
    refine (RE.out (by omega) (by omega) _ hn6).mono ?_
    rintro e w7 ⟨rfl, n7⟩
    have hn7 : New w w7 := hn6.trans n7
    clear n7 hn6
    go_wp2_with fail
    refine (KW.out _).mono ?_
    rintro e w8 ⟨rfl, n8⟩
    have hn8 : New w w8 := hn7.trans n8
    clear n8 hn7
    go_wp2_with fail
    go_ret
    exact ⟨rfl, hn8⟩
  · rename_i h1
    refine (KW.out _).mono ?_
    rintro e w1 ⟨rfl, n1⟩
    have hn := New.trans (by (repeat (first | (with_reducible exact New.refl _) | (with_reducible assumption) | ((with_reducible refine New.setB ?_ ?_ _); focus (first | omega | (simp; omega) | (simp; done))) | (with_reducible refine New.alloc ?_ _) | (with_reducible refine New.drew ?_) | (with_reducible refine New.drewN ?_ _) | (with_reducible refine New.hat ?_ _) | ((with_reducible apply New.snart); (with_reducible assumption)))) : New w _) n1
    clear n1
    go_wp2_with fail
    go_ret
    exact ⟨rfl, hn⟩

end Go.Proofs.Ytekdajoglekejaa
