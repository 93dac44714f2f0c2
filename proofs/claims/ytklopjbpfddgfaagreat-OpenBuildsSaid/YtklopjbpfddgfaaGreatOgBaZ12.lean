import Derived.Test.YtklopjbpfddgfaaGreatOgZZ12
import Derived.Test.YtklopjbpfddgfaaGreatRaGrZ12
import Derived.Deep.DeepCutAuto

/- The law OpenBuilds. -/
namespace Go.Proofs.YtklopjbpfddgfaaGreat
open Go.RowKit
set_option linter.unusedVariables false

theorem bF_small (C : CfgR) (l : List TriR) (x z wi d : Int) : smallL (bF C l x z wi d) := fun j h => by
  have hm : (bF C l x z wi d)[j] ∈ bF C l x z wi d := List.getElem_mem h
  generalize (bF C l x z wi d)[j] = q at *
  unfold bF at hm
  obtain ⟨r, -, rfl⟩ := List.mem_map.1 hm
  exact Nat.le_trans (flX_len8 C _) (by omega)
theorem nil_small : smallL [] := fun j h => absurd h (by simp)

set_option maxHeartbeats 8000000 in
set_option maxRecDepth 100000 in
theorem l_openBuilds (C : CfgR) (at0 : Option Addr) (l : List Sn) (cap : Nat) (at1 : Option Addr) (ts : List TriR) (tc : Nat) (x z wi d : Int) (w : World) (h : Sl Sn.enc 3 w (.slice at0 l.length cap) l) (h1 : Sl TriR.enc 10 w (.slice at1 ts.length tc) ts) :
    Calls Tryz.prog 3 #[.agg #[.int .i64 C.cl, .int .i64 C.cb, .int .i64 C.ht, .int .i64 C.ri, .int .i64 C.ru, .int .i64 C.wd, .int .i64 C.dp], .slice at0 l.length cap, .slice at1 ts.length tc, .int .i64 x, .int .i64 z, .int .i64 wi, .int .i64 d] w fun e w' => e = .returned (.bool true) ∧ New w w' := by
  have htl : ts.length ≤ maxLen := by obtain ⟨_, q1, q2, _⟩ := h1.row'; omega
  have KW := Lib.hid (fun W => og_wakes W)
  have KGr := Lib.hid (fun W => ra_great at1 ts.length tc htl W)
  have KF := Lib.hid (fun W n => og_Floors C at0 l cap W (h.keep (n : New w W)))
  have QF := Lib.hid (fun W n => rg_Floors C at0 l cap W (h.keep (n : New w W)))
  have KB := Lib.hid (fun W n => og_build C at1 ts tc htl x z wi d W ((h1.keep (n : New w W)).row'.2.2.2.2))
  have QB := Lib.hid (fun W n => rg_build C at1 ts tc htl x z wi d W ((h1.keep (n : New w W)).row'.2.2.2.2))
  have HSM := Lib.hid (bF_small C ts x z wi d)
  have hF8 := flX_len8 C l
  clear h h1 htl
  generalize bF C ts x z wi d = F at *
  generalize bE C ts x z wi d = er at *
  generalize flX C l = T at *
  generalize fiE C l = fe at *
  generalize l.length = n at *
  generalize ts.length = m at *
  go_enter Tryz.func3, Tryz.ntmps3
  go_upto_region 1 with fail
  refine Code.at (fun W0 hW => ?_)
  have n0 : New w W0 := by subst hW; (repeat (first | (with_reducible exact New.refl _) | (with_reducible assumption) | ((with_reducible refine New.setB ?_ ?_ _); focus (first | omega | (simp; omega) | (simp; done))) | (with_reducible refine New.alloc ?_ _) | (with_reducible refine New.drew ?_) | (with_reducible refine New.drewN ?_ _) | (with_reducible refine New.hat ?_ _) | ((with_reducible apply New.snart); (with_reducible assumption))))
  have hc : CellsAt W0 w.heap.size 0 C.enc := by subst hW; exact cells_new _ _ _
  clear hW
  have HC := Lib.hid (fun W (q : New W0 W) => CfgR.at (hc.keep q))
  have N0 := Lib.hid n0
  clear hc n0
  go_cut [45] (fun s45 Z => (∃ b : Bool, s45 = .bool b) ∧ New W0 Z)
  case first =>
    by_cases h40 : 40 < m
    · have hd : decide (40 < m) = true := decide_eq_true h40
      rw [hd] at KGr
      go_wp2_with fail
      refine (KGr.out _).mono ?_
      rintro e w1 ⟨rfl, n1⟩
      go_wp2_with fail
      all_goals
        go_meet
        exact ⟨⟨_, rfl⟩, n1⟩
    · have hd : decide (40 < m) = false := decide_eq_false h40
      rw [hd] at KGr
      go_wp2_with fail
      refine (KGr.out _).mono ?_
      rintro e w1 ⟨rfl, n1⟩
      go_wp2_with fail
      all_goals
        go_meet
        exact ⟨⟨_, rfl⟩, n1⟩
  case rest =>
    obtain ⟨⟨b, rfl⟩, n1⟩ := hcut
    cases b
    rotate_left
    · have nn := N0.out.trans n1
      go_wp2_with fail
      refine (KW.out _).mono ?_
      rintro e w2 ⟨rfl, n2⟩
      go_wp2_with fail
      go_ret
      exact ⟨rfl, nn.trans n2⟩
    have HN1 := Lib.hid n1
    obtain ⟨c0, c1, c2, c3, c4, c5, c6⟩ := HC.out _ n1
    clear n1
    go_wp2_with fail
    refine (KF.out _ (N0.out.trans HN1.out)).mono ?_
    rintro e w2 ⟨v2, rfl, ho2, n2⟩
    have hs2 : Sl Fl.enc 3 w2 v2 T := own_sl Fl.enc_len ho2
    obtain ⟨a2, d2, rfl, -⟩ := id hs2
    have HS2 := Lib.hid hs2
    have N2 := Lib.hid (HN1.out.trans n2)
    clear c0 c1 c2 c3 c4 c5 c6 ho2 hs2 n2
    obtain ⟨c0, c1, c2, c3, c4, c5, c6⟩ := HC.out _ N2.out
    go_wp2_with fail
    refine (QF.out _ (N0.out.trans N2.out)).mono ?_
    rintro e w3 ⟨v3, rfl, ho3, n3⟩
    have hs3 : Sl Fl.enc 3 w3 v3 T := own_sl Fl.enc_len ho3
    obtain ⟨a3, d3, rfl, -⟩ := id hs3
    have HS3 := Lib.hid (And.intro (HS2.out.keep n3) hs3)
    have N3 := Lib.hid (N2.out.trans n3)
    clear c0 c1 c2 c3 c4 c5 c6 ho3 hs3 n3
    obtain ⟨c0, c1, c2, c3, c4, c5, c6⟩ := HC.out _ N3.out
    go_wp2_with fail
    refine (KB.out _ (N0.out.trans N3.out)).mono ?_
    rintro e w4 ⟨G, rfl, hG, hg1, hg2, n4⟩
    have HS4 := Lib.hid (And.intro (HS3.out.1.keep n4) (HS3.out.2.keep n4))
    have N4 := Lib.hid (N3.out.trans n4)
    have HGf := Lib.hid (And.intro hg1 hg2)
    have HGo := Lib.hid hG
    clear c0 c1 c2 c3 c4 c5 c6 hg1 hg2 hG n4
    go_upto_region 6 with fail
    refine Code.at (fun W5 hW => ?_)
    have n5 : New w4 W5 := by subst hW; (repeat (first | (with_reducible exact New.refl _) | (with_reducible assumption) | ((with_reducible refine New.setB ?_ ?_ _); focus (first | omega | (simp; omega) | (simp; done))) | (with_reducible refine New.alloc ?_ _) | (with_reducible refine New.drew ?_) | (with_reducible refine New.drewN ?_ _) | (with_reducible refine New.hat ?_ _) | ((with_reducible apply New.snart); (with_reducible assumption))))
    have hgc : CellsAt W5 w4.heap.size 0 G.enc := by subst hW; exact cells_new _ _ _
    clear hW
    have N5 := Lib.hid (N4.out.trans n5)
    have HGC := Lib.hid (fun W (q : New W5 W) => Gd.at (hgc.keep q))
    have HGo5 := Lib.hid (HGo.out.keep n5)
    have HS5 := Lib.hid (And.intro (HS4.out.1.keep n5) (HS4.out.2.keep n5))
    clear hgc n5
    obtain ⟨c0, c1, c2, c3, c4, c5, c6⟩ := HC.out _ N5.out
    generalize w4.heap.size = PG at *
    go_wp2_with fail
    refine (QB.out _ (N0.out.trans N5.out)).mono ?_
    rintro e w6 ⟨O, rfl, hO, ho1, ho2, n6⟩
    have HOf := Lib.hid (And.intro ho1 ho2)
    have HOo := Lib.hid hO
    have N6 := Lib.hid n6
    clear c0 c1 c2 c3 c4 c5 c6 ho1 ho2 hO n6
    have hsame : Hid (sameG G O = true ∧ smallL G.L ∧ smallL O.L) := Lib.hid (by
      by_cases q : er = 0
      · obtain ⟨p1, p2, p3, p4, p5⟩ := HGf.out.1 q
        obtain ⟨r1, r2, r3, r4, r5⟩ := HOf.out.1 q
        refine ⟨?_, by rw [p5]; exact HSM.out, by rw [r5]; exact HSM.out⟩
        unfold sameG eqR
        rw [p1, p2, p3, p4, p5, r1, r2, r3, r4, r5]
        simp
      · obtain ⟨p1, p2, p3, p4, p5⟩ := HGf.out.2 q
        obtain ⟨r1, r2, r3, r4, r5⟩ := HOf.out.2 q
        refine ⟨?_, by rw [p5]; exact nil_small, by rw [r5]; exact nil_small⟩
        unfold sameG eqR
        rw [p1, p2, p3, p4, p5, r1, r2, r3, r4, r5]
        simp)
    have KS := Lib.hid (fun W p q => by have := rg_Same G O hsame.out.2.1 hsame.out.2.2 W p q; rw [hsame.out.1] at this; exact this : ∀ W, G.ok W → O.ok W → Calls Tryz.prog 12 #[.agg #[.int .i64 G.x, .int .i64 G.z, .int .i64 G.w, .int .i64 G.d, .slice G.ga G.L.length G.gc], .agg #[.int .i64 O.x, .int .i64 O.z, .int .i64 O.w, .int .i64 O.d, .slice O.ga O.L.length O.gc]] W fun e w' => e = .returned (.bool true) ∧ New W w')
    have KL := Lib.hid (fun u v W p q => by have := rg_floors_sl (l := T) (m := T) (by omega) (by omega) W p q; rw [(Fl.allEq_iff T T).2 rfl] at this; exact this : ∀ (u v : Value) W, Sl Fl.enc 3 W u T → Sl Fl.enc 3 W v T → Calls Tryz.prog 11 #[u, v] W fun e w' => e = .returned (.bool true) ∧ New W w')
    have HGo6 := Lib.hid (HGo5.out.keep N6.out)
    have HS6 := Lib.hid (And.intro (HS5.out.1.keep N6.out) (HS5.out.2.keep N6.out))
    have NW6 := Lib.hid (N0.out.trans (N5.out.trans N6.out))
    go_upto_region 7 with fail
    refine Code.at (fun W7 hW => ?_)
    have n7 : New w6 W7 := by subst hW; (repeat (first | (with_reducible exact New.refl _) | (with_reducible assumption) | ((with_reducible refine New.setB ?_ ?_ _); focus (first | omega | (simp; omega) | (simp; done))) | (with_reducible refine New.alloc ?_ _) | (with_reducible refine New.drew ?_) | (with_reducible refine New.drewN ?_ _) | (with_reducible refine New.hat ?_ _) | ((with_reducible apply New.snart); (with_reducible assumption))))
    have hoc : CellsAt W7 w6.heap.size 0 O.enc := by subst hW; exact cells_new _ _ _
    clear hW
    have HOC := Lib.hid (fun W (q : New W7 W) => Gd.at (hoc.keep q))
    have hsu := HS6.out.1.keep n7
    have hsv := HS6.out.2.keep n7
    have HGo7 := Lib.hid (HGo6.out.keep n7)
    have HOo7 := Lib.hid (HOo.out.keep n7)
    have N7 := Lib.hid (N6.out.trans n7)
    have NW7 := Lib.hid (NW6.out.trans n7)
    clear hoc n7
    generalize w6.heap.size = PO at *
    go_wp2_with fail
    refine (KL.out _ _ _ hsu hsv).mono ?_
    rintro e w8 ⟨rfl, n8⟩
    obtain ⟨g0, g1, g2, g3, g4⟩ := HGC.out _ (N7.out.trans n8)
    obtain ⟨o0, o1, o2, o3, o4⟩ := HOC.out _ n8
    have KS8 := Lib.hid (KS.out w8 (HGo7.out.keep n8) (HOo7.out.keep n8))
    have NW8 := Lib.hid (NW7.out.trans n8)
    clear hsu hsv n8
    go_wp2_with fail
    refine KS8.out.mono ?_
    rintro e w9 ⟨rfl, n9⟩
    have NW9 := Lib.hid (NW8.out.trans n9)
    clear g0 g1 g2 g3 g4 o0 o1 o2 o3 o4 n9
    go_wp2_with fail
    refine (KW.out _).mono ?_
    rintro e w10 ⟨rfl, n10⟩
    go_wp2_with fail
    go_ret
    exact ⟨rfl, NW9.out.trans n10⟩

end Go.Proofs.YtklopjbpfddgfaaGreat
