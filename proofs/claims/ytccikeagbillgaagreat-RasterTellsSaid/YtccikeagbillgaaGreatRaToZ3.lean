import Derived.Test.YtccikeagbillgaaGreatSpXZ3
import Derived.Test.YtccikeagbillgaaGreatRaUZ3

/- Package raster: Touch. -/
namespace Go.Proofs.YtccikeagbillgaaGreat
open Go.RowKit Go.Sort
set_option linter.unusedVariables false

/-- Has a triangle a piece over the box? -/
def tchB (C : CfgR) (b : Bx) (T : TriR) : Bool := !(elAll C T b).isEmpty
def tchL (C : CfgR) (l : List TriR) (x z wi d : Int) : List TriR := if rchk C l = 0 ∧ boxB x z wi d = true then l.filter (tchB C ⟨x, z, wi, d⟩) else []
theorem tch_no {C : CfgR} {l : List TriR} {x z wi d : Int} (h : rchk C l ≠ 0 ∨ boxB x z wi d = false) : tchL C l x z wi d = [] := by
  unfold tchL
  rw [if_neg]
  rintro ⟨h1, h2⟩
  rcases h with h | h
  · exact h h1
  · rw [h] at h2; cases h2
theorem tch_yes {C : CfgR} {l : List TriR} {x z wi d : Int} (h : rchk C l = 0) (hb : boxB x z wi d = true) : tchL C l x z wi d = l.filter (tchB C ⟨x, z, wi, d⟩) := by
  unfold tchL
  rw [if_pos ⟨h, hb⟩]

set_option maxHeartbeats 2000000 in
set_option maxRecDepth 100000 in
theorem r_touch (C : CfgR) (at0 : Option Addr) (l : List TriR) (cap : Nat) (hl : l.length ≤ maxLen) (x z wi d : Int) (w : World) (H : RowIn TriR.enc 10 w at0 l) :
    Calls Tryz.prog 15 #[.agg #[.int .i64 C.cl, .int .i64 C.cb, .int .i64 C.ht, .int .i64 C.ri, .int .i64 C.ru, .int .i64 C.wd, .int .i64 C.dp], .slice at0 l.length cap, .int .i64 x, .int .i64 z, .int .i64 wi, .int .i64 d] w fun e w' =>
      ∃ v, e = .returned v ∧ Sl TriR.enc 10 w' v (tchL C l x z wi d) ∧ New w w' := by
  have HC := Lib.hid (fun W (n : New w W) => c_check C at0 l cap hl W (H.keep n))
  have KM := Lib.hid (fun W => a_may x z wi d W)
  have HH := Lib.hid (fun W (n : New w W) => H.keep n)
  obtain ⟨ev, hev⟩ : ∃ ev, ev = rchk C l := ⟨_, rfl⟩
  rw [← hev] at HC
  by_cases h0 : ev = 0
  · have h0' : rchk C l = 0 := by rw [← hev]; exact h0
    subst h0
    obtain ⟨k1, k2, k3⟩ := rchk_zero h0'
    cases hb : boxB x z wi d
    · rw [hb] at KM
      rw [tch_no (.inr hb)]
      clear k1 k2 k3 hb h0'
      go_enter Tryz.func15, Tryz.ntmps15
      go_wp2_with fail
      generalize hW : World.alloc (World.alloc _ _) _ = W1
      have n1 : New w W1 := by subst hW; (repeat (first | (with_reducible exact New.refl _) | (with_reducible assumption) | ((with_reducible refine New.setB ?_ ?_ _); focus (first | omega | (simp; omega) | (simp; done))) | (with_reducible refine New.alloc ?_ _) | (with_reducible refine New.drew ?_) | (with_reducible refine New.drewN ?_ _) | (with_reducible refine New.hat ?_ _) | ((with_reducible apply New.snart); (with_reducible assumption))))
      have hC1 : W1.heap[w.heap.size]? = some (.cells (cfgA C) 23 (0, 0)) := by subst hW; exact ((New.refl _).alloc _).blk (World.alloc_heap_new w _)
      have hB1 : W1.heap[w.heap.size + 1]? = some (.cells (boxA ⟨x, z, wi, d⟩) 54 (0, 0)) := by
        subst hW
        have h := World.alloc_heap_new (w.alloc (.cells (cfgA C) 23)) (.cells (boxA ⟨x, z, wi, d⟩) 54)
        rw [World.size_alloc] at h
        exact h
      clear hW
      refine (HC.out _ n1).mono ?_
      rintro e w2 ⟨rfl, n2⟩
      obtain ⟨b0, b1, b2, b3⟩ := box_cs (n2.blk hB1)
      go_wp2_with fail
      refine (KM.out _).mono ?_
      rintro e w3 ⟨rfl, n3⟩
      clear b0 b1 b2 b3
      have N3 := Lib.hid (n1.trans (n2.trans n3))
      clear n1 n2 n3 hC1 hB1
      go_wp2_with fail
      refine bodyPost_ret (v := .slice none 0 0) (by simp [results, Tryz.results15, go_sem, *]) rfl ?_
      exact ⟨_, rfl, Sl.nil, N3.out⟩
    · rw [hb] at KM
      rw [tch_yes h0' hb]
      have KO := Lib.hid (fun T hT W => callsIn_wide.1 (o_over C (CfgR.fine_of k1) T (mayT_ok (CfgR.fine_of k1) (k3 T hT)) ⟨x, z, wi, d⟩ (bx_ok hb) W))
      obtain ⟨i0, hi0, hz0, hz1, hz2⟩ := info_parts tri_info
      clear k1 k3 hb h0'
      go_enter Tryz.func15, Tryz.ntmps15
      go_wp2_with fail
      generalize hW : World.alloc (World.alloc _ _) _ = W1
      have n1 : New w W1 := by subst hW; (repeat (first | (with_reducible exact New.refl _) | (with_reducible assumption) | ((with_reducible refine New.setB ?_ ?_ _); focus (first | omega | (simp; omega) | (simp; done))) | (with_reducible refine New.alloc ?_ _) | (with_reducible refine New.drew ?_) | (with_reducible refine New.drewN ?_ _) | (with_reducible refine New.hat ?_ _) | ((with_reducible apply New.snart); (with_reducible assumption))))
      have hC1 : W1.heap[w.heap.size]? = some (.cells (cfgA C) 23 (0, 0)) := by subst hW; exact ((New.refl _).alloc _).blk (World.alloc_heap_new w _)
      have hB1 : W1.heap[w.heap.size + 1]? = some (.cells (boxA ⟨x, z, wi, d⟩) 54 (0, 0)) := by
        subst hW
        have h := World.alloc_heap_new (w.alloc (.cells (cfgA C) 23)) (.cells (boxA ⟨x, z, wi, d⟩) 54)
        rw [World.size_alloc] at h
        exact h
      clear hW
      refine (HC.out _ n1).mono ?_
      rintro e w2 ⟨rfl, n2⟩
      obtain ⟨b0, b1, b2, b3⟩ := box_cs (n2.blk hB1)
      go_wp2_with fail
      refine (KM.out _).mono ?_
      rintro e w3 ⟨rfl, n3⟩
      clear b0 b1 b2 b3
      have N3 := Lib.hid (n1.trans (n2.trans n3))
      have H3 := Lib.hid (And.intro (n3.blk (n2.blk hC1)) (n3.blk (n2.blk hB1)))
      clear n1 n2 n3 hC1 hB1
      go_wp2_with fail
      go_loopg [14, 33] l.length (fun k own s wr => ∃ i : Nat, s = .int .i64 i ∧ i + k = l.length ∧ Hid (wr.ownsRow w3.heap.size 43 10 own ((l.take i).filter (tchB C ⟨x, z, wi, d⟩)).length (((l.take i).filter (tchB C ⟨x, z, wi, d⟩)).flatMap TriR.enc)) ∧ Hid (New w3 wr))
      case atStart => exact ⟨0, by simp, by omega, Lib.hid (World.ownsRow_nil _ _ _ _), Lib.hid (New.refl _)⟩
      case round =>
        obtain ⟨i, rfl, hik, HO, HN⟩ := hrel
        by_cases hlt : i < l.length
        · obtain ⟨b0, off, rfl, hA⟩ := HH.out w (New.refl _) (by omega)
          have hnw := N3.out.trans HN.out
          obtain ⟨d0, d1, d2, d3, d4, d5, d6, d7, d8, d9⟩ := TriR.cells (hA.keep hnw) i hlt
          obtain ⟨c0, c1, c2, c3, c4, c5, c6⟩ := cfg_cs (HN.out.blk H3.out.1)
          obtain ⟨e0, e1, e2, e3⟩ := box_cs (HN.out.blk H3.out.2)
          have lz := World.block_lt_of_cell? _ _ c0
          have lz2 := World.block_lt_of_cell? _ _ e0
          have KO1 := fun W => KO.out l[i] (List.getElem_mem hlt) W
          have htk : l.take (i + 1) = l.take i ++ [l[i]] := by rw [List.take_add_one, List.getElem?_eq_getElem hlt]; rfl
          have hown : (l.take (i + 1)).filter (tchB C ⟨x, z, wi, d⟩) = (l.take i).filter (tchB C ⟨x, z, wi, d⟩) ++ (if tchB C ⟨x, z, wi, d⟩ l[i] then [l[i]] else []) := by
            rw [htk, List.filter_append]
            congr 1
            simp [List.filter_cons]
          have hle : ((l.take i).filter (tchB C ⟨x, z, wi, d⟩)).length ≤ 200 := Nat.le_trans (List.length_filter_le _ _) (by rw [List.length_take]; omega)
          clear hA hnw htk
          have hob : (!(elAll C l[i] ⟨x, z, wi, d⟩).isEmpty) = tchB C ⟨x, z, wi, d⟩ l[i] := rfl
          rw [hob] at KO1
          clear hob
          generalize l[i] = T at *
          cases ho : tchB C ⟨x, z, wi, d⟩ T
          · rw [ho] at hown KO1
            simp only [Bool.false_eq_true, if_false, List.append_nil] at hown
            have HA := Lib.hid hown
            replace KO1 := Lib.hid KO1
            clear hown ho
            go_wp2_with fail
            generalize hW : World.alloc _ _ = W3
            have n3 : New wr W3 := by subst hW; (repeat (first | (with_reducible exact New.refl _) | (with_reducible assumption) | ((with_reducible refine New.setB ?_ ?_ _); focus (first | omega | (simp; omega) | (simp; done))) | (with_reducible refine New.alloc ?_ _) | (with_reducible refine New.drew ?_) | (with_reducible refine New.drewN ?_ _) | (with_reducible refine New.hat ?_ _) | ((with_reducible apply New.snart); (with_reducible assumption))))
            have q0 : W3.cell? ⟨wr.heap.size, 0, none⟩ = some (.int .i64 T.i) := by subst hW; go_simp
            have q1 : W3.cell? ⟨wr.heap.size, 1, none⟩ = some (.int .i64 T.x0) := by subst hW; go_simp
            have q2 : W3.cell? ⟨wr.heap.size, 2, none⟩ = some (.int .i64 T.y0) := by subst hW; go_simp
            have q3 : W3.cell? ⟨wr.heap.size, 3, none⟩ = some (.int .i64 T.z0) := by subst hW; go_simp
            have q4 : W3.cell? ⟨wr.heap.size, 4, none⟩ = some (.int .i64 T.x1) := by subst hW; go_simp
            have q5 : W3.cell? ⟨wr.heap.size, 5, none⟩ = some (.int .i64 T.y1) := by subst hW; go_simp
            have q6 : W3.cell? ⟨wr.heap.size, 6, none⟩ = some (.int .i64 T.z1) := by subst hW; go_simp
            have q7 : W3.cell? ⟨wr.heap.size, 7, none⟩ = some (.int .i64 T.x2) := by subst hW; go_simp
            have q8 : W3.cell? ⟨wr.heap.size, 8, none⟩ = some (.int .i64 T.y2) := by subst hW; go_simp
            have q9 : W3.cell? ⟨wr.heap.size, 9, none⟩ = some (.int .i64 T.z2) := by subst hW; go_simp
            clear hW d0 d1 d2 d3 d4 d5 d6 d7 d8 d9 c0 c1 c2 c3 c4 c5 c6 e0 e1 e2 e3
            refine (KO1.out _).mono ?_
            rintro e w5 ⟨rfl, n5⟩
            have N5 := Lib.hid (n3.trans n5)
            clear n3 n5 q0 q1 q2 q3 q4 q5 q6 q7 q8 q9
            go_wp2_with fail
            go_roundg (gk - 1)
            case measure => omega
            case rel => exact ⟨i + 1, by go_num, by omega, Lib.hid (by rw [HA.out]; exact own_new HO.out N5.out), Lib.hid (HN.out.trans N5.out)⟩
          · rw [ho] at hown KO1
            simp only [if_true] at hown
            have hlen : ((l.take i).filter (tchB C ⟨x, z, wi, d⟩) ++ [T]).length = ((l.take i).filter (tchB C ⟨x, z, wi, d⟩)).length + 1 := by rw [List.length_append]; rfl
            have hfl : ((l.take i).filter (tchB C ⟨x, z, wi, d⟩) ++ [T]).flatMap TriR.enc = ((l.take i).filter (tchB C ⟨x, z, wi, d⟩)).flatMap TriR.enc ++ T.enc := by rw [List.flatMap_append]; simp
            have HA := Lib.hid (And.intro hown (And.intro hlen hfl))
            replace KO1 := Lib.hid KO1
            clear hown ho hlen hfl
            go_wp2_with fail
            generalize hW : World.alloc _ _ = W3
            have n3 : New wr W3 := by subst hW; (repeat (first | (with_reducible exact New.refl _) | (with_reducible assumption) | ((with_reducible refine New.setB ?_ ?_ _); focus (first | omega | (simp; omega) | (simp; done))) | (with_reducible refine New.alloc ?_ _) | (with_reducible refine New.drew ?_) | (with_reducible refine New.drewN ?_ _) | (with_reducible refine New.hat ?_ _) | ((with_reducible apply New.snart); (with_reducible assumption))))
            have q0 : W3.cell? ⟨wr.heap.size, 0, none⟩ = some (.int .i64 T.i) := by subst hW; go_simp
            have q1 : W3.cell? ⟨wr.heap.size, 1, none⟩ = some (.int .i64 T.x0) := by subst hW; go_simp
            have q2 : W3.cell? ⟨wr.heap.size, 2, none⟩ = some (.int .i64 T.y0) := by subst hW; go_simp
            have q3 : W3.cell? ⟨wr.heap.size, 3, none⟩ = some (.int .i64 T.z0) := by subst hW; go_simp
            have q4 : W3.cell? ⟨wr.heap.size, 4, none⟩ = some (.int .i64 T.x1) := by subst hW; go_simp
            have q5 : W3.cell? ⟨wr.heap.size, 5, none⟩ = some (.int .i64 T.y1) := by subst hW; go_simp
            have q6 : W3.cell? ⟨wr.heap.size, 6, none⟩ = some (.int .i64 T.z1) := by subst hW; go_simp
            have q7 : W3.cell? ⟨wr.heap.size, 7, none⟩ = some (.int .i64 T.x2) := by subst hW; go_simp
            have q8 : W3.cell? ⟨wr.heap.size, 8, none⟩ = some (.int .i64 T.y2) := by subst hW; go_simp
            have q9 : W3.cell? ⟨wr.heap.size, 9, none⟩ = some (.int .i64 T.z2) := by subst hW; go_simp
            clear hW d0 d1 d2 d3 d4 d5 d6 d7 d8 d9 c0 c1 c2 c3 c4 c5 c6 e0 e1 e2 e3
            refine (KO1.out _).mono ?_
            rintro e w5 ⟨rfl, n5⟩
            replace q0 := n5.keep q0
            replace q1 := n5.keep q1
            replace q2 := n5.keep q2
            replace q3 := n5.keep q3
            replace q4 := n5.keep q4
            replace q5 := n5.keep q5
            replace q6 := n5.keep q6
            replace q7 := n5.keep q7
            replace q8 := n5.keep q8
            replace q9 := n5.keep q9
            have N5 := Lib.hid (n3.trans n5)
            have HO6 := Lib.hid ((own_new HO.out (n3.trans n5)).alloc (.cells (triA T) 43))
            have hb5 : w3.heap.size ≤ w5.heap.size := by
              have := HN.out.size
              have := N5.out.size
              omega
            clear n3 n5
            go_wp2_with (at_builtin; refine wpList_append_own _ rfl _ _ 24 rfl w3.heap.size 43 i0 (.agg #[.int .i64 0, .int .i64 0, .int .i64 0, .int .i64 0, .int .i64 0, .int .i64 0, .int .i64 0, .int .i64 0, .int .i64 0, .int .i64 0]) 10 80 Tryz.underlying24 hi0 hz0 hz1 hz2 rfl (by decide) _ _ _ rfl HO6.out ⟨w5.heap.size, 0, none⟩ 1 1 T.enc rfl rfl (new_add w5 (triA T) 43) (TriR.enc_one _) (by unfold maxLen; omega) (by omega) (by simp; omega) ?_; intro v' w6 hown' hgrow _)
            go_roundg (gk - 1)
            case measure => omega
            case rel =>
              refine ⟨i + 1, by go_num, by omega, Lib.hid ?_, Lib.hid ?_⟩
              · rw [HA.out.1, HA.out.2.1, HA.out.2.2]
                exact hown'
              · exact newGrown (HN.out.trans (N5.out.trans ((New.refl w5).alloc _))) hgrow (fun k hk => (HO.out.lt k hk).1)
        · obtain rfl : i = l.length := by omega
          have hOO := HO.out
          rw [List.take_length] at hOO
          obtain ⟨oa, oc, on, hon, rfl⟩ := own_shape2 hOO
          have HOS := Lib.hid (own_sl TriR.enc_len hOO)
          clear hOO hon
          go_wp2_with fail
          refine bodyPost_ret (v := .slice oa on oc) (by simp [results, Tryz.results15, go_sem, *]) rfl ?_
          exact ⟨_, rfl, HOS.out, N3.out.trans HN.out⟩
  · have h0' : rchk C l ≠ 0 := by rw [← hev]; exact h0
    rw [tch_no (.inl h0')]
    clear h0' hev
    have hb : (ev == 0) = false := by rw [beq_eq_false_iff_ne]; exact h0
    have hb2 : (ev != 0) = true := by rw [bne_iff_ne]; exact h0
    go_enter Tryz.func15, Tryz.ntmps15
    go_wp2_with fail
    generalize hW : World.alloc (World.alloc _ _) _ = W1
    have n1 : New w W1 := by subst hW; (repeat (first | (with_reducible exact New.refl _) | (with_reducible assumption) | ((with_reducible refine New.setB ?_ ?_ _); focus (first | omega | (simp; omega) | (simp; done))) | (with_reducible refine New.alloc ?_ _) | (with_reducible refine New.drew ?_) | (with_reducible refine New.drewN ?_ _) | (with_reducible refine New.hat ?_ _) | ((with_reducible apply New.snart); (with_reducible assumption))))
    have hC1 : W1.heap[w.heap.size]? = some (.cells (cfgA C) 23 (0, 0)) := by subst hW; exact ((New.refl _).alloc _).blk (World.alloc_heap_new w _)
    have hB1 : W1.heap[w.heap.size + 1]? = some (.cells (boxA ⟨x, z, wi, d⟩) 54 (0, 0)) := by
      subst hW
      have h := World.alloc_heap_new (w.alloc (.cells (cfgA C) 23)) (.cells (boxA ⟨x, z, wi, d⟩) 54)
      rw [World.size_alloc] at h
      exact h
    clear hW
    refine (HC.out _ n1).mono ?_
    rintro e w2 ⟨rfl, n2⟩
    have N3 := Lib.hid (n1.trans n2)
    clear n1 n2 hC1 hB1
    go_wp2_with fail
    refine bodyPost_ret (v := .slice none 0 0) (by simp [results, Tryz.results15, go_sem, *]) rfl ?_
    exact ⟨_, rfl, Sl.nil, N3.out⟩

end Go.Proofs.YtccikeagbillgaaGreat
