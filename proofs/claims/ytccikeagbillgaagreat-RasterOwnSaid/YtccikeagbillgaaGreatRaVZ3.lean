import Derived.Test.YtccikeagbillgaaGreatRaUZ3
import Derived.Test.YtccikeagbillgaaGreatClZdZ3

/- The law of a column's own triangles: the walk. -/
namespace Go.Proofs.YtccikeagbillgaaGreat
open Go.RowKit Go.Sort
set_option linter.unusedVariables false

theorem IsM.heightR {l R : List Sn} (h : IsM l R) (hf : Proper l) (y : Int) : fstB (hasS y) R = fstB (hasS y) l := by
  unfold fstB
  rw [Bool.eq_iff_iff, List.any_eq_true, List.any_eq_true]
  constructor
  · rintro ⟨r, hr, k⟩
    obtain ⟨k1, k2⟩ := (hasS_iff y r).1 k
    by_cases e : y = r.lo
    · obtain ⟨p, hp, q⟩ := h.low r hr
      have := hf p hp
      exact ⟨p, hp, (hasS_iff y p).2 ⟨by omega, by omega⟩⟩
    · obtain ⟨p, hp, q1, q2⟩ := h.cov r hr (y - 1) (by omega) (by omega)
      exact ⟨p, hp, (hasS_iff y p).2 ⟨by omega, by omega⟩⟩
  · rintro ⟨p, hp, k⟩
    obtain ⟨k1, k2⟩ := (hasS_iff y p).1 k
    obtain ⟨r, hr, q1, q2⟩ := h.isin p hp
    exact ⟨r, hr, (hasS_iff y r).2 ⟨by omega, by omega⟩⟩
/-- Where a height of the j-th span is found. -/

theorem inW_of {C : CfgR} {x z : Int} (h : ¬ (x < 0)) (h1 : x < C.wd) (h2 : ¬ (z < 0)) (h3 : z < C.dp) : inW C x z = true := inW_iff.2 (by omega)
/-- The triangles over a column. -/
def ownT (l : List TriR) (x z : Int) : List TriR := l.filter fun T => ovB T x z
theorem own_col (C : CfgR) (l : List TriR) (x z : Int) : colL C (ownT l x z) x z = colL C l x z := by
  unfold colL
  split
  · unfold ownT
    rw [List.filterMap_filter]
    congr 1
    funext T
    unfold pcO
    cases ovB T x z <;> rfl
  · rfl
theorem own_chk {C : CfgR} {l : List TriR} {x z : Int} (h : rchk C l = 0) : rchk C (ownT l x z) = 0 := by
  obtain ⟨h1, h2, h3⟩ := rchk_zero h
  exact rchk_of h1 (Nat.le_trans (List.length_filter_le _ _) h2) (fun T hT => h3 T ((List.mem_filter.1 hT).1))
theorem own_E {C : CfgR} {l : List TriR} {x z : Int} (h : cE C l x z = 0) : cE C (ownT l x z) x z = 0 ∧ cR C (ownT l x z) x z = cR C l x z := by
  have h0 : rchk C l = 0 := by
    unfold cE at h
    split at h
    · rename_i h1; exact absurd h h1
    · rename_i h1; simpa using h1
  have e1 : cE C (ownT l x z) x z = cE C l x z := by
    unfold cE fullB colQ
    rw [own_col, h0, own_chk h0]
  refine ⟨e1.trans h, ?_⟩
  unfold cR
  rw [e1]
  unfold colQ
  rw [own_col]
theorem cE_chk {C : CfgR} {l : List TriR} {x z : Int} (h : cE C l x z = 0) : rchk C l = 0 ∧ cR C l x z = colQ C l x z := by
  refine ⟨?_, ?_⟩
  · unfold cE at h
    split at h
    · rename_i h1; exact absurd h h1
    · rename_i h1; simpa using h1
  · unfold cR; rw [if_pos h]
/-- Do the heights of a triangle over the column hold this height? -/
def heldT (x z y : Int) (T : TriR) : Bool := ovB T x z && (decide (ovLo T x z ≤ y) && decide (y ≤ ovHi T x z))
theorem held_solid {C : CfgR} {l : List TriR} {x z y : Int} (hw : inW C x z = true) : l.any (heldT x z y) = (colQ C l x z).any (hasS y) := by
  have h1 := IsM.heightR (mrg_is (col_proper C l x z)) (col_proper C l x z) y
  unfold fstB at h1
  have h2 : colQ C l x z = mrg (colL C l x z) := rfl
  rw [h2, h1]
  unfold colL
  rw [if_pos hw, List.any_filterMap]
  congr 1
  funext T
  unfold heldT pcO hasS
  cases ovB T x z <;> simp

set_option maxHeartbeats 2000000 in
set_option maxRecDepth 100000 in
theorem l_own (C : CfgR) (at0 : Option Addr) (l : List TriR) (c : Nat) (x z y : Int) (hx : i64B x) (hz : i64B z) (w : World) (h : Sl TriR.enc 10 w (.slice at0 l.length c) l) :
    Calls Tryz.prog 5 #[.agg #[.int .i64 C.cl, .int .i64 C.cb, .int .i64 C.ht, .int .i64 C.ri, .int .i64 C.ru, .int .i64 C.wd, .int .i64 C.dp], .slice at0 l.length c, .int .i64 x, .int .i64 z, .int .i64 y] w fun e w' => e = .returned (.bool true) ∧ New w w' := by
  have KW := Lib.hid (fun W => ra_wakes W)
  have hlm : l.length ≤ maxLen := by obtain ⟨_, h1, h2, _⟩ := h.row'; omega
  have KG := Lib.hid (fun W => ra_great at0 l.length c hlm W)
  have HS := Lib.hid (fun W n => h.keep (n : New w W))
  have KC := Lib.hid (fun W n => r_column C at0 l c hlm x z hx hz W ((h.keep (n : New w W)).row'.2.2.2.2))
  clear h
  by_cases hg : 40 < l.length
  · rw [decide_eq_true hg] at KG
    go_enter Tryz.func5, Tryz.ntmps5
    go_wp2_with fail
    refine (KG.out _).mono ?_
    rintro e w1 ⟨rfl, n1⟩
    have hn1 := New.trans (by (repeat (first | (with_reducible exact New.refl _) | (with_reducible assumption) | ((with_reducible refine New.setB ?_ ?_ _); focus (first | omega | (simp; omega) | (simp; done))) | (with_reducible refine New.alloc ?_ _) | (with_reducible refine New.drew ?_) | (with_reducible refine New.drewN ?_ _) | (with_reducible refine New.hat ?_ _) | ((with_reducible apply New.snart); (with_reducible assumption)))) : New w _) n1
    clear n1
    go_wp2_with fail
    refine (KW.out _).mono ?_
    rintro e w2 ⟨rfl, n2⟩
    have hn2 := hn1.trans n2
    clear n2
    go_wp2_with fail
    go_ret
    exact ⟨rfl, hn2⟩
  · rw [decide_eq_false hg] at KG
    by_cases hE : cE C l x z = 0
    · obtain ⟨h0, hR⟩ := cE_chk hE
      obtain ⟨k1, k2, k3⟩ := rchk_zero h0
      have hC := CfgR.fine_of k1
      have hol : (ownT l x z).length ≤ l.length := List.length_filter_le _ _
      have KX := Lib.hid (fun at1 c1 W (hr : RowIn TriR.enc 10 W at1 (ownT l x z)) => r_column C at1 (ownT l x z) c1 (by unfold maxLen; omega) x z hx hz W hr)
      rw [(own_E hE).1, (own_E hE).2, hR] at KX
      rw [hE, hR] at KC
      clear hR
      have hR8 : (colQ C l x z).length ≤ 1000 := Nat.le_trans (colQ_len _ _ _ _) (by omega)
      have RS := Lib.hid (fun a1 c1 a2 c2 W h1 h2 => rs_same a1 a2 (colQ C l x z) (colQ C l x z) c1 c2 hR8 hR8 W h1 h2)
      simp only [allEq_self] at RS
      go_enter Tryz.func5, Tryz.ntmps5
      go_wp2_with fail
      generalize hW : World.alloc _ _ = W0
      have n0 : New w W0 := by subst hW; (repeat (first | (with_reducible exact New.refl _) | (with_reducible assumption) | ((with_reducible refine New.setB ?_ ?_ _); focus (first | omega | (simp; omega) | (simp; done))) | (with_reducible refine New.alloc ?_ _) | (with_reducible refine New.drew ?_) | (with_reducible refine New.drewN ?_ _) | (with_reducible refine New.hat ?_ _) | ((with_reducible apply New.snart); (with_reducible assumption))))
      have hB : W0.heap[w.heap.size]? = some (.cells (cfgA C) 23 (0, 0)) := by subst hW; exact World.alloc_heap_new w _
      clear hW
      have HB := Lib.hid (And.intro n0 hB)
      clear n0 hB
      refine (KG.out _).mono ?_
      rintro e w1 ⟨rfl, n1⟩
      obtain ⟨c0, c1, c2, c3, c4, c5, c6⟩ := cfg_cs (n1.blk HB.out.2)
      go_wp2_with fail
      clear c0 c1 c2 c3 c4 c5 c6
      refine (KC.out _ (HB.out.1.trans n1)).mono ?_
      rintro e w2 ⟨v, rfl, hs, n2⟩
      have HS1 := Lib.hid hs
      obtain ⟨va, vc, rfl, -⟩ := hs
      have N2 := Lib.hid (n1.trans n2)
      clear n1 n2
      obtain ⟨c0, c1, c2, c3, c4, c5, c6⟩ := cfg_cs (N2.out.blk HB.out.2)
      by_cases hw : inW C x z = true
      · have hw' := inW_iff.1 hw
        have t1 : ¬ (x < 0) := by omega
        have t2 : ¬ (C.wd ≤ x) := by omega
        have t3 : ¬ (z < 0) := by omega
        have t4 : ¬ (C.dp ≤ z) := by omega
        have hwH := Lib.hid hw
        clear hw hw'
        go_wp2_with fail
        clear c0 c1 c2 c3 c4 c5 c6 t1 t2 t3 t4 hE h0 k1 k2
        obtain ⟨i0, hi0, hz0, hz1, hz2⟩ := info_parts tri_info
        have KM := Lib.hid (fun T W => u_mayTri C.wd C.dp ⟨hC.w1, hC.w2⟩ ⟨hC.d1, hC.d2⟩ T W)
        have KO := Lib.hid (fun T W => r_over T x z W)
        have K3 := Lib.hid k3
        clear k3
        go_loopg [13, 14, 62] l.length (fun k own held s wr => ∃ i : Nat, s = .int .i64 i ∧ i + k = l.length ∧ held = .bool ((l.take i).any (heldT x z y)) ∧ Hid (wr.ownsRow w2.heap.size 43 10 own (ownT (l.take i) x z).length ((ownT (l.take i) x z).flatMap TriR.enc)) ∧ Hid (New w2 wr))
        case atStart => exact ⟨0, by simp, by omega, rfl, Lib.hid (World.ownsRow_nil _ _ _ _), Lib.hid (New.refl _)⟩
        case round =>
          obtain ⟨i, rfl, hik, rfl, HO, HN⟩ := hrel
          by_cases hlt : i < l.length
          · obtain ⟨b0, off, rfl, hA⟩ := (HS.out w (New.refl _)).row'.2.2.2.2 (by omega)
            have hnw := HB.out.1.trans (N2.out.trans HN.out)
            obtain ⟨d0, d1, d2, d3, d4, d5, d6, d7, d8, d9⟩ := TriR.cells (hA.keep hnw) i hlt
            obtain ⟨c0, c1, c2, c3, c4, c5, c6⟩ := cfg_cs ((N2.out.trans HN.out).blk HB.out.2)
            have lz := World.block_lt_of_cell? _ _ c0
            have KM1 := fun W => KM.out l[i] W
            rw [K3.out _ (List.getElem_mem hlt)] at KM1
            have KM2 := Lib.hid KM1
            have KO1 := fun W => KO.out l[i] W
            have htk : l.take (i + 1) = l.take i ++ [l[i]] := by rw [List.take_add_one, List.getElem?_eq_getElem hlt]; rfl
            have hany : (l.take (i + 1)).any (heldT x z y) = ((l.take i).any (heldT x z y) || heldT x z y l[i]) := by rw [htk, List.any_append]; simp
            have hown : ownT (l.take (i + 1)) x z = ownT (l.take i) x z ++ (if ovB l[i] x z then [l[i]] else []) := by
              unfold ownT
              rw [htk, List.filter_append]
              congr 1
              simp [List.filter_cons]
            have hle : (ownT (l.take i) x z).length ≤ 40 := Nat.le_trans (List.length_filter_le _ _) (by rw [List.length_take]; omega)
            clear hA hnw KM1 htk
            generalize l[i] = T at *
            generalize (l.take i).any (heldT x z y) = B at *
            cases ho : ovB T x z
            · rw [ho] at hown KO1
              simp only [Bool.false_eq_true, if_false, List.append_nil] at hown
              have hh : heldT x z y T = false := by unfold heldT; rw [ho]; rfl
              rw [hh, Bool.or_false] at hany
              have HA := Lib.hid (And.intro hany hown)
              replace KO1 := Lib.hid KO1
              clear hany hown hh ho
              go_wp2_with fail
              generalize hW : World.alloc _ _ = W3
              have n3 : New wr W3 := by subst hW; (repeat (first | (with_reducible exact New.refl _) | (with_reducible assumption) | ((with_reducible refine New.setB ?_ ?_ _); focus (first | omega | (simp; omega) | (simp; done))) | (with_reducible refine New.alloc ?_ _) | (with_reducible refine New.drew ?_) | (with_reducible refine New.drewN ?_ _) | (with_reducible refine New.hat ?_ _) | ((with_reducible apply New.snart); (with_reducible assumption))))
              have q0 : W3.cell? ⟨wr.heap.size, 0, none⟩ = some (.int .i64 T.i) := by subst hW; go_simp
              have q1 : W3.cell? ⟨wr.heap.size, 1, none⟩ = some (.int .i64 T.x0) := by subst hW; go_simp
              have q2 : W3.cell? ⟨wr.heap.size, 2, none⟩ = some (.int .i64 T.y0) := by subst hW; go_simp
              have q3 : W3.cell? ⟨wr.heap.size, 3, none⟩ = some (.int .i64 T.z0) := by subst hW; go_simp
              have q4 : W3.cell? ⟨wr.heap.size, 4, none⟩ = some (.int .i64 T.x1) := by subst hW; go_simp
              have q5 : W3.cell? ⟨wr.heap.size, 5, none⟩ = some (.int .i64 T.y1) := by subst hW; go_simp
              have q6 : W3.cell? ⟨wr.heap.size, 6, none⟩ = some (.int .i64 T.z1) := by subst hW; go_simp
              have q7 : W3.cell? ⟨wr.heap.size, 7, none⟩ = some (.int .i64 T.x2) := by subst hW; go_simp
              have q8 : W3.cell? ⟨wr.heap.size, 8, none⟩ = some (.int .i64 T.y2) := by subst hW; go_simp
              have q9 : W3.cell? ⟨wr.heap.size, 9, none⟩ = some (.int .i64 T.z2) := by subst hW; go_simp
              clear hW d0 d1 d2 d3 d4 d5 d6 d7 d8 d9 c0 c1 c2 c3 c4 c5 c6
              refine (KM2.out _).mono ?_
              rintro e w4 ⟨rfl, n4⟩
              replace q0 := n4.keep q0
              replace q1 := n4.keep q1
              replace q2 := n4.keep q2
              replace q3 := n4.keep q3
              replace q4 := n4.keep q4
              replace q5 := n4.keep q5
              replace q6 := n4.keep q6
              replace q7 := n4.keep q7
              replace q8 := n4.keep q8
              replace q9 := n4.keep q9
              go_wp2_with fail
              refine (KO1.out _).mono ?_
              rintro e w5 ⟨rfl, n5⟩
              have N5 := Lib.hid (n3.trans (n4.trans n5))
              clear n3 n4 n5 q0 q1 q2 q3 q4 q5 q6 q7 q8 q9
              go_wp2_with fail
              go_roundg (gk - 1)
              case measure => omega
              case rel => exact ⟨i + 1, by go_num, by omega, by rw [HA.out.1], Lib.hid (by rw [HA.out.2]; exact own_new HO.out N5.out), Lib.hid (HN.out.trans N5.out)⟩
            · rw [ho] at hown KO1
              simp only [if_true] at hown
              have hh : heldT x z y T = (decide (ovLo T x z ≤ y) && decide (y ≤ ovHi T x z)) := by unfold heldT; rw [ho]; rfl
              rw [hh] at hany
              have hlen : (ownT (l.take i) x z ++ [T]).length = (ownT (l.take i) x z).length + 1 := by rw [List.length_append]; rfl
              have hfl : (ownT (l.take i) x z ++ [T]).flatMap TriR.enc = (ownT (l.take i) x z).flatMap TriR.enc ++ T.enc := by rw [List.flatMap_append]; simp
              have HA := Lib.hid (And.intro hany (And.intro hown (And.intro hlen hfl)))
              replace KO1 := Lib.hid KO1
              clear hany hown hh ho hlen hfl
              go_wp2_with fail
              generalize hW : World.alloc _ _ = W3
              have n3 : New wr W3 := by subst hW; (repeat (first | (with_reducible exact New.refl _) | (with_reducible assumption) | ((with_reducible refine New.setB ?_ ?_ _); focus (first | omega | (simp; omega) | (simp; done))) | (with_reducible refine New.alloc ?_ _) | (with_reducible refine New.drew ?_) | (with_reducible refine New.drewN ?_ _) | (with_reducible refine New.hat ?_ _) | ((with_reducible apply New.snart); (with_reducible assumption))))
              have q0 : W3.cell? ⟨wr.heap.size, 0, none⟩ = some (.int .i64 T.i) := by subst hW; go_simp
              have q1 : W3.cell? ⟨wr.heap.size, 1, none⟩ = some (.int .i64 T.x0) := by subst hW; go_simp
              have q2 : W3.cell? ⟨wr.heap.size, 2, none⟩ = some (.int .i64 T.y0) := by subst hW; go_simp
              have q3 : W3.cell? ⟨wr.heap.size, 3, none⟩ = some (.int .i64 T.z0) := by subst hW; go_simp
              have q4 : W3.cell? ⟨wr.heap.size, 4, none⟩ = some (.int .i64 T.x1) := by subst hW; go_simp
              have q5 : W3.cell? ⟨wr.heap.size, 5, none⟩ = some (.int .i64 T.y1) := by subst hW; go_simp
              have q6 : W3.cell? ⟨wr.heap.size, 6, none⟩ = some (.int .i64 T.z1) := by subst hW; go_simp
              have q7 : W3.cell? ⟨wr.heap.size, 7, none⟩ = some (.int .i64 T.x2) := by subst hW; go_simp
              have q8 : W3.cell? ⟨wr.heap.size, 8, none⟩ = some (.int .i64 T.y2) := by subst hW; go_simp
              have q9 : W3.cell? ⟨wr.heap.size, 9, none⟩ = some (.int .i64 T.z2) := by subst hW; go_simp
              clear hW d0 d1 d2 d3 d4 d5 d6 d7 d8 d9 c0 c1 c2 c3 c4 c5 c6
              refine (KM2.out _).mono ?_
              rintro e w4 ⟨rfl, n4⟩
              replace q0 := n4.keep q0
              replace q1 := n4.keep q1
              replace q2 := n4.keep q2
              replace q3 := n4.keep q3
              replace q4 := n4.keep q4
              replace q5 := n4.keep q5
              replace q6 := n4.keep q6
              replace q7 := n4.keep q7
              replace q8 := n4.keep q8
              replace q9 := n4.keep q9
              go_wp2_with fail
              refine (KO1.out _).mono ?_
              rintro e w5 ⟨rfl, n5⟩
              replace q0 := n5.keep q0
              replace q1 := n5.keep q1
              replace q2 := n5.keep q2
              replace q3 := n5.keep q3
              replace q4 := n5.keep q4
              replace q5 := n5.keep q5
              replace q6 := n5.keep q6
              replace q7 := n5.keep q7
              replace q8 := n5.keep q8
              replace q9 := n5.keep q9
              have N5 := Lib.hid (n3.trans (n4.trans n5))
              have HO6 := Lib.hid ((own_new HO.out (n3.trans (n4.trans n5))).alloc (.cells (triA T) 43))
              have hb5 : w2.heap.size ≤ w5.heap.size := by
                have := HN.out.size
                have := N5.out.size
                omega
              clear n3 n4 n5
              cases B <;> by_cases p1 : ovLo T x z ≤ y <;> by_cases p2 : y ≤ ovHi T x z
              all_goals
                go_wp2_with (at_builtin; refine wpList_append_own _ rfl _ _ 24 rfl w2.heap.size 43 i0 (.agg #[.int .i64 0, .int .i64 0, .int .i64 0, .int .i64 0, .int .i64 0, .int .i64 0, .int .i64 0, .int .i64 0, .int .i64 0, .int .i64 0]) 10 80 Tryz.underlying24 hi0 hz0 hz1 hz2 rfl (by decide) _ _ _ rfl HO6.out ⟨w5.heap.size, 0, none⟩ 1 1 T.enc rfl rfl (new_add w5 (triA T) 43) (TriR.enc_one _) (by unfold maxLen; omega) (by omega) (by simp; omega) ?_; intro v' w6 hown' hgrow _)
                go_roundg (gk - 1)
                case measure => omega
                case rel =>
                  refine ⟨i + 1, by go_num, by omega, by rw [HA.out.1]; simp [p1, p2], Lib.hid ?_, Lib.hid ?_⟩
                  · rw [HA.out.2.1, HA.out.2.2.1, HA.out.2.2.2]
                    exact hown'
                  · exact newGrown (HN.out.trans (N5.out.trans ((New.refl w5).alloc _))) hgrow (fun k hk => (HO.out.lt k hk).1)
          · obtain rfl : i = l.length := by omega
            have hOO := HO.out
            rw [List.take_length] at hOO
            rw [List.take_length]
            obtain ⟨oa, oc, on, hon, rfl⟩ := own_shape2 hOO
            have HOS := own_sl TriR.enc_len hOO
            rw [hon] at HOS ⊢
            have HRI := Lib.hid HOS.row'.2.2.2.2
            clear hOO HOS hon
            have HHS := Lib.hid (held_solid (l := l) (y := y) hwH.out)
            generalize l.any (heldT x z y) = hB at *
            obtain ⟨c0, c1, c2, c3, c4, c5, c6⟩ := cfg_cs ((N2.out.trans HN.out).blk HB.out.2)
            go_wp2_with fail
            clear c0 c1 c2 c3 c4 c5 c6
            refine (KX.out oa oc _ HRI.out).mono ?_
            rintro e w5 ⟨v, rfl, hs, n5⟩
            have HS2 := Lib.hid hs
            obtain ⟨vb, vd, rfl, -⟩ := hs
            have N5 := Lib.hid (HN.out.trans n5)
            clear n5
            go_wp2_with fail
            refine (RS.out _ _ _ _ _ (HS1.out.keep N5.out) HS2.out).mono ?_
            rintro e w6 ⟨rfl, n6⟩
            have N6 := Lib.hid (N5.out.trans n6)
            clear n6
            go_wp2_with fail
            have HR8 := Lib.hid hR8
            clear hR8
            generalize colQ C l x z = RR at *
            have N6' := Lib.hid (HB.out.1.trans (N2.out.trans N6.out))
            have HSR := Lib.hid (HS1.out.keep N6.out)
            go_loopg [23, 117] RR.length (fun k so s wr2 => ∃ i : Nat, s = .int .i64 i ∧ i + k = RR.length ∧ so = .bool ((RR.take i).any (hasS y)) ∧ Hid (New w6 wr2))
            case atStart => exact ⟨0, by simp, by omega, rfl, Lib.hid (New.refl _)⟩
            case round =>
              obtain ⟨i, rfl, hik2, rfl, HN2⟩ := hrel
              have hR8' := HR8.out
              by_cases hlt2 : i < RR.length
              · obtain ⟨b1, off1, rfl, hA⟩ := HSR.out.row'.2.2.2.2 (by omega)
                obtain ⟨d0, d1, d2⟩ := Sn.cells (hA.keep HN2.out) i hlt2
                have hany : (RR.take (i + 1)).any (hasS y) = ((RR.take i).any (hasS y) || (decide (RR[i].lo ≤ y) && decide (y ≤ RR[i].hi))) := by
                  rw [List.take_add_one, List.getElem?_eq_getElem hlt2, List.any_append]
                  simp [hasS]
                have HA := Lib.hid hany
                clear hA hany
                generalize RR[i] = S at *
                generalize (RR.take i).any (hasS y) = B at *
                cases B <;> by_cases p1 : S.lo ≤ y <;> by_cases p2 : y ≤ S.hi
                all_goals
                  go_wp2_with fail
                  go_roundg (gk - 1)
                  case measure => omega
                  case rel => exact ⟨i + 1, by go_num, by omega, by rw [HA.out]; simp [p1, p2], Lib.hid (HN2.out.trans (by (repeat (first | (with_reducible exact New.refl _) | (with_reducible assumption) | ((with_reducible refine New.setB ?_ ?_ _); focus (first | omega | (simp; omega) | (simp; done))) | (with_reducible refine New.alloc ?_ _) | (with_reducible refine New.drew ?_) | (with_reducible refine New.drewN ?_ _) | (with_reducible refine New.hat ?_ _) | ((with_reducible apply New.snart); (with_reducible assumption))))))⟩
              · obtain rfl : i = RR.length := by omega
                rw [List.take_length, ← HHS.out]
                have N7 := Lib.hid (N6'.out.trans HN2.out)
                cases hB
                all_goals
                  go_wp2_with fail
                  refine (KW.out _).mono ?_
                  rintro e w8 ⟨rfl, n8⟩
                  have N8 := Lib.hid (N7.out.trans n8)
                  clear n8
                  go_wp2_with fail
                  go_ret
                  exact ⟨rfl, N8.out⟩
      · have hne : x < 0 ∨ C.wd ≤ x ∨ z < 0 ∨ C.dp ≤ z := by
          rw [inW_iff] at hw
          omega
        clear hw
        by_cases t1 : x < 0
        · go_wp2_with fail
          refine (KW.out _).mono ?_
          rintro e w3 ⟨rfl, n3⟩
          have N3 := Lib.hid (HB.out.1.trans (N2.out.trans n3))
          clear n3
          go_wp2_with fail
          go_ret
          exact ⟨rfl, N3.out⟩
        by_cases t2 : C.wd ≤ x
        · go_wp2_with fail
          refine (KW.out _).mono ?_
          rintro e w3 ⟨rfl, n3⟩
          have N3 := Lib.hid (HB.out.1.trans (N2.out.trans n3))
          clear n3
          go_wp2_with fail
          go_ret
          exact ⟨rfl, N3.out⟩
        by_cases t3 : z < 0
        · go_wp2_with fail
          refine (KW.out _).mono ?_
          rintro e w3 ⟨rfl, n3⟩
          have N3 := Lib.hid (HB.out.1.trans (N2.out.trans n3))
          clear n3
          go_wp2_with fail
          go_ret
          exact ⟨rfl, N3.out⟩
        have t4 : C.dp ≤ z := by omega
        go_wp2_with fail
        refine (KW.out _).mono ?_
        rintro e w3 ⟨rfl, n3⟩
        have N3 := Lib.hid (HB.out.1.trans (N2.out.trans n3))
        clear n3
        go_wp2_with fail
        go_ret
        exact ⟨rfl, N3.out⟩
    · have hb : (cE C l x z == 0) = false := by rw [beq_eq_false_iff_ne]; exact hE
      have hb2 : (cE C l x z != 0) = true := by rw [bne_iff_ne]; exact hE
      generalize cE C l x z = ev at *
      go_enter Tryz.func5, Tryz.ntmps5
      go_wp2_with fail
      generalize hW : World.alloc _ _ = W0
      have n0 : New w W0 := by subst hW; (repeat (first | (with_reducible exact New.refl _) | (with_reducible assumption) | ((with_reducible refine New.setB ?_ ?_ _); focus (first | omega | (simp; omega) | (simp; done))) | (with_reducible refine New.alloc ?_ _) | (with_reducible refine New.drew ?_) | (with_reducible refine New.drewN ?_ _) | (with_reducible refine New.hat ?_ _) | ((with_reducible apply New.snart); (with_reducible assumption))))
      have hB : W0.heap[w.heap.size]? = some (.cells (cfgA C) 23 (0, 0)) := by subst hW; exact World.alloc_heap_new w _
      clear hW
      have HB := Lib.hid (And.intro n0 hB)
      clear n0 hB
      refine (KG.out _).mono ?_
      rintro e w1 ⟨rfl, n1⟩
      obtain ⟨c0, c1, c2, c3, c4, c5, c6⟩ := cfg_cs (n1.blk HB.out.2)
      go_wp2_with fail
      clear c0 c1 c2 c3 c4 c5 c6
      refine (KC.out _ (HB.out.1.trans n1)).mono ?_
      rintro e w2 ⟨v, rfl, hs, n2⟩
      obtain ⟨va, vc, rfl, -⟩ := hs
      have N2 := Lib.hid (n1.trans n2)
      clear n1 n2
      go_wp2_with fail
      refine (KW.out _).mono ?_
      rintro e w3 ⟨rfl, n3⟩
      have N3 := Lib.hid (HB.out.1.trans (N2.out.trans n3))
      clear n3
      go_wp2_with fail
      go_ret
      exact ⟨rfl, N3.out⟩

end Go.Proofs.YtccikeagbillgaaGreat
