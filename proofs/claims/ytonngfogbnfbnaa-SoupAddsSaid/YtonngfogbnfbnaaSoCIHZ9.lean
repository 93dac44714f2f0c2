import Derived.Test.YtonngfogbnfbnaaSoCHHZ9
import Derived.Test.YtonngfogbnfbnaaLoose

/- The document's package of soups: AddHop, done. -/
namespace Go.Proofs.Ytonngfogbnfbnaa
open Go.RowKit
set_option linter.unusedVariables false
set_option linter.unusedSimpArgs false
set_option maxRecDepth 100000

theorem HopR.place_hi {l : List HopR} {id : Int} {p : Nat} (hl : HopR.Rise l) (hp : HopR.Place l id p) (hh : HopR.hit l id p = false) (j : Nat) (h : j < l.length) (hpj : p ≤ j) : id < l[j].i := by
  have h1 := hp.hi j h hpj
  have h2 : l[j].i ≠ id := fun e => by
    have := (HopR.hit_iff hl hp).2 ⟨l[j], List.getElem_mem h, e⟩
    rw [hh] at this
    cases this
  omega

set_option maxHeartbeats 20000000 in
theorem u_hadd_ok (C : CfgR) (S : SoupV) (fS : S.few) (x : HopR) (w : World) (hS : S.ok w) (h : S.err C = 0) (hm : x.may C = true) (p : Nat) (hp : HopR.Place S.hs x.i p) (hh : HopR.hit S.hs x.i p = false) (hf : S.hs.length ≠ 16) :
    Calls Try.prog 13 #[.agg #[.int .i64 C.cl, .int .i64 C.cb, .int .i64 C.ht, .int .i64 C.ri, .int .i64 C.ru, .int .i64 C.wd, .int .i64 C.dp], .agg #[.slice S.a0 S.ts.length S.c0, .slice S.a1 S.bs.length S.c1, .slice S.a2 S.hs.length S.c2], .agg #[.int .i64 x.i, .int .i64 x.fx, .int .i64 x.fz, .int .i64 x.fy, .int .i64 x.tx, .int .i64 x.tz, .int .i64 x.ty, .bool x.bo, .int .i64 x.ar, .int .i64 x.co]] w (SoupE S.ts S.bs (HopR.put S.hs p x) 0 w) := by
  obtain ⟨i0, hi, hz0, hz1, hz2⟩ := info_parts h_info
  have hC := CfgR.fine_of (SoupV.err_zero h).1
  have KC := Lib.hid (fun W n => u_check C S W (hS.keep n))
  rw [h] at KC
  have KI := Lib.hid (fun W => u_id x.i W)
  have KM := Lib.hid (fun W => u_mayHop C x W)
  rw [HopR.may_id C x, Bool.and_eq_true] at hm
  rw [hm.1] at KI
  rw [hm.2] at KM
  obtain ⟨z, hz⟩ := HopR.isFirst S.hs x.i
  have KT := Lib.hid (fun W n => u_hget S x.i z hz W (hS.keep n))
  have hrise := HopR.listB_iff.1 (HopR.err_list h)
  have hd := HopR.first_of_hit hrise.2.2 hp hz
  rw [hh] at hd
  rw [hd] at KT
  have KY := Lib.hid (fun W n => u_copy S fS W (hS.keep n))
  have hle : S.hs.length ≤ 16 := hrise.1
  have qf : decide ((16 : Int) ≤ (S.hs.length : Int)) = false := decide_eq_false (by omega)
  have hpl := hp.le
  have PL := Lib.hid hp.lo
  have PH : Hid (∀ j (h : j < S.hs.length), p ≤ j → x.i < S.hs[j].i) := Lib.hid (fun j h hpj => HopR.place_hi hrise.2.2 hp hh j h hpj)
  have HR := Lib.hid hS.h.row.2.2.2.2
  clear hd hz h hm hC hp hh hrise hf fS hS
  go_enter Try.func13, Try.ntmps13
  go_wp2_with fail
  refine Calls.at (fun W hW => ?_)
  have hn : New w W := by subst hW; (repeat (first | (with_reducible exact New.refl _) | (with_reducible assumption) | ((with_reducible refine New.setB ?_ ?_ _); focus (first | omega | (simp; omega) | (simp; done))) | (with_reducible refine New.alloc ?_ _) | (with_reducible refine New.drew ?_) | (with_reducible refine New.drewN ?_ _) | (with_reducible refine New.hat ?_ _) | ((with_reducible apply New.snart); (with_reducible assumption))))
  ((have g0 : World.cell? (W) ⟨w.heap.size, 0, none⟩ = some (.int .i64 C.cl) := (by subst hW; go_simp)); (have g1 : World.cell? (W) ⟨w.heap.size, 1, none⟩ = some (.int .i64 C.cb) := (by subst hW; go_simp)); (have g2 : World.cell? (W) ⟨w.heap.size, 2, none⟩ = some (.int .i64 C.ht) := (by subst hW; go_simp)); (have g3 : World.cell? (W) ⟨w.heap.size, 3, none⟩ = some (.int .i64 C.ri) := (by subst hW; go_simp)); (have g4 : World.cell? (W) ⟨w.heap.size, 4, none⟩ = some (.int .i64 C.ru) := (by subst hW; go_simp)); (have g5 : World.cell? (W) ⟨w.heap.size, 5, none⟩ = some (.int .i64 C.wd) := (by subst hW; go_simp)); (have g6 : World.cell? (W) ⟨w.heap.size, 6, none⟩ = some (.int .i64 C.dp) := (by subst hW; go_simp)))
  have q0 : W.cell? ⟨w.heap.size + 1, 0, none⟩ = some (.slice S.a0 S.ts.length S.c0) := by subst hW; go_simp
  have q1 : W.cell? ⟨w.heap.size + 1, 1, none⟩ = some (.slice S.a1 S.bs.length S.c1) := by subst hW; go_simp
  have q2 : W.cell? ⟨w.heap.size + 1, 2, none⟩ = some (.slice S.a2 S.hs.length S.c2) := by subst hW; go_simp
  ((have d0 : World.cell? (W) ⟨w.heap.size + 1 + 1, 0, none⟩ = some (.int .i64 x.i) := (by subst hW; go_simp)); (have d1 : World.cell? (W) ⟨w.heap.size + 1 + 1, 1, none⟩ = some (.int .i64 x.fx) := (by subst hW; go_simp)); (have d2 : World.cell? (W) ⟨w.heap.size + 1 + 1, 2, none⟩ = some (.int .i64 x.fz) := (by subst hW; go_simp)); (have d3 : World.cell? (W) ⟨w.heap.size + 1 + 1, 3, none⟩ = some (.int .i64 x.fy) := (by subst hW; go_simp)); (have d4 : World.cell? (W) ⟨w.heap.size + 1 + 1, 4, none⟩ = some (.int .i64 x.tx) := (by subst hW; go_simp)); (have d5 : World.cell? (W) ⟨w.heap.size + 1 + 1, 5, none⟩ = some (.int .i64 x.tz) := (by subst hW; go_simp)); (have d6 : World.cell? (W) ⟨w.heap.size + 1 + 1, 6, none⟩ = some (.int .i64 x.ty) := (by subst hW; go_simp)); (have d7 : World.cell? (W) ⟨w.heap.size + 1 + 1, 7, none⟩ = some (.bool x.bo) := (by subst hW; go_simp)); (have d8 : World.cell? (W) ⟨w.heap.size + 1 + 1, 8, none⟩ = some (.int .i64 x.ar) := (by subst hW; go_simp)); (have d9 : World.cell? (W) ⟨w.heap.size + 1 + 1, 9, none⟩ = some (.int .i64 x.co) := (by subst hW; go_simp)))
  have fz : Thr W (w.heap.size + 1 + 1 + 1) 3 := by subst hW; exact Thr.new _ #[.slice none 0 0, .slice none 0 0, .slice none 0 0] _ _ (by simp)
  clear hW
  refine (KC.out _ hn).mono ?_
  rintro e W1 ⟨rfl, n1⟩
  replace g0 := New.keep (n1) g0; replace g1 := New.keep (n1) g1; replace g2 := New.keep (n1) g2; replace g3 := New.keep (n1) g3; replace g4 := New.keep (n1) g4; replace g5 := New.keep (n1) g5; replace g6 := New.keep (n1) g6
  replace q0 := New.keep n1 q0
  replace q1 := New.keep n1 q1
  replace q2 := New.keep n1 q2
  replace d0 := New.keep (n1) d0; replace d1 := New.keep (n1) d1; replace d2 := New.keep (n1) d2; replace d3 := New.keep (n1) d3; replace d4 := New.keep (n1) d4; replace d5 := New.keep (n1) d5; replace d6 := New.keep (n1) d6; replace d7 := New.keep (n1) d7; replace d8 := New.keep (n1) d8; replace d9 := New.keep (n1) d9
  replace fz := fz.keep n1
  replace hn := hn.trans n1
  have sz : w.heap.size + 1 + 1 + 1 < W1.heap.size := fz.lt (by omega)
  clear n1
  go_wp2_with fail
  refine (KI.out _).mono ?_
  rintro e W2 ⟨rfl, n1⟩
  replace g0 := New.keep (n1) g0; replace g1 := New.keep (n1) g1; replace g2 := New.keep (n1) g2; replace g3 := New.keep (n1) g3; replace g4 := New.keep (n1) g4; replace g5 := New.keep (n1) g5; replace g6 := New.keep (n1) g6
  replace q0 := New.keep n1 q0
  replace q1 := New.keep n1 q1
  replace q2 := New.keep n1 q2
  replace d0 := New.keep (n1) d0; replace d1 := New.keep (n1) d1; replace d2 := New.keep (n1) d2; replace d3 := New.keep (n1) d3; replace d4 := New.keep (n1) d4; replace d5 := New.keep (n1) d5; replace d6 := New.keep (n1) d6; replace d7 := New.keep (n1) d7; replace d8 := New.keep (n1) d8; replace d9 := New.keep (n1) d9
  replace fz := fz.keep n1
  replace hn := hn.trans n1
  have sz : w.heap.size + 1 + 1 + 1 < W2.heap.size := fz.lt (by omega)
  clear n1
  go_wp2_with fail
  refine (KM.out _).mono ?_
  rintro e W3 ⟨rfl, n1⟩
  replace g0 := New.keep (n1) g0; replace g1 := New.keep (n1) g1; replace g2 := New.keep (n1) g2; replace g3 := New.keep (n1) g3; replace g4 := New.keep (n1) g4; replace g5 := New.keep (n1) g5; replace g6 := New.keep (n1) g6
  replace q0 := New.keep n1 q0
  replace q1 := New.keep n1 q1
  replace q2 := New.keep n1 q2
  replace d0 := New.keep (n1) d0; replace d1 := New.keep (n1) d1; replace d2 := New.keep (n1) d2; replace d3 := New.keep (n1) d3; replace d4 := New.keep (n1) d4; replace d5 := New.keep (n1) d5; replace d6 := New.keep (n1) d6; replace d7 := New.keep (n1) d7; replace d8 := New.keep (n1) d8; replace d9 := New.keep (n1) d9
  replace fz := fz.keep n1
  replace hn := hn.trans n1
  have sz : w.heap.size + 1 + 1 + 1 < W3.heap.size := fz.lt (by omega)
  clear n1
  go_wp2_with fail
  refine (KT.out _ hn).mono ?_
  rintro e W4 ⟨rfl, n1⟩
  replace g0 := New.keep (n1) g0; replace g1 := New.keep (n1) g1; replace g2 := New.keep (n1) g2; replace g3 := New.keep (n1) g3; replace g4 := New.keep (n1) g4; replace g5 := New.keep (n1) g5; replace g6 := New.keep (n1) g6
  replace q0 := New.keep n1 q0
  replace q1 := New.keep n1 q1
  replace q2 := New.keep n1 q2
  replace d0 := New.keep (n1) d0; replace d1 := New.keep (n1) d1; replace d2 := New.keep (n1) d2; replace d3 := New.keep (n1) d3; replace d4 := New.keep (n1) d4; replace d5 := New.keep (n1) d5; replace d6 := New.keep (n1) d6; replace d7 := New.keep (n1) d7; replace d8 := New.keep (n1) d8; replace d9 := New.keep (n1) d9
  replace fz := fz.keep n1
  replace hn := hn.trans n1
  have sz : w.heap.size + 1 + 1 + 1 < W4.heap.size := fz.lt (by omega)
  have sz1 : w.heap.size + 1 < W4.heap.size := by omega
  have sz2 : w.heap.size + 1 + 1 < W4.heap.size := by omega
  clear n1
  go_wp2_with fail
  refine Calls.at (fun V hV => ?_)
  have n1 : New W4 V := by subst hV; (repeat (first | (with_reducible exact New.refl _) | (with_reducible assumption) | ((with_reducible refine New.setB ?_ ?_ _); focus (first | omega | (simp; omega) | (simp; done))) | (with_reducible refine New.alloc ?_ _) | (with_reducible refine New.drew ?_) | (with_reducible refine New.drewN ?_ _) | (with_reducible refine New.hat ?_ _) | ((with_reducible apply New.snart); (with_reducible assumption))))
  clear hV
  replace g0 := New.keep (n1) g0; replace g1 := New.keep (n1) g1; replace g2 := New.keep (n1) g2; replace g3 := New.keep (n1) g3; replace g4 := New.keep (n1) g4; replace g5 := New.keep (n1) g5; replace g6 := New.keep (n1) g6
  replace q0 := New.keep n1 q0
  replace q1 := New.keep n1 q1
  replace q2 := New.keep n1 q2
  replace d0 := New.keep (n1) d0; replace d1 := New.keep (n1) d1; replace d2 := New.keep (n1) d2; replace d3 := New.keep (n1) d3; replace d4 := New.keep (n1) d4; replace d5 := New.keep (n1) d5; replace d6 := New.keep (n1) d6; replace d7 := New.keep (n1) d7; replace d8 := New.keep (n1) d8; replace d9 := New.keep (n1) d9
  replace fz := fz.keep n1
  replace hn := hn.trans n1
  have sz : w.heap.size + 1 + 1 + 1 < V.heap.size := fz.lt (by omega)
  have sz1 : w.heap.size + 1 < V.heap.size := by omega
  have sz2 : w.heap.size + 1 + 1 < V.heap.size := by omega
  clear n1
  have DX : CellsAt V (w.heap.size + 1 + 1) 0 x.enc := by
    intro j hj
    rw [HopR.enc_len] at hj
    rw [Nat.zero_add]
    (rcases (show j = 0 ∨ j = 1 ∨ j = 2 ∨ j = 3 ∨ j = 4 ∨ j = 5 ∨ j = 6 ∨ j = 7 ∨ j = 8 ∨ j = 9 by omega) with rfl | rfl | rfl | rfl | rfl | rfl | rfl | rfl | rfl | rfl)
    · exact d0
    · exact d1
    · exact d2
    · exact d3
    · exact d4
    · exact d5
    · exact d6
    · exact d7
    · exact d8
    · exact d9
  refine (KY.out _ hn).mono ?_
  rintro e W5 ⟨⟨ts', bs', hs', b0, b1, b2, k0, k1, k2⟩, rfl, hS', rfl, rfl, rfl, hown, n1⟩
  have szV5 : V.heap.size ≤ W5.heap.size := n1.size
  replace DX := DX.keep n1
  replace g0 := New.keep (n1) g0; replace g1 := New.keep (n1) g1; replace g2 := New.keep (n1) g2; replace g3 := New.keep (n1) g3; replace g4 := New.keep (n1) g4; replace g5 := New.keep (n1) g5; replace g6 := New.keep (n1) g6
  replace q0 := New.keep n1 q0
  replace q1 := New.keep n1 q1
  replace q2 := New.keep n1 q2
  replace d0 := New.keep (n1) d0; replace d1 := New.keep (n1) d1; replace d2 := New.keep (n1) d2; replace d3 := New.keep (n1) d3; replace d4 := New.keep (n1) d4; replace d5 := New.keep (n1) d5; replace d6 := New.keep (n1) d6; replace d7 := New.keep (n1) d7; replace d8 := New.keep (n1) d8; replace d9 := New.keep (n1) d9
  replace fz := fz.keep n1
  replace hn := hn.trans n1
  have sz : w.heap.size + 1 + 1 + 1 < W5.heap.size := fz.lt (by omega)
  have sz1 : w.heap.size + 1 < W5.heap.size := by omega
  have sz2 : w.heap.size + 1 + 1 < W5.heap.size := by omega
  clear n1
  have HS' := Lib.hid hS'
  have HO' := Lib.hid hown
  have szV : w.heap.size + 1 + 1 + 1 < V.heap.size := by omega
  have Q5 := Lib.hid q2
  have D5 : Hid (CellsAt W5 (w.heap.size + 1 + 1) 0 x.enc) := Lib.hid DX
  have FZ := Lib.hid fz
  clear DX hS' hown KY KT KM KI KC g0 g1 g2 g3 g4 g5 g6
  go_wp2_with fail
  refine Code.at (fun W6 hW => ?_)
  have o0 : W6.cell? ⟨W5.heap.size, 2, none⟩ = some (.slice none 0 0) := by subst hW; go_simp
  have o1 : W6.cell? ⟨W5.heap.size, 0, none⟩ = some (.slice b0 S.ts.length k0) := by subst hW; go_simp
  have o2 : W6.cell? ⟨W5.heap.size, 1, none⟩ = some (.slice b1 S.bs.length k1) := by subst hW; go_simp
  have z0 : W6.frozen? ⟨W5.heap.size, 2, none⟩ = false := by subst hW; go_simp
  have n6 : New W5 W6 := by subst hW; (repeat (first | (with_reducible exact New.refl _) | (with_reducible assumption) | ((with_reducible refine New.setB ?_ ?_ _); focus (first | omega | (simp; omega) | (simp; done))) | (with_reducible refine New.alloc ?_ _) | (with_reducible refine New.drew ?_) | (with_reducible refine New.drewN ?_ _) | (with_reducible refine New.hat ?_ _) | ((with_reducible apply New.snart); (with_reducible assumption))))
  clear hW
  go_loopg [12, 13] S.hs.length (fun k d i wr => ∃ (m : Nat) (a : Option Addr) (c : Nat), i = .int .i64 m ∧ m + k = S.hs.length ∧ d = .bool (decide (p < m)) ∧ wr.cell? ⟨W5.heap.size, 2, none⟩ = some (.slice a (mid S.hs p x m).length c) ∧ wr.ownsRow (W5.heap.size + 1) 39 10 (.slice a (mid S.hs p x m).length c) (mid S.hs p x m).length ((mid S.hs p x m).flatMap HopR.enc) ∧ wr.cell? ⟨W5.heap.size, 0, none⟩ = some (.slice b0 S.ts.length k0) ∧ wr.cell? ⟨W5.heap.size, 1, none⟩ = some (.slice b1 S.bs.length k1) ∧ wr.frozen? ⟨W5.heap.size, 2, none⟩ = false ∧ New W5 wr)
  case atStart => exact ⟨0, none, 0, rfl, by omega, by simp, by rw [mid_zero]; exact o0, by rw [mid_zero]; exact World.ownsRow_nil _ _ _ _, o1, o2, z0, n6⟩
  case round =>
    clear o0 o1 o2 z0 n6
    obtain ⟨m, a, c, rfl, hmk, rfl, o0, hown, o1, o2, z0, nr⟩ := hrel
    have OW := Lib.hid hown
    clear hown
    have nW := hn.trans nr
    (replace q0 := nr.keep q0; replace q1 := nr.keep q1; replace q2 := nr.keep q2; replace d0 := New.keep (nr) d0; replace d1 := New.keep (nr) d1; replace d2 := New.keep (nr) d2; replace d3 := New.keep (nr) d3; replace d4 := New.keep (nr) d4; replace d5 := New.keep (nr) d5; replace d6 := New.keep (nr) d6; replace d7 := New.keep (nr) d7; replace d8 := New.keep (nr) d8; replace d9 := New.keep (nr) d9; replace fz := fz.keep nr)
    have sz : w.heap.size + 1 + 1 + 1 < wr.heap.size := fz.lt (by omega)
    have szo : W5.heap.size < wr.heap.size := cell_lt o0
    have sz3 : w.heap.size + 1 + 1 + 1 < W5.heap.size := by omega
    by_cases hlt : m < S.hs.length
    · obtain ⟨b, off, ha, hA⟩ := HR.out (by omega)
      rw [ha] at q2
      replace ha := Lib.hid ha
      have HA := Lib.hid hA
      clear hA
      obtain ⟨e0, e1, e2, e3, e4, e5, e6, e7, e8, e9⟩ := HopR.cells (HA.out.keep nW) m hlt
      have hml := mid_len (l := S.hs) (p := p) (x := x) (m := m)
      rcases Nat.lt_trichotomy m p with h1 | h1 | h1
      · have hd : decide (p < m) = false := decide_eq_false (by omega)
        have hg : decide (x.i < S.hs[m].i) = false := decide_eq_false (by have := PL.out m hlt h1; omega)
        have HM := Lib.hid (mid_lo (x := x) h1 hlt)
        go_wp2_with fail
        (refine wp_region_hat (by kernel_rfl) (by kernel_rfl) ?_; intro hatc hatf; (repeat (go_big_quiet_step ((fail)))); refine wpQuiet_nil ?_; rintro _ ⟨y, rfl⟩)
        have ny : New wr y.w := y.h
        generalize y.w = U at *
        clear y hatc hatf
        (replace z0 := ny.keepF o0 z0; replace o0 := ny.keep o0; replace o1 := ny.keep o1; replace o2 := ny.keep o2; replace q0 := ny.keep q0; replace q1 := ny.keep q1; replace q2 := ny.keep q2; replace d0 := New.keep (ny) d0; replace d1 := New.keep (ny) d1; replace d2 := New.keep (ny) d2; replace d3 := New.keep (ny) d3; replace d4 := New.keep (ny) d4; replace d5 := New.keep (ny) d5; replace d6 := New.keep (ny) d6; replace d7 := New.keep (ny) d7; replace d8 := New.keep (ny) d8; replace d9 := New.keep (ny) d9; replace e0 := New.keep (ny) e0; replace e1 := New.keep (ny) e1; replace e2 := New.keep (ny) e2; replace e3 := New.keep (ny) e3; replace e4 := New.keep (ny) e4; replace e5 := New.keep (ny) e5; replace e6 := New.keep (ny) e6; replace e7 := New.keep (ny) e7; replace e8 := New.keep (ny) e8; replace e9 := New.keep (ny) e9; replace fz := fz.keep ny; replace OW := Lib.hid (own_new OW.out ny); replace nr := nr.trans ny; replace nW := nW.trans ny; clear ny)
        go_upto_region 20 with fail
        have hsU : W5.heap.size < U.heap.size := cell_lt o0
        refine wp_region_loose 8 (fixV [.pointer (some ⟨W5.heap.size, 2, none⟩), .slice a ((mid S.hs p x m).length) c, .pointer (some ⟨w.heap.size + 1, 2, none⟩), .slice (some ⟨b, off, none⟩) S.hs.length S.c2, .int .i64 m, .pointer (some ⟨b, off + m * 10, none⟩), .agg #[.int .i64 S.hs[m].i, .int .i64 S.hs[m].fx, .int .i64 S.hs[m].fz, .int .i64 S.hs[m].fy, .int .i64 S.hs[m].tx, .int .i64 S.hs[m].tz, .int .i64 S.hs[m].ty, .bool S.hs[m].bo, .int .i64 S.hs[m].ar, .int .i64 S.hs[m].co]] (fun W v => Sl HopR.enc 10 W v [S.hs[m]])) (by kernel_rfl) (by kernel_rfl) (fixV_keep (fun _ _ _ h n => h.keep n) _) ?_ ?_
        · intro i o hi ho a' w' nn hr hdd
          rcases (show i = 0 ∨ i = 1 ∨ i = 2 ∨ i = 3 ∨ i = 4 ∨ i = 5 ∨ i = 6 ∨ i = 7 by omega) with rfl | rfl | rfl | rfl | rfl | rfl | rfl | rfl <;> obtain rfl := Option.some.inj ho
          · have r0 : (a'.tmps[11]?).getD undef = .pointer (some ⟨W5.heap.size, 0, none⟩) := (eval_get a' 11).symm.trans (hr 11 (by kernel_rfl))
            exact yields_value (.pointer (some ⟨W5.heap.size, 2, none⟩)) (by go_simp) ⟨New.refl _, rfl⟩
          · have r0 : (a'.tmps[75]?).getD undef = .pointer (some ⟨W5.heap.size, 2, none⟩) := (eval_get a' 75).symm.trans (hdd 0 75 (by omega) (by kernel_rfl) (by kernel_rfl))
            have c0 := nn.keep o0
            exact yields_value (.slice a ((mid S.hs p x m).length) c) (by go_simp) ⟨New.refl _, rfl⟩
          · have r0 : (a'.tmps[4]?).getD undef = .pointer (some ⟨w.heap.size + 1, 0, none⟩) := (eval_get a' 4).symm.trans (hr 4 (by kernel_rfl))
            exact yields_value (.pointer (some ⟨w.heap.size + 1, 2, none⟩)) (by go_simp) ⟨New.refl _, rfl⟩
          · have r0 : (a'.tmps[77]?).getD undef = .pointer (some ⟨w.heap.size + 1, 2, none⟩) := (eval_get a' 77).symm.trans (hdd 2 77 (by omega) (by kernel_rfl) (by kernel_rfl))
            have c0 := nn.keep q2
            exact yields_value (.slice (some ⟨b, off, none⟩) S.hs.length S.c2) (by go_simp) ⟨New.refl _, rfl⟩
          · have r0 : (a'.tmps[13]?).getD undef = .int .i64 m := (eval_get a' 13).symm.trans (hr 13 (by kernel_rfl))
            exact yields_value (.int .i64 m) (by go_simp) ⟨New.refl _, rfl⟩
          · have r0 : (a'.tmps[78]?).getD undef = .slice (some ⟨b, off, none⟩) S.hs.length S.c2 := (eval_get a' 78).symm.trans (hdd 3 78 (by omega) (by kernel_rfl) (by kernel_rfl))
            have r1 : (a'.tmps[79]?).getD undef = .int .i64 m := (eval_get a' 79).symm.trans (hdd 4 79 (by omega) (by kernel_rfl) (by kernel_rfl))
            exact yields_value (.pointer (some ⟨b, off + m * 10, none⟩)) (by go_simp) ⟨New.refl _, rfl⟩
          · have r0 : (a'.tmps[80]?).getD undef = .pointer (some ⟨b, off + m * 10, none⟩) := (eval_get a' 80).symm.trans (hdd 5 80 (by omega) (by kernel_rfl) (by kernel_rfl))
            replace e0 := New.keep (nn) e0; replace e1 := New.keep (nn) e1; replace e2 := New.keep (nn) e2; replace e3 := New.keep (nn) e3; replace e4 := New.keep (nn) e4; replace e5 := New.keep (nn) e5; replace e6 := New.keep (nn) e6; replace e7 := New.keep (nn) e7; replace e8 := New.keep (nn) e8; replace e9 := New.keep (nn) e9
            exact yields_value (.agg #[.int .i64 S.hs[m].i, .int .i64 S.hs[m].fx, .int .i64 S.hs[m].fz, .int .i64 S.hs[m].fy, .int .i64 S.hs[m].tx, .int .i64 S.hs[m].tz, .int .i64 S.hs[m].ty, .bool S.hs[m].bo, .int .i64 S.hs[m].ar, .int .i64 S.hs[m].co]) (by go_simp) ⟨New.refl _, rfl⟩
          · have r0 : (a'.tmps[81]?).getD undef = .agg #[.int .i64 S.hs[m].i, .int .i64 S.hs[m].fx, .int .i64 S.hs[m].fz, .int .i64 S.hs[m].fy, .int .i64 S.hs[m].tx, .int .i64 S.hs[m].tz, .int .i64 S.hs[m].ty, .bool S.hs[m].bo, .int .i64 S.hs[m].ar, .int .i64 S.hs[m].co] := (eval_get a' 81).symm.trans (hdd 6 81 (by omega) (by kernel_rfl) (by kernel_rfl))
            generalize S.hs[m] = y at *
            exact yields_value (w' := w'.alloc (.cells y.enc.toArray 39)) (.slice (some ⟨w'.heap.size, 0, none⟩) 1 1) (by unfold HopR.enc; go_simp) ⟨(New.refl w').alloc _, h_one w' y _⟩
        · intro vs w' nn hv
          have e1 : vs 1 = .slice a ((mid S.hs p x m).length) c := hv 1 (by omega)
          have s7 : Sl HopR.enc 10 w' (vs 7) [S.hs[m]] := hv 7 (by omega)
          simp only [List.take_succ_cons, List.take_zero, List.drop_succ_cons, List.drop_zero, putL, Act.put, List.setIfInBounds_toArray, List.set_cons_zero, List.set_cons_succ, Nat.reduceAdd, Nat.zero_add]
          rw [e1]
          generalize vs 7 = u7 at *
          clear hv e1
          (replace z0 := nn.keepF o0 z0; replace o0 := nn.keep o0; replace o1 := nn.keep o1; replace o2 := nn.keep o2; replace q0 := nn.keep q0; replace q1 := nn.keep q1; replace q2 := nn.keep q2; replace d0 := New.keep (nn) d0; replace d1 := New.keep (nn) d1; replace d2 := New.keep (nn) d2; replace d3 := New.keep (nn) d3; replace d4 := New.keep (nn) d4; replace d5 := New.keep (nn) d5; replace d6 := New.keep (nn) d6; replace d7 := New.keep (nn) d7; replace d8 := New.keep (nn) d8; replace d9 := New.keep (nn) d9; replace e0 := New.keep (nn) e0; replace e1 := New.keep (nn) e1; replace e2 := New.keep (nn) e2; replace e3 := New.keep (nn) e3; replace e4 := New.keep (nn) e4; replace e5 := New.keep (nn) e5; replace e6 := New.keep (nn) e6; replace e7 := New.keep (nn) e7; replace e8 := New.keep (nn) e8; replace e9 := New.keep (nn) e9; replace fz := fz.keep nn; replace OW := Lib.hid (own_new OW.out nn); replace nr := nr.trans nn; replace nW := nW.trans nn; clear nn)
          replace s7 := Lib.hid s7
          have hsw : W5.heap.size < w'.heap.size := cell_lt o0
          go_upto_region 16 with (at_builtin; refine wpList_append_sl rfl _ _ 26 rfl HopR.enc_len HopR.enc_one (W5.heap.size + 1) 39 i0 (.agg #[.int .i64 HopR.zero.i, .int .i64 HopR.zero.fx, .int .i64 HopR.zero.fz, .int .i64 HopR.zero.fy, .int .i64 HopR.zero.tx, .int .i64 HopR.zero.tz, .int .i64 HopR.zero.ty, .bool HopR.zero.bo, .int .i64 HopR.zero.ar, .int .i64 HopR.zero.co]) 80 Try.underlying26 hi hz0 hz1 hz2 rfl (by decide) _ (mid S.hs p x m) rfl OW.out _ [S.hs[m]] rfl s7.out (by unfold maxLen; simp; omega) (by simp; omega) (by omega) ?_; intro v2 Y hown2 hnew hblk; obtain ⟨a2, c2, N2, hN2, rfl⟩ := own_shape2 hown2; replace hN2 := Lib.hid hN2; have hb := hblk _ (Nat.lt_succ_self W5.heap.size); replace z0 := frozen_block hb z0; replace o0 := cell_block hb o0; replace o1 := cell_block hb o1; replace o2 := cell_block hb o2)
          refine Code.at (fun Z hZ => ?_)
          have nz : New W5 Z := by subst hZ; exact New.setB (Nat.le_refl W5.heap.size) (hnew W5 nr (by omega)) _
          have OZ : Hid (Z.ownsRow (W5.heap.size + 1) 39 10 (.slice a2 N2 c2) (mid S.hs p x m ++ [S.hs[m]]).length ((mid S.hs p x m ++ [S.hs[m]]).flatMap HopR.enc)) := Lib.hid (by subst hZ; exact ownsRow_setCell_below hown2 (by show W5.heap.size < W5.heap.size + 1; omega) _)
          have p0 : Z.cell? ⟨W5.heap.size, 2, none⟩ = some (.slice a2 N2 c2) := by subst hZ; exact World.cell?_setCell_same _ _ _ o0
          have p1 : Z.cell? ⟨W5.heap.size, 0, none⟩ = some (.slice b0 S.ts.length k0) := by subst hZ; exact cell_put o1 (by intro e; injection e with _ e2; omega) _
          have p2 : Z.cell? ⟨W5.heap.size, 1, none⟩ = some (.slice b1 S.bs.length k1) := by subst hZ; exact cell_put o2 (by intro e; injection e with _ e2; omega) _
          have pz : Z.frozen? ⟨W5.heap.size, 2, none⟩ = false := by subst hZ; rw [World.frozen?_setCell]; exact z0
          clear hZ
          go_wp2_with fail
          go_roundg (gk - 1)
          case measure => omega
          case rel => exact ⟨m + 1, a2, c2, by go_num, by omega, by (rw [decide_eq_false (by omega)]), by have t := p0; rw [hN2.out] at t; rw [HM.out]; exact t, by have t := OZ.out; rw [hN2.out] at t; rw [HM.out]; exact t, p1, p2, pz, nz⟩
      · have hd : decide (p < m) = false := decide_eq_false (by omega)
        have hg : decide (x.i < S.hs[m].i) = true := decide_eq_true (PH.out m hlt (by omega))
        have HM : Hid (mid S.hs p x (m + 1) = mid S.hs p x m ++ [x] ++ [S.hs[m]]) := Lib.hid (by subst h1; exact mid_at hlt)
        replace h1 := Lib.hid h1
        go_wp2_with fail
        (refine wp_region_hat (by kernel_rfl) (by kernel_rfl) ?_; intro hatc hatf; (repeat (go_big_quiet_step ((fail)))); refine wpQuiet_nil ?_; rintro _ ⟨y, rfl⟩)
        have ny : New wr y.w := y.h
        generalize y.w = U at *
        clear y hatc hatf
        (replace z0 := ny.keepF o0 z0; replace o0 := ny.keep o0; replace o1 := ny.keep o1; replace o2 := ny.keep o2; replace q0 := ny.keep q0; replace q1 := ny.keep q1; replace q2 := ny.keep q2; replace d0 := New.keep (ny) d0; replace d1 := New.keep (ny) d1; replace d2 := New.keep (ny) d2; replace d3 := New.keep (ny) d3; replace d4 := New.keep (ny) d4; replace d5 := New.keep (ny) d5; replace d6 := New.keep (ny) d6; replace d7 := New.keep (ny) d7; replace d8 := New.keep (ny) d8; replace d9 := New.keep (ny) d9; replace e0 := New.keep (ny) e0; replace e1 := New.keep (ny) e1; replace e2 := New.keep (ny) e2; replace e3 := New.keep (ny) e3; replace e4 := New.keep (ny) e4; replace e5 := New.keep (ny) e5; replace e6 := New.keep (ny) e6; replace e7 := New.keep (ny) e7; replace e8 := New.keep (ny) e8; replace e9 := New.keep (ny) e9; replace fz := fz.keep ny; replace OW := Lib.hid (own_new OW.out ny); replace nr := nr.trans ny; replace nW := nW.trans ny; clear ny)
        have hsU0 : W5.heap.size < U.heap.size := cell_lt o0
        go_upto_region 20 with (at_builtin; refine wpList_append_sl rfl _ _ 26 rfl HopR.enc_len HopR.enc_one (W5.heap.size + 1) 39 i0 (.agg #[.int .i64 HopR.zero.i, .int .i64 HopR.zero.fx, .int .i64 HopR.zero.fz, .int .i64 HopR.zero.fy, .int .i64 HopR.zero.tx, .int .i64 HopR.zero.tz, .int .i64 HopR.zero.ty, .bool HopR.zero.bo, .int .i64 HopR.zero.ar, .int .i64 HopR.zero.co]) 80 Try.underlying26 hi hz0 hz1 hz2 rfl (by decide) _ (mid S.hs p x m) rfl (World.ownsRow.alloc OW.out _) _ [x] rfl (h_one _ x _) (by unfold maxLen; simp; omega) (by simp; omega) (by simp; omega) ?_; intro v1 Y hown2 hnew hblk; obtain ⟨a1, c1, N1, hN1, rfl⟩ := own_shape2 hown2; replace hN1 := Lib.hid hN1; have hb := hblk _ (Nat.lt_succ_self W5.heap.size); replace z0 := frozen_block hb (((New.refl _).alloc _).keepF o0 z0); replace o0 := cell_block hb (((New.refl _).alloc _).keep o0); replace o1 := cell_block hb (((New.refl _).alloc _).keep o1); replace o2 := cell_block hb (((New.refl _).alloc _).keep o2))
        refine Code.at (fun Z1 hZ => ?_)
        replace nr : New W5 Z1 := by subst hZ; exact New.setB (Nat.le_refl W5.heap.size) (hnew W5 (nr.alloc _) (by omega)) _
        replace nW := hn.trans nr
        replace OW : Hid (Z1.ownsRow (W5.heap.size + 1) 39 10 (.slice a1 N1 c1) (mid S.hs p x m ++ [x]).length ((mid S.hs p x m ++ [x]).flatMap HopR.enc)) := Lib.hid (by subst hZ; exact ownsRow_setCell_below hown2 (by show W5.heap.size < W5.heap.size + 1; omega) _)
        replace o0 : Z1.cell? ⟨W5.heap.size, 2, none⟩ = some (.slice a1 N1 c1) := by subst hZ; exact World.cell?_setCell_same _ _ _ o0
        replace o1 : Z1.cell? ⟨W5.heap.size, 0, none⟩ = some (.slice b0 S.ts.length k0) := by subst hZ; exact cell_put o1 (by intro e; injection e with _ e2; omega) _
        replace o2 : Z1.cell? ⟨W5.heap.size, 1, none⟩ = some (.slice b1 S.bs.length k1) := by subst hZ; exact cell_put o2 (by intro e; injection e with _ e2; omega) _
        replace z0 : Z1.frozen? ⟨W5.heap.size, 2, none⟩ = false := by subst hZ; rw [World.frozen?_setCell]; exact z0
        clear hZ hown2 hnew hblk hb
        clear q0 q1 q2 d0 d1 d2 d3 d4 d5 d6 d7 d8 d9 e0 e1 e2 e3 e4 e5 e6 e7 e8 e9 fz
        have q2 := nr.keep Q5.out
        rw [ha.out] at q2
        obtain ⟨e0, e1, e2, e3, e4, e5, e6, e7, e8, e9⟩ := HopR.cells (HA.out.keep nW) m hlt
        have fz := FZ.out.keep nr
        have hml2 : (mid S.hs p x m ++ [x]).length ≤ m + 2 := by simp; omega
        have hsU : W5.heap.size < Z1.heap.size := cell_lt o0
        refine wp_region_loose 8 (fixV [.pointer (some ⟨W5.heap.size, 2, none⟩), .slice a1 (N1) c1, .pointer (some ⟨w.heap.size + 1, 2, none⟩), .slice (some ⟨b, off, none⟩) S.hs.length S.c2, .int .i64 m, .pointer (some ⟨b, off + m * 10, none⟩), .agg #[.int .i64 S.hs[m].i, .int .i64 S.hs[m].fx, .int .i64 S.hs[m].fz, .int .i64 S.hs[m].fy, .int .i64 S.hs[m].tx, .int .i64 S.hs[m].tz, .int .i64 S.hs[m].ty, .bool S.hs[m].bo, .int .i64 S.hs[m].ar, .int .i64 S.hs[m].co]] (fun W v => Sl HopR.enc 10 W v [S.hs[m]])) (by kernel_rfl) (by kernel_rfl) (fixV_keep (fun _ _ _ h n => h.keep n) _) ?_ ?_
        · intro i o hi ho a' w' nn hr hdd
          rcases (show i = 0 ∨ i = 1 ∨ i = 2 ∨ i = 3 ∨ i = 4 ∨ i = 5 ∨ i = 6 ∨ i = 7 by omega) with rfl | rfl | rfl | rfl | rfl | rfl | rfl | rfl <;> obtain rfl := Option.some.inj ho
          · have r0 : (a'.tmps[11]?).getD undef = .pointer (some ⟨W5.heap.size, 0, none⟩) := (eval_get a' 11).symm.trans (hr 11 (by kernel_rfl))
            exact yields_value (.pointer (some ⟨W5.heap.size, 2, none⟩)) (by go_simp) ⟨New.refl _, rfl⟩
          · have r0 : (a'.tmps[75]?).getD undef = .pointer (some ⟨W5.heap.size, 2, none⟩) := (eval_get a' 75).symm.trans (hdd 0 75 (by omega) (by kernel_rfl) (by kernel_rfl))
            have c0 := nn.keep o0
            exact yields_value (.slice a1 (N1) c1) (by go_simp) ⟨New.refl _, rfl⟩
          · have r0 : (a'.tmps[4]?).getD undef = .pointer (some ⟨w.heap.size + 1, 0, none⟩) := (eval_get a' 4).symm.trans (hr 4 (by kernel_rfl))
            exact yields_value (.pointer (some ⟨w.heap.size + 1, 2, none⟩)) (by go_simp) ⟨New.refl _, rfl⟩
          · have r0 : (a'.tmps[77]?).getD undef = .pointer (some ⟨w.heap.size + 1, 2, none⟩) := (eval_get a' 77).symm.trans (hdd 2 77 (by omega) (by kernel_rfl) (by kernel_rfl))
            have c0 := nn.keep q2
            exact yields_value (.slice (some ⟨b, off, none⟩) S.hs.length S.c2) (by go_simp) ⟨New.refl _, rfl⟩
          · have r0 : (a'.tmps[13]?).getD undef = .int .i64 m := (eval_get a' 13).symm.trans (hr 13 (by kernel_rfl))
            exact yields_value (.int .i64 m) (by go_simp) ⟨New.refl _, rfl⟩
          · have r0 : (a'.tmps[78]?).getD undef = .slice (some ⟨b, off, none⟩) S.hs.length S.c2 := (eval_get a' 78).symm.trans (hdd 3 78 (by omega) (by kernel_rfl) (by kernel_rfl))
            have r1 : (a'.tmps[79]?).getD undef = .int .i64 m := (eval_get a' 79).symm.trans (hdd 4 79 (by omega) (by kernel_rfl) (by kernel_rfl))
            exact yields_value (.pointer (some ⟨b, off + m * 10, none⟩)) (by go_simp) ⟨New.refl _, rfl⟩
          · have r0 : (a'.tmps[80]?).getD undef = .pointer (some ⟨b, off + m * 10, none⟩) := (eval_get a' 80).symm.trans (hdd 5 80 (by omega) (by kernel_rfl) (by kernel_rfl))
            replace e0 := New.keep (nn) e0; replace e1 := New.keep (nn) e1; replace e2 := New.keep (nn) e2; replace e3 := New.keep (nn) e3; replace e4 := New.keep (nn) e4; replace e5 := New.keep (nn) e5; replace e6 := New.keep (nn) e6; replace e7 := New.keep (nn) e7; replace e8 := New.keep (nn) e8; replace e9 := New.keep (nn) e9
            exact yields_value (.agg #[.int .i64 S.hs[m].i, .int .i64 S.hs[m].fx, .int .i64 S.hs[m].fz, .int .i64 S.hs[m].fy, .int .i64 S.hs[m].tx, .int .i64 S.hs[m].tz, .int .i64 S.hs[m].ty, .bool S.hs[m].bo, .int .i64 S.hs[m].ar, .int .i64 S.hs[m].co]) (by go_simp) ⟨New.refl _, rfl⟩
          · have r0 : (a'.tmps[81]?).getD undef = .agg #[.int .i64 S.hs[m].i, .int .i64 S.hs[m].fx, .int .i64 S.hs[m].fz, .int .i64 S.hs[m].fy, .int .i64 S.hs[m].tx, .int .i64 S.hs[m].tz, .int .i64 S.hs[m].ty, .bool S.hs[m].bo, .int .i64 S.hs[m].ar, .int .i64 S.hs[m].co] := (eval_get a' 81).symm.trans (hdd 6 81 (by omega) (by kernel_rfl) (by kernel_rfl))
            generalize S.hs[m] = y at *
            exact yields_value (w' := w'.alloc (.cells y.enc.toArray 39)) (.slice (some ⟨w'.heap.size, 0, none⟩) 1 1) (by unfold HopR.enc; go_simp) ⟨(New.refl w').alloc _, h_one w' y _⟩
        · intro vs w' nn hv
          have e1 : vs 1 = .slice a1 (N1) c1 := hv 1 (by omega)
          have s7 : Sl HopR.enc 10 w' (vs 7) [S.hs[m]] := hv 7 (by omega)
          simp only [List.take_succ_cons, List.take_zero, List.drop_succ_cons, List.drop_zero, putL, Act.put, List.setIfInBounds_toArray, List.set_cons_zero, List.set_cons_succ, Nat.reduceAdd, Nat.zero_add]
          rw [e1]
          generalize vs 7 = u7 at *
          clear hv e1
          (replace z0 := nn.keepF o0 z0; replace o0 := nn.keep o0; replace o1 := nn.keep o1; replace o2 := nn.keep o2; replace q2 := nn.keep q2; replace e0 := New.keep (nn) e0; replace e1 := New.keep (nn) e1; replace e2 := New.keep (nn) e2; replace e3 := New.keep (nn) e3; replace e4 := New.keep (nn) e4; replace e5 := New.keep (nn) e5; replace e6 := New.keep (nn) e6; replace e7 := New.keep (nn) e7; replace e8 := New.keep (nn) e8; replace e9 := New.keep (nn) e9; replace fz := fz.keep nn; replace OW := Lib.hid (own_new OW.out nn); replace nr := nr.trans nn; replace nW := nW.trans nn; clear nn)
          replace s7 := Lib.hid s7
          have hsw : W5.heap.size < w'.heap.size := cell_lt o0
          go_upto_region 16 with (at_builtin; refine wpList_append_sl rfl _ _ 26 rfl HopR.enc_len HopR.enc_one (W5.heap.size + 1) 39 i0 (.agg #[.int .i64 HopR.zero.i, .int .i64 HopR.zero.fx, .int .i64 HopR.zero.fz, .int .i64 HopR.zero.fy, .int .i64 HopR.zero.tx, .int .i64 HopR.zero.tz, .int .i64 HopR.zero.ty, .bool HopR.zero.bo, .int .i64 HopR.zero.ar, .int .i64 HopR.zero.co]) 80 Try.underlying26 hi hz0 hz1 hz2 rfl (by decide) _ (mid S.hs p x m ++ [x]) rfl OW.out _ [S.hs[m]] rfl s7.out (by unfold maxLen; simp; omega) (by simp; omega) (by omega) ?_; intro v2 Y hown2 hnew hblk; obtain ⟨a2, c2, N2, hN2, rfl⟩ := own_shape2 hown2; replace hN2 := Lib.hid hN2; have hb := hblk _ (Nat.lt_succ_self W5.heap.size); replace z0 := frozen_block hb z0; replace o0 := cell_block hb o0; replace o1 := cell_block hb o1; replace o2 := cell_block hb o2)
          refine Code.at (fun Z hZ => ?_)
          have nz : New W5 Z := by subst hZ; exact New.setB (Nat.le_refl W5.heap.size) (hnew W5 nr (by omega)) _
          have OZ : Hid (Z.ownsRow (W5.heap.size + 1) 39 10 (.slice a2 N2 c2) ((mid S.hs p x m ++ [x]) ++ [S.hs[m]]).length (((mid S.hs p x m ++ [x]) ++ [S.hs[m]]).flatMap HopR.enc)) := Lib.hid (by subst hZ; exact ownsRow_setCell_below hown2 (by show W5.heap.size < W5.heap.size + 1; omega) _)
          have p0 : Z.cell? ⟨W5.heap.size, 2, none⟩ = some (.slice a2 N2 c2) := by subst hZ; exact World.cell?_setCell_same _ _ _ o0
          have p1 : Z.cell? ⟨W5.heap.size, 0, none⟩ = some (.slice b0 S.ts.length k0) := by subst hZ; exact cell_put o1 (by intro e; injection e with _ e2; omega) _
          have p2 : Z.cell? ⟨W5.heap.size, 1, none⟩ = some (.slice b1 S.bs.length k1) := by subst hZ; exact cell_put o2 (by intro e; injection e with _ e2; omega) _
          have pz : Z.frozen? ⟨W5.heap.size, 2, none⟩ = false := by subst hZ; rw [World.frozen?_setCell]; exact z0
          clear hZ
          go_wp2_with fail
          go_roundg (gk - 1)
          case measure => omega
          case rel => exact ⟨m + 1, a2, c2, by go_num, by omega, by (rw [decide_eq_true (by have := h1.out; omega)]), by have t := p0; rw [hN2.out] at t; rw [HM.out]; exact t, by have t := OZ.out; rw [hN2.out] at t; rw [HM.out]; exact t, p1, p2, pz, nz⟩
      · have hd : decide (p < m) = true := decide_eq_true h1
        have HM := Lib.hid (mid_hi (x := x) h1 hlt)
        go_wp2_with fail
        (refine wp_region_hat (by kernel_rfl) (by kernel_rfl) ?_; intro hatc hatf; (repeat (go_big_quiet_step ((fail)))); refine wpQuiet_nil ?_; rintro _ ⟨y, rfl⟩)
        have ny : New wr y.w := y.h
        generalize y.w = U at *
        clear y hatc hatf
        (replace z0 := ny.keepF o0 z0; replace o0 := ny.keep o0; replace o1 := ny.keep o1; replace o2 := ny.keep o2; replace q0 := ny.keep q0; replace q1 := ny.keep q1; replace q2 := ny.keep q2; replace d0 := New.keep (ny) d0; replace d1 := New.keep (ny) d1; replace d2 := New.keep (ny) d2; replace d3 := New.keep (ny) d3; replace d4 := New.keep (ny) d4; replace d5 := New.keep (ny) d5; replace d6 := New.keep (ny) d6; replace d7 := New.keep (ny) d7; replace d8 := New.keep (ny) d8; replace d9 := New.keep (ny) d9; replace e0 := New.keep (ny) e0; replace e1 := New.keep (ny) e1; replace e2 := New.keep (ny) e2; replace e3 := New.keep (ny) e3; replace e4 := New.keep (ny) e4; replace e5 := New.keep (ny) e5; replace e6 := New.keep (ny) e6; replace e7 := New.keep (ny) e7; replace e8 := New.keep (ny) e8; replace e9 := New.keep (ny) e9; replace fz := fz.keep ny; replace OW := Lib.hid (own_new OW.out ny); replace nr := nr.trans ny; replace nW := nW.trans ny; clear ny)
        go_upto_region 20 with fail
        have hsU : W5.heap.size < U.heap.size := cell_lt o0
        refine wp_region_loose 8 (fixV [.pointer (some ⟨W5.heap.size, 2, none⟩), .slice a ((mid S.hs p x m).length) c, .pointer (some ⟨w.heap.size + 1, 2, none⟩), .slice (some ⟨b, off, none⟩) S.hs.length S.c2, .int .i64 m, .pointer (some ⟨b, off + m * 10, none⟩), .agg #[.int .i64 S.hs[m].i, .int .i64 S.hs[m].fx, .int .i64 S.hs[m].fz, .int .i64 S.hs[m].fy, .int .i64 S.hs[m].tx, .int .i64 S.hs[m].tz, .int .i64 S.hs[m].ty, .bool S.hs[m].bo, .int .i64 S.hs[m].ar, .int .i64 S.hs[m].co]] (fun W v => Sl HopR.enc 10 W v [S.hs[m]])) (by kernel_rfl) (by kernel_rfl) (fixV_keep (fun _ _ _ h n => h.keep n) _) ?_ ?_
        · intro i o hi ho a' w' nn hr hdd
          rcases (show i = 0 ∨ i = 1 ∨ i = 2 ∨ i = 3 ∨ i = 4 ∨ i = 5 ∨ i = 6 ∨ i = 7 by omega) with rfl | rfl | rfl | rfl | rfl | rfl | rfl | rfl <;> obtain rfl := Option.some.inj ho
          · have r0 : (a'.tmps[11]?).getD undef = .pointer (some ⟨W5.heap.size, 0, none⟩) := (eval_get a' 11).symm.trans (hr 11 (by kernel_rfl))
            exact yields_value (.pointer (some ⟨W5.heap.size, 2, none⟩)) (by go_simp) ⟨New.refl _, rfl⟩
          · have r0 : (a'.tmps[75]?).getD undef = .pointer (some ⟨W5.heap.size, 2, none⟩) := (eval_get a' 75).symm.trans (hdd 0 75 (by omega) (by kernel_rfl) (by kernel_rfl))
            have c0 := nn.keep o0
            exact yields_value (.slice a ((mid S.hs p x m).length) c) (by go_simp) ⟨New.refl _, rfl⟩
          · have r0 : (a'.tmps[4]?).getD undef = .pointer (some ⟨w.heap.size + 1, 0, none⟩) := (eval_get a' 4).symm.trans (hr 4 (by kernel_rfl))
            exact yields_value (.pointer (some ⟨w.heap.size + 1, 2, none⟩)) (by go_simp) ⟨New.refl _, rfl⟩
          · have r0 : (a'.tmps[77]?).getD undef = .pointer (some ⟨w.heap.size + 1, 2, none⟩) := (eval_get a' 77).symm.trans (hdd 2 77 (by omega) (by kernel_rfl) (by kernel_rfl))
            have c0 := nn.keep q2
            exact yields_value (.slice (some ⟨b, off, none⟩) S.hs.length S.c2) (by go_simp) ⟨New.refl _, rfl⟩
          · have r0 : (a'.tmps[13]?).getD undef = .int .i64 m := (eval_get a' 13).symm.trans (hr 13 (by kernel_rfl))
            exact yields_value (.int .i64 m) (by go_simp) ⟨New.refl _, rfl⟩
          · have r0 : (a'.tmps[78]?).getD undef = .slice (some ⟨b, off, none⟩) S.hs.length S.c2 := (eval_get a' 78).symm.trans (hdd 3 78 (by omega) (by kernel_rfl) (by kernel_rfl))
            have r1 : (a'.tmps[79]?).getD undef = .int .i64 m := (eval_get a' 79).symm.trans (hdd 4 79 (by omega) (by kernel_rfl) (by kernel_rfl))
            exact yields_value (.pointer (some ⟨b, off + m * 10, none⟩)) (by go_simp) ⟨New.refl _, rfl⟩
          · have r0 : (a'.tmps[80]?).getD undef = .pointer (some ⟨b, off + m * 10, none⟩) := (eval_get a' 80).symm.trans (hdd 5 80 (by omega) (by kernel_rfl) (by kernel_rfl))
            replace e0 := New.keep (nn) e0; replace e1 := New.keep (nn) e1; replace e2 := New.keep (nn) e2; replace e3 := New.keep (nn) e3; replace e4 := New.keep (nn) e4; replace e5 := New.keep (nn) e5; replace e6 := New.keep (nn) e6; replace e7 := New.keep (nn) e7; replace e8 := New.keep (nn) e8; replace e9 := New.keep (nn) e9
            exact yields_value (.agg #[.int .i64 S.hs[m].i, .int .i64 S.hs[m].fx, .int .i64 S.hs[m].fz, .int .i64 S.hs[m].fy, .int .i64 S.hs[m].tx, .int .i64 S.hs[m].tz, .int .i64 S.hs[m].ty, .bool S.hs[m].bo, .int .i64 S.hs[m].ar, .int .i64 S.hs[m].co]) (by go_simp) ⟨New.refl _, rfl⟩
          · have r0 : (a'.tmps[81]?).getD undef = .agg #[.int .i64 S.hs[m].i, .int .i64 S.hs[m].fx, .int .i64 S.hs[m].fz, .int .i64 S.hs[m].fy, .int .i64 S.hs[m].tx, .int .i64 S.hs[m].tz, .int .i64 S.hs[m].ty, .bool S.hs[m].bo, .int .i64 S.hs[m].ar, .int .i64 S.hs[m].co] := (eval_get a' 81).symm.trans (hdd 6 81 (by omega) (by kernel_rfl) (by kernel_rfl))
            generalize S.hs[m] = y at *
            exact yields_value (w' := w'.alloc (.cells y.enc.toArray 39)) (.slice (some ⟨w'.heap.size, 0, none⟩) 1 1) (by unfold HopR.enc; go_simp) ⟨(New.refl w').alloc _, h_one w' y _⟩
        · intro vs w' nn hv
          have e1 : vs 1 = .slice a ((mid S.hs p x m).length) c := hv 1 (by omega)
          have s7 : Sl HopR.enc 10 w' (vs 7) [S.hs[m]] := hv 7 (by omega)
          simp only [List.take_succ_cons, List.take_zero, List.drop_succ_cons, List.drop_zero, putL, Act.put, List.setIfInBounds_toArray, List.set_cons_zero, List.set_cons_succ, Nat.reduceAdd, Nat.zero_add]
          rw [e1]
          generalize vs 7 = u7 at *
          clear hv e1
          (replace z0 := nn.keepF o0 z0; replace o0 := nn.keep o0; replace o1 := nn.keep o1; replace o2 := nn.keep o2; replace q0 := nn.keep q0; replace q1 := nn.keep q1; replace q2 := nn.keep q2; replace d0 := New.keep (nn) d0; replace d1 := New.keep (nn) d1; replace d2 := New.keep (nn) d2; replace d3 := New.keep (nn) d3; replace d4 := New.keep (nn) d4; replace d5 := New.keep (nn) d5; replace d6 := New.keep (nn) d6; replace d7 := New.keep (nn) d7; replace d8 := New.keep (nn) d8; replace d9 := New.keep (nn) d9; replace e0 := New.keep (nn) e0; replace e1 := New.keep (nn) e1; replace e2 := New.keep (nn) e2; replace e3 := New.keep (nn) e3; replace e4 := New.keep (nn) e4; replace e5 := New.keep (nn) e5; replace e6 := New.keep (nn) e6; replace e7 := New.keep (nn) e7; replace e8 := New.keep (nn) e8; replace e9 := New.keep (nn) e9; replace fz := fz.keep nn; replace OW := Lib.hid (own_new OW.out nn); replace nr := nr.trans nn; replace nW := nW.trans nn; clear nn)
          replace s7 := Lib.hid s7
          have hsw : W5.heap.size < w'.heap.size := cell_lt o0
          go_upto_region 16 with (at_builtin; refine wpList_append_sl rfl _ _ 26 rfl HopR.enc_len HopR.enc_one (W5.heap.size + 1) 39 i0 (.agg #[.int .i64 HopR.zero.i, .int .i64 HopR.zero.fx, .int .i64 HopR.zero.fz, .int .i64 HopR.zero.fy, .int .i64 HopR.zero.tx, .int .i64 HopR.zero.tz, .int .i64 HopR.zero.ty, .bool HopR.zero.bo, .int .i64 HopR.zero.ar, .int .i64 HopR.zero.co]) 80 Try.underlying26 hi hz0 hz1 hz2 rfl (by decide) _ (mid S.hs p x m) rfl OW.out _ [S.hs[m]] rfl s7.out (by unfold maxLen; simp; omega) (by simp; omega) (by omega) ?_; intro v2 Y hown2 hnew hblk; obtain ⟨a2, c2, N2, hN2, rfl⟩ := own_shape2 hown2; replace hN2 := Lib.hid hN2; have hb := hblk _ (Nat.lt_succ_self W5.heap.size); replace z0 := frozen_block hb z0; replace o0 := cell_block hb o0; replace o1 := cell_block hb o1; replace o2 := cell_block hb o2)
          refine Code.at (fun Z hZ => ?_)
          have nz : New W5 Z := by subst hZ; exact New.setB (Nat.le_refl W5.heap.size) (hnew W5 nr (by omega)) _
          have OZ : Hid (Z.ownsRow (W5.heap.size + 1) 39 10 (.slice a2 N2 c2) (mid S.hs p x m ++ [S.hs[m]]).length ((mid S.hs p x m ++ [S.hs[m]]).flatMap HopR.enc)) := Lib.hid (by subst hZ; exact ownsRow_setCell_below hown2 (by show W5.heap.size < W5.heap.size + 1; omega) _)
          have p0 : Z.cell? ⟨W5.heap.size, 2, none⟩ = some (.slice a2 N2 c2) := by subst hZ; exact World.cell?_setCell_same _ _ _ o0
          have p1 : Z.cell? ⟨W5.heap.size, 0, none⟩ = some (.slice b0 S.ts.length k0) := by subst hZ; exact cell_put o1 (by intro e; injection e with _ e2; omega) _
          have p2 : Z.cell? ⟨W5.heap.size, 1, none⟩ = some (.slice b1 S.bs.length k1) := by subst hZ; exact cell_put o2 (by intro e; injection e with _ e2; omega) _
          have pz : Z.frozen? ⟨W5.heap.size, 2, none⟩ = false := by subst hZ; rw [World.frozen?_setCell]; exact z0
          clear hZ
          go_wp2_with fail
          go_roundg (gk - 1)
          case measure => omega
          case rel => exact ⟨m + 1, a2, c2, by go_num, by omega, by (rw [decide_eq_true (by omega)]), by have t := p0; rw [hN2.out] at t; rw [HM.out]; exact t, by have t := OZ.out; rw [hN2.out] at t; rw [HM.out]; exact t, p1, p2, pz, nz⟩
    ·
      obtain rfl : m = S.hs.length := by omega
      by_cases hpe : p < S.hs.length
      · have hd : decide (p < S.hs.length) = true := decide_eq_true hpe
        have HE := Lib.hid (mid_end (x := x) hpe)
        have SV : Hid (SoupV.ok ⟨S.ts, S.bs, mid S.hs p x S.hs.length, b0, b1, a, k0, k1, c⟩ wr ∧ SoupV.own ⟨S.ts, S.bs, mid S.hs p x S.hs.length, b0, b1, a, k0, k1, c⟩ V.heap.size) := Lib.hid ⟨⟨HS'.out.t.keep nr, HS'.out.b.keep nr, own_sl HopR.enc_len OW.out⟩, ⟨HO'.out.t, HO'.out.b, fun j hj => Nat.le_trans (by omega) (own_block OW.out j hj)⟩⟩
        go_wp2_with (refine wpList_store_row rfl 28 _ _ rfl _ _ rfl rfl (fz.keep (by (repeat (first | (with_reducible exact New.refl _) | (with_reducible assumption) | ((with_reducible refine New.setB ?_ ?_ _); focus (first | omega | (simp; omega) | (simp; done))) | (with_reducible refine New.alloc ?_ _) | (with_reducible refine New.drew ?_) | (with_reducible refine New.drewN ?_ _) | (with_reducible refine New.hat ?_ _) | ((with_reducible apply New.snart); (with_reducible assumption)))))) (by kernel_rfl) (by intro v hv; simp at hv; rcases hv with rfl | rfl | rfl <;> rfl) (fun Q nQ kQ cQ => ?_))
        have nz := nQ w (by first | exact nW | (repeat (first | (with_reducible exact New.refl _) | (with_reducible assumption) | ((with_reducible refine New.setB ?_ ?_ _); focus (first | omega | (simp; omega) | (simp; done))) | (with_reducible refine New.alloc ?_ _) | (with_reducible refine New.drew ?_) | (with_reducible refine New.drewN ?_ _) | (with_reducible refine New.hat ?_ _) | ((with_reducible apply New.snart); (with_reducible assumption))))) (by omega)
        have okq := SoupV.ok_but (SV.out.1) (SV.out.2) szV kQ
        have r0 : Q.cell? ⟨w.heap.size + 1 + 1 + 1, 0, none⟩ = some (.slice b0 S.ts.length k0) := by have := cQ 0 (by simp); simpa using this
        have r1 : Q.cell? ⟨w.heap.size + 1 + 1 + 1, 1, none⟩ = some (.slice b1 S.bs.length k1) := by have := cQ 1 (by simp); simpa using this
        have r2 : Q.cell? ⟨w.heap.size + 1 + 1 + 1, 2, none⟩ = some (.slice a ((mid S.hs p x S.hs.length).length) c) := by have := cQ 2 (by simp); simpa using this
        clear nQ kQ cQ
        refine bodyPost_ret (v := .tuple #[.agg #[.slice b0 S.ts.length k0, .slice b1 S.bs.length k1, .slice a ((mid S.hs p x S.hs.length).length) c], .int .i64 0]) (by simp [results, Try.results13, go_sem, r0, r1, r2]) rfl ?_
        exact ⟨⟨S.ts, S.bs, mid S.hs p x S.hs.length, b0, b1, a, k0, k1, c⟩, by rfl, okq, rfl, rfl, HE.out, SV.out.2.mono (by omega), nz⟩
      · have hd : decide (p < S.hs.length) = false := decide_eq_false hpe
        have HE : Hid (mid S.hs p x S.hs.length ++ [x] = HopR.put S.hs p x) := Lib.hid (by
          obtain rfl : p = S.hs.length := by omega
          rw [mid_full]
          unfold HopR.put
          simp)
        have hml := mid_len (l := S.hs) (p := p) (x := x) (m := S.hs.length)
        clear hpe
        go_upto_region 23 with (at_builtin; refine wpList_append_sl rfl _ _ 26 rfl HopR.enc_len HopR.enc_one (W5.heap.size + 1) 39 i0 (.agg #[.int .i64 HopR.zero.i, .int .i64 HopR.zero.fx, .int .i64 HopR.zero.fz, .int .i64 HopR.zero.fy, .int .i64 HopR.zero.tx, .int .i64 HopR.zero.tz, .int .i64 HopR.zero.ty, .bool HopR.zero.bo, .int .i64 HopR.zero.ar, .int .i64 HopR.zero.co]) 80 Try.underlying26 hi hz0 hz1 hz2 rfl (by decide) _ (mid S.hs p x S.hs.length) rfl (World.ownsRow.alloc OW.out _) _ [x] rfl (h_one _ x _) (by unfold maxLen; simp; omega) (by simp; omega) (by simp; omega) ?_; intro v1 Y hown2 hnew hblk; obtain ⟨a1, c1, N1, hN1, rfl⟩ := own_shape2 hown2; replace hN1 := Lib.hid hN1; have hb := hblk _ (Nat.lt_succ_self W5.heap.size); replace z0 := frozen_block hb (((New.refl _).alloc _).keepF o0 z0); replace o0 := cell_block hb (((New.refl _).alloc _).keep o0); replace o1 := cell_block hb (((New.refl _).alloc _).keep o1); replace o2 := cell_block hb (((New.refl _).alloc _).keep o2))
        refine Code.at (fun Z1 hZ => ?_)
        replace nr : New W5 Z1 := by subst hZ; exact New.setB (Nat.le_refl W5.heap.size) (hnew W5 (nr.alloc _) (by omega)) _
        replace nW := hn.trans nr
        replace OW : Hid (Z1.ownsRow (W5.heap.size + 1) 39 10 (.slice a1 N1 c1) (mid S.hs p x S.hs.length ++ [x]).length ((mid S.hs p x S.hs.length ++ [x]).flatMap HopR.enc)) := Lib.hid (by subst hZ; exact ownsRow_setCell_below hown2 (by show W5.heap.size < W5.heap.size + 1; omega) _)
        replace o0 : Z1.cell? ⟨W5.heap.size, 2, none⟩ = some (.slice a1 N1 c1) := by subst hZ; exact World.cell?_setCell_same _ _ _ o0
        replace o1 : Z1.cell? ⟨W5.heap.size, 0, none⟩ = some (.slice b0 S.ts.length k0) := by subst hZ; exact cell_put o1 (by intro e; injection e with _ e2; omega) _
        replace o2 : Z1.cell? ⟨W5.heap.size, 1, none⟩ = some (.slice b1 S.bs.length k1) := by subst hZ; exact cell_put o2 (by intro e; injection e with _ e2; omega) _
        replace z0 : Z1.frozen? ⟨W5.heap.size, 2, none⟩ = false := by subst hZ; rw [World.frozen?_setCell]; exact z0
        clear hZ hown2 hnew hblk hb
        clear q0 q1 q2 d0 d1 d2 d3 d4 d5 d6 d7 d8 d9 fz
        have fz := FZ.out.keep nr
        have OW1 := OW.out
        rw [hN1.out] at OW1
        replace OW := Lib.hid OW1
        have SV : Hid (SoupV.ok ⟨S.ts, S.bs, mid S.hs p x S.hs.length ++ [x], b0, b1, a1, k0, k1, c1⟩ Z1 ∧ SoupV.own ⟨S.ts, S.bs, mid S.hs p x S.hs.length ++ [x], b0, b1, a1, k0, k1, c1⟩ V.heap.size) := Lib.hid ⟨⟨HS'.out.t.keep nr, HS'.out.b.keep nr, own_sl HopR.enc_len OW.out⟩, ⟨HO'.out.t, HO'.out.b, fun j hj => Nat.le_trans (by omega) (own_block OW.out j hj)⟩⟩
        go_wp2_with (refine wpList_store_row rfl 28 _ _ rfl _ _ rfl rfl (fz.keep (by (repeat (first | (with_reducible exact New.refl _) | (with_reducible assumption) | ((with_reducible refine New.setB ?_ ?_ _); focus (first | omega | (simp; omega) | (simp; done))) | (with_reducible refine New.alloc ?_ _) | (with_reducible refine New.drew ?_) | (with_reducible refine New.drewN ?_ _) | (with_reducible refine New.hat ?_ _) | ((with_reducible apply New.snart); (with_reducible assumption)))))) (by kernel_rfl) (by intro v hv; simp at hv; rcases hv with rfl | rfl | rfl <;> rfl) (fun Q nQ kQ cQ => ?_))
        have nz := nQ w (by first | exact nW | (repeat (first | (with_reducible exact New.refl _) | (with_reducible assumption) | ((with_reducible refine New.setB ?_ ?_ _); focus (first | omega | (simp; omega) | (simp; done))) | (with_reducible refine New.alloc ?_ _) | (with_reducible refine New.drew ?_) | (with_reducible refine New.drewN ?_ _) | (with_reducible refine New.hat ?_ _) | ((with_reducible apply New.snart); (with_reducible assumption))))) (by omega)
        have okq := SoupV.ok_but (SV.out.1) (SV.out.2) szV kQ
        have r0 : Q.cell? ⟨w.heap.size + 1 + 1 + 1, 0, none⟩ = some (.slice b0 S.ts.length k0) := by have := cQ 0 (by simp); simpa using this
        have r1 : Q.cell? ⟨w.heap.size + 1 + 1 + 1, 1, none⟩ = some (.slice b1 S.bs.length k1) := by have := cQ 1 (by simp); simpa using this
        have r2 : Q.cell? ⟨w.heap.size + 1 + 1 + 1, 2, none⟩ = some (.slice a1 (N1) c1) := by have := cQ 2 (by simp); simpa using this
        clear nQ kQ cQ
        refine bodyPost_ret (v := .tuple #[.agg #[.slice b0 S.ts.length k0, .slice b1 S.bs.length k1, .slice a1 (N1) c1], .int .i64 0]) (by simp [results, Try.results13, go_sem, r0, r1, r2]) rfl ?_
        exact ⟨⟨S.ts, S.bs, mid S.hs p x S.hs.length ++ [x], b0, b1, a1, k0, k1, c1⟩, by rw [hN1.out], okq, rfl, rfl, HE.out, SV.out.2.mono (by omega), nz⟩

end Go.Proofs.Ytonngfogbnfbnaa
