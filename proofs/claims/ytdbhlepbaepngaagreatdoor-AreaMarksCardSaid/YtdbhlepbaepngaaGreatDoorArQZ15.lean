import Derived.Test.YtdbhlepbaepngaaGreatDoorArDZ15
import Derived.Test.YtdbhlepbaepngaaGreatDoorArFZ15
import Derived.Test.YtdbhlepbaepngaaGreatDoorArIZ15
import Derived.Test.YtdbhlepbaepngaaGreatDoorArKZ15
import Derived.Test.YtdbhlepbaepngaaGreatDoorOgQZ15
import Derived.Test.YtdbhlepbaepngaaGreatDoorOgXaZ15
import Derived.Test.YtdbhlepbaepngaaGreatDoorLoose
import Derived.Test.YtdbhlepbaepngaaGreatDoorBinsObZ15
import Derived.Maps.AppendAt

/- Layer 12: the document's Mark. -/
namespace Go.Proofs.YtdbhlepbaepngaaGreatDoor
open Go.RowKit
set_option linter.unusedVariables false

theorem rq_rows_info : (Tryz.prog.info? 37).map (fun i => (i.zero, i.size, i.bytes)) = some (some (.slice none 0 0), 1, 24) := by kernel_rfl
theorem rq_fl_info : (Tryz.prog.info? 39).map (fun i => (i.zero, i.size, i.bytes)) = some (some (.agg #[.int .i64 0, .int .i64 0, .int .i64 0]), 3, 24) := by kernel_rfl
/-- A grid is answered, or nothing beside an error. -/
def RefOuts (er : Int) (x z wi d : Int) (F : List (List Fl)) (w : World) (e : Ending) (w' : World) : Prop :=
  ∃ O : Gd, e = .returned (.tuple #[.agg #[.int .i64 O.x, .int .i64 O.z, .int .i64 O.w, .int .i64 O.d, .slice O.ga O.L.length O.gc], .int .i64 er]) ∧ O.ok w' ∧ (er = 0 → O.x = x ∧ O.z = z ∧ O.w = wi ∧ O.d = d ∧ O.L = F) ∧ (er ≠ 0 → O.x = 0 ∧ O.z = 0 ∧ O.w = 0 ∧ O.d = 0 ∧ O.L = []) ∧ New w w'
theorem rq_fl_sl (w : World) (f : Fl) (t : TypeId) : Sl Fl.enc 3 (w.alloc (.cells #[.int .i64 f.y, .int .i64 f.top, .int .i64 f.area] t)) (.slice (some ⟨w.heap.size, 0, none⟩) 1 1) [f] :=
  ⟨_, _, rfl, Nat.le_refl _, by unfold maxLen; omega, fun h => (by cases h), fun _ => ⟨w.heap.size, 0, rfl, fun j hj i hi => by
    have hj' : j = 0 := by simpa using hj
    subst hj'
    have hi' : i < 3 := hi
    have hz := heap_new w (.cells #[.int .i64 f.y, .int .i64 f.top, .int .i64 f.area] t)
    rcases (show i = 0 ∨ i = 1 ∨ i = 2 by omega) with rfl | rfl | rfl <;> exact cell_of_heap hz rfl⟩⟩

set_option maxHeartbeats 8000000 in
set_option maxRecDepth 100000 in
theorem rr_Mark (C : CfgR) (G : Gd) (at0 : Option Addr) (l : List BoxR) (cap : Nat) (hl : l.length ≤ maxLen) (w : World) (hG : G.ok w) (H : RowIn BoxR.enc 8 w at0 l) :
    Calls Tryz.prog 7 #[.agg #[.int .i64 C.cl, .int .i64 C.cb, .int .i64 C.ht, .int .i64 C.ri, .int .i64 C.ru, .int .i64 C.wd, .int .i64 C.dp], .agg #[.int .i64 G.x, .int .i64 G.z, .int .i64 G.w, .int .i64 G.d, .slice G.ga G.L.length G.gc], .slice at0 l.length cap] w (RefOuts (markE C G l) G.x G.z G.w G.d (markL G l) w) := by
  obtain ⟨i0, hi0, hz0, hz1, hz2⟩ := info_parts rq_rows_info
  obtain ⟨i1, hi1, hs0, hs1, hs2⟩ := info_parts rq_fl_info
  have KC : Hid (∀ W, Calls Tryz.prog 15 #[.agg #[.int .i64 C.cl, .int .i64 C.cb, .int .i64 C.ht, .int .i64 C.ri, .int .i64 C.ru, .int .i64 C.wd, .int .i64 C.dp]] W fun e w' => e = .returned (.int .i64 (checkE C.cl C.cb C.ht C.ri C.ru C.wd C.dp)) ∧ New W w') := Lib.hid (fun W => (rcheck_any C.cl C.cb C.ht C.ri C.ru C.wd C.dp W).mono fun e w' h => ⟨h.1, h.2.1⟩)
  have KG := Lib.hid (fun W n => rg_check G W (hG.keep (n : New w W)))
  have KB := Lib.hid (fun X W => rBoxes_any C X W)
  have KF := Lib.hid (fun (x z y : Int) W n => rr_Of at0 l cap x z y hl W (H.keep (n : New w W)))
  have HH := Lib.hid H
  have HOK : Hid (∀ W, New w W → RowsK Fl.enc 3 W (.slice G.ga G.L.length G.gc) G.L) := Lib.hid (fun W n => hG.keep n)
  have hce : C.err = checkE C.cl C.cb C.ht C.ri C.ru C.wd C.dp := rfl
  have htwo := checkE_two C.cl C.cb C.ht C.ri C.ru C.wd C.dp
  have hg2 := gE_two G
  rw [← hce] at KC htwo
  have HB2 := Lib.hid (fun (h : C.err = 0) X => boxE_two h X)
  obtain ⟨r, hr⟩ : ∃ r, r = markE C G l := ⟨_, rfl⟩
  rw [← hr]
  have HR := Lib.hid hr
  have E1 : Hid (C.err ≠ 0 → r = 20) := Lib.hid (fun h => by rw [HR.out, markE_cfg h])
  have E2 : Hid (C.err = 0 → gE G ≠ 0 → r = 2) := Lib.hid (fun h h2 => by rw [HR.out, markE_grid h h2])
  have E3 : Hid (C.err = 0 → 16 < l.length → r = 2) := Lib.hid (fun h h2 => by rw [HR.out, markE_many h h2])
  have E4 : Hid (C.err = 0 → ∀ j (hj : j < l.length), boxE C l[j] ≠ 0 → r = 2) := Lib.hid (fun h j hj h2 => by rw [HR.out, markE_box h j hj h2])
  have E5 : Hid (C.err = 0 → gE G = 0 → l.length ≤ 16 → (∀ j (h : j < l.length), boxE C l[j] = 0) → r = 0) := Lib.hid (fun h h2 h3 h4 => by rw [HR.out, markE_fine h h2 h3 h4])
  have HGE : Hid (gE G = 0 → ∃ wN : Nat, G.w.toNat = wN ∧ G.w = wN ∧ wN ≤ 64 ∧ (-64 ≤ G.x ∧ G.x ≤ 64) ∧ (-64 ≤ G.z ∧ G.z ≤ 64) ∧ (0 < G.L.length → 0 < wN) ∧ G.L.length ≤ 4096 ∧ ∀ j (h : j < G.L.length), G.L[j].length ≤ 8) := Lib.hid (fun h => by
    obtain ⟨hp, hw, hri⟩ := gd_is h
    have hb := placeB_iff.1 hp
    have hm := mul_64 hb.2.2.1.1 hb.2.2.1.2 hb.2.2.2.1 hb.2.2.2.2
    refine ⟨G.w.toNat, rfl, by omega, by omega, by omega, by omega, fun h0 => ?_, by omega, fun j hj => riseB_len (hri j hj)⟩
    rcases Nat.eq_zero_or_pos G.w.toNat with q | q
    · have e : G.w = 0 := by omega
      rw [e, Int.zero_mul] at hw
      omega
    · exact q)
  generalize hge : gE G = ge at *
  generalize hcr : C.err = cr at *
  have HMF : Hid (markL G l = markL G l) := Lib.hid rfl
  obtain ⟨F, hF⟩ : ∃ F, F = markL G l := ⟨_, rfl⟩
  rw [← hF]
  have HF := Lib.hid hF
  obtain ⟨gn, hgn⟩ : ∃ q, q = G.L.length := ⟨_, rfl⟩
  rw [← hgn] at KG HOK ⊢
  obtain ⟨n, hn⟩ : ∃ q, q = l.length := ⟨_, rfl⟩
  rw [← hn] at hl KF ⊢
  have HNL := Lib.hid hn
  have HGN := Lib.hid hgn
  obtain ⟨Q, hQ⟩ : ∃ Q, Q = RefOuts r G.x G.z G.w G.d F w := ⟨_, rfl⟩
  rw [← hQ]
  have HQ := Lib.hid hQ
  clear hgn hn hr H hG hce hge hcr hF hQ HMF
  unfold maxLen at hl
  go_enter Tryz.func7, Tryz.ntmps7
  go_upto_region 1 with fail
  refine Code.at (fun W0 hW => ?_)
  have n0 : New w W0 := by subst hW; (repeat (first | (with_reducible exact New.refl _) | (with_reducible assumption) | ((with_reducible refine New.setB ?_ ?_ _); focus (first | omega | (simp; omega) | (simp; done))) | (with_reducible refine New.alloc ?_ _) | (with_reducible refine New.drew ?_) | (with_reducible refine New.drewN ?_ _) | (with_reducible refine New.hat ?_ _) | ((with_reducible apply New.snart); (with_reducible assumption))))
  have c0 : W0.cell? ⟨w.heap.size, 0, none⟩ = some (.int .i64 C.cl) := by subst hW; go_simp
  have c1 : W0.cell? ⟨w.heap.size, 1, none⟩ = some (.int .i64 C.cb) := by subst hW; go_simp
  have c2 : W0.cell? ⟨w.heap.size, 2, none⟩ = some (.int .i64 C.ht) := by subst hW; go_simp
  have c3 : W0.cell? ⟨w.heap.size, 3, none⟩ = some (.int .i64 C.ri) := by subst hW; go_simp
  have c4 : W0.cell? ⟨w.heap.size, 4, none⟩ = some (.int .i64 C.ru) := by subst hW; go_simp
  have c5 : W0.cell? ⟨w.heap.size, 5, none⟩ = some (.int .i64 C.wd) := by subst hW; go_simp
  have c6 : W0.cell? ⟨w.heap.size, 6, none⟩ = some (.int .i64 C.dp) := by subst hW; go_simp
  have g0 : W0.cell? ⟨w.heap.size + 1, 0, none⟩ = some (.int .i64 G.x) := by subst hW; go_simp
  have g1 : W0.cell? ⟨w.heap.size + 1, 1, none⟩ = some (.int .i64 G.z) := by subst hW; go_simp
  have g2 : W0.cell? ⟨w.heap.size + 1, 2, none⟩ = some (.int .i64 G.w) := by subst hW; go_simp
  have g3 : W0.cell? ⟨w.heap.size + 1, 3, none⟩ = some (.int .i64 G.d) := by subst hW; go_simp
  have g4 : W0.cell? ⟨w.heap.size + 1, 4, none⟩ = some (.slice G.ga gn G.gc) := by subst hW; go_simp
  have hth : Thr W0 (w.heap.size + 1 + 1) 5 := by
    subst hW
    exact Thr.new _ _ _ _ (by simp)
  clear hW
  obtain ⟨Bc, hBc⟩ : ∃ q, q = w.heap.size := ⟨_, rfl⟩
  obtain ⟨Bg, hBg⟩ : ∃ q, q = w.heap.size + 1 := ⟨_, rfl⟩
  obtain ⟨Br, hBr⟩ : ∃ q, q = w.heap.size + 1 + 1 := ⟨_, rfl⟩
  rw [← hBr] at hth
  rw [← hBg] at g0 g1 g2 g3 g4
  rw [← hBc] at c0 c1 c2 c3 c4 c5 c6
  rw [← hBr, ← hBg, ← hBc]
  have HBB : Hid (w.heap.size ≤ Br) := Lib.hid (by omega)
  have HBRZ := Lib.hid (hth.lt (by omega))
  clear hBc hBg hBr
  have HTH := Lib.hid (fun W (q : New W0 W) => hth.keep q)
  have HC := Lib.hid (fun W (q : New W0 W) => And.intro (q.keep c0) (And.intro (q.keep c1) (And.intro (q.keep c2) (And.intro (q.keep c3) (And.intro (q.keep c4) (And.intro (q.keep c5) (q.keep c6)))))))
  have HG := Lib.hid (fun W (q : New W0 W) => And.intro (q.keep g0) (And.intro (q.keep g1) (And.intro (q.keep g2) (And.intro (q.keep g3) (q.keep g4)))))
  have N0 := Lib.hid n0
  clear hth n0 g0 g1 g2 g3 g4
  go_wp2_with fail
  refine (KC.out _).mono ?_
  rintro e w1 ⟨rfl, n1⟩
  have N1 := Lib.hid n1
  clear n1 c0 c1 c2 c3 c4 c5 c6 KC
  rcases htwo with rfl | rfl
  rotate_left
  · have HE := Lib.hid (E1.out (by decide))
    have hth := HTH.out _ N1.out
    go_wp2_with (refine wpList_store_blk rfl 26 _ _ rfl _ _ rfl rfl hth (by kernel_rfl) (Gd.enc_one Gd.zero) (fun Z nZ kZ cZ => ?_))
    obtain ⟨k0, k1, k2, k3, k4⟩ := Gd.at (G := Gd.zero) cZ
    have nz := nZ w (N0.out.trans N1.out) (by have := HBB.out; omega)
    clear nZ kZ cZ hth
    refine bodyPost_ret (v := .tuple #[.agg #[.int .i64 Gd.zero.x, .int .i64 Gd.zero.z, .int .i64 Gd.zero.w, .int .i64 Gd.zero.d, .slice Gd.zero.ga Gd.zero.L.length Gd.zero.gc], .int .i64 20]) (by simp [results, Tryz.results7, go_sem, *]) rfl ?_
    rw [HQ.out]
    exact ⟨Gd.zero, by rw [HE.out], Gd.zero_ok _, fun h => absurd h (by rw [HE.out]; decide), fun _ => ⟨rfl, rfl, rfl, rfl, rfl⟩, nz⟩
  obtain ⟨g0, g1, g2, g3, g4⟩ := HG.out _ N1.out
  go_wp2_with fail
  refine (KG.out _ (N0.out.trans N1.out)).mono ?_
  rintro e w2 ⟨rfl, n2⟩
  have N2 := Lib.hid (N1.out.trans n2)
  clear n2 g0 g1 g2 g3 g4 KG
  rcases hg2 with rfl | rfl
  rotate_left
  · have HE := Lib.hid (E2.out trivial (by decide))
    have hth := HTH.out _ N2.out
    go_wp2_with (refine wpList_store_blk rfl 26 _ _ rfl _ _ rfl rfl hth (by kernel_rfl) (Gd.enc_one Gd.zero) (fun Z nZ kZ cZ => ?_))
    obtain ⟨k0, k1, k2, k3, k4⟩ := Gd.at (G := Gd.zero) cZ
    have nz := nZ w (N0.out.trans N2.out) (by have := HBB.out; omega)
    clear nZ kZ cZ hth
    refine bodyPost_ret (v := .tuple #[.agg #[.int .i64 Gd.zero.x, .int .i64 Gd.zero.z, .int .i64 Gd.zero.w, .int .i64 Gd.zero.d, .slice Gd.zero.ga Gd.zero.L.length Gd.zero.gc], .int .i64 2]) (by simp [results, Tryz.results7, go_sem, *]) rfl ?_
    rw [HQ.out]
    exact ⟨Gd.zero, by rw [HE.out], Gd.zero_ok _, fun h => absurd h (by rw [HE.out]; decide), fun _ => ⟨rfl, rfl, rfl, rfl, rfl⟩, nz⟩
  by_cases h16 : 16 < n
  · have HE := Lib.hid (E3.out trivial (by rw [← HNL.out]; exact h16))
    have hd : decide (16 < n) = true := decide_eq_true h16
    have hd2 : ((n : Int) > 16) := by omega
    have hth := HTH.out _ N2.out
    clear h16
    go_wp2_with (refine wpList_store_blk rfl 26 _ _ rfl _ _ rfl rfl hth (by kernel_rfl) (Gd.enc_one Gd.zero) (fun Z nZ kZ cZ => ?_))
    obtain ⟨k0, k1, k2, k3, k4⟩ := Gd.at (G := Gd.zero) cZ
    have nz := nZ w (N0.out.trans N2.out) (by have := HBB.out; omega)
    clear nZ kZ cZ hth
    refine bodyPost_ret (v := .tuple #[.agg #[.int .i64 Gd.zero.x, .int .i64 Gd.zero.z, .int .i64 Gd.zero.w, .int .i64 Gd.zero.d, .slice Gd.zero.ga Gd.zero.L.length Gd.zero.gc], .int .i64 2]) (by simp [results, Tryz.results7, go_sem, *]) rfl ?_
    rw [HQ.out]
    exact ⟨Gd.zero, by rw [HE.out], Gd.zero_ok _, fun h => absurd h (by rw [HE.out]; decide), fun _ => ⟨rfl, rfl, rfl, rfl, rfl⟩, nz⟩
  have hd : decide (16 < n) = false := decide_eq_false h16
  have hd2 : ¬ ((n : Int) > 16) := by omega
  have hn16 : n ≤ 16 := by omega
  clear h16 hl
  go_wp2_with fail
  clear hd hd2
  go_loopg [9] n (fun gk s9 wr => ∃ i : Nat, s9 = .int .i64 i ∧ i ≤ n ∧ n - i ≤ gk ∧ Hid (∀ j (h : j < l.length), j < i → boxE C l[j] = 0) ∧ Hid (New w2 wr))
  case atStart => exact ⟨0, rfl, by omega, by omega, Lib.hid (fun j _ h => by omega), Lib.hid (New.refl _)⟩
  case round =>
    obtain ⟨i, rfl, hi, hgk, HA, HNR⟩ := hrel
    by_cases hlt : i < n
    · have hil : i < l.length := by rw [← HNL.out]; exact hlt
      obtain ⟨b, off, rfl, hA⟩ := HH.out (by omega)
      have HRW := Lib.hid (fun W (q : New w W) => BoxR.cells (hA.keep q) i hil)
      have he := HB2.out trivial l[i]
      have HKB := Lib.hid (fun W => KB.out l[i] W)
      have E4' := Lib.hid (fun q => E4.out trivial i hil q)
      obtain ⟨X, hX⟩ : ∃ X, X = l[i] := ⟨_, rfl⟩
      rw [← hX] at he HRW HKB E4'
      have HX := Lib.hid hX
      clear hA hX
      go_upto_region 9 with fail
      refine wp_region_loose 10 (fun i' w' v => match i' with
        | 0 => v = .agg #[.int .i64 C.cl, .int .i64 C.cb, .int .i64 C.ht, .int .i64 C.ri, .int .i64 C.ru, .int .i64 C.wd, .int .i64 C.dp]
        | 1 => v = .slice (some ⟨b, off, none⟩) n cap
        | 2 => v = .int .i64 i
        | 3 => v = .pointer (some ⟨b, off + i * 8, none⟩)
        | 4 => v = .agg #[.int .i64 X.i, .int .i64 X.x0, .int .i64 X.z0, .int .i64 X.x1, .int .i64 X.z1, .int .i64 X.y0, .int .i64 X.y1, .int .i64 X.ar]
        | 5 => ∃ a c m, v = .tuple #[.slice a m c, .int .i64 (boxE C X)]
        | 6 => ∃ a c m, v = .tuple #[.slice a m c, .int .i64 (boxE C X)]
        | 7 => ∃ a c m, v = .slice a m c
        | 8 => v = .int .i64 (boxE C X)
        | 9 => ∃ a c m, v = .slice a m c
        | _ => True) (by kernel_rfl) (by kernel_rfl) ?_ ?_ ?_
      · intro i' w1 w2 v h nq
        exact h
      · intro i' o hi2 ho a' w' nn hr hdd
        rcases (show i' = 0 ∨ i' = 1 ∨ i' = 2 ∨ i' = 3 ∨ i' = 4 ∨ i' = 5 ∨ i' = 6 ∨ i' = 7 ∨ i' = 8 ∨ i' = 9 by omega) with rfl | rfl | rfl | rfl | rfl | rfl | rfl | rfl | rfl | rfl <;> obtain rfl := Option.some.inj ho
        · have r3 : (a'.tmps[3]?).getD undef = .pointer (some ⟨Bc, 0, none⟩) := (eval_get a' 3).symm.trans (hr 3 (by kernel_rfl))
          obtain ⟨c0, c1, c2, c3, c4, c5, c6⟩ := HC.out _ (N2.out.trans (HNR.out.trans nn))
          exact yields_value (.agg #[.int .i64 C.cl, .int .i64 C.cb, .int .i64 C.ht, .int .i64 C.ri, .int .i64 C.ru, .int .i64 C.wd, .int .i64 C.dp]) (by go_simp) ⟨New.refl _, rfl⟩
        · have r2 : (a'.tmps[2]?).getD undef = .slice (some ⟨b, off, none⟩) n cap := (eval_get a' 2).symm.trans (hr 2 (by kernel_rfl))
          exact yields_value (.slice (some ⟨b, off, none⟩) n cap) (by go_simp) ⟨New.refl _, rfl⟩
        · have r9 : (a'.tmps[9]?).getD undef = .int .i64 i := (eval_get a' 9).symm.trans (hr 9 (by kernel_rfl))
          exact yields_value (.int .i64 i) (by go_simp) ⟨New.refl _, rfl⟩
        · have r40 : (a'.tmps[40]?).getD undef = .slice (some ⟨b, off, none⟩) n cap := (eval_get a' 40).symm.trans (hdd 1 40 (by omega) (by kernel_rfl) (by kernel_rfl))
          have r41 : (a'.tmps[41]?).getD undef = .int .i64 i := (eval_get a' 41).symm.trans (hdd 2 41 (by omega) (by kernel_rfl) (by kernel_rfl))
          exact yields_value (.pointer (some ⟨b, off + i * 8, none⟩)) (by go_simp) ⟨New.refl _, rfl⟩
        · have r42 : (a'.tmps[42]?).getD undef = .pointer (some ⟨b, off + i * 8, none⟩) := (eval_get a' 42).symm.trans (hdd 3 42 (by omega) (by kernel_rfl) (by kernel_rfl))
          obtain ⟨d0, d1, d2, d3, d4, d5, d6, d7⟩ := HRW.out _ (N0.out.trans (N2.out.trans (HNR.out.trans nn)))
          exact yields_value (.agg #[.int .i64 X.i, .int .i64 X.x0, .int .i64 X.z0, .int .i64 X.x1, .int .i64 X.z1, .int .i64 X.y0, .int .i64 X.y1, .int .i64 X.ar]) (by go_simp) ⟨New.refl _, rfl⟩
        · have r39 : (a'.tmps[39]?).getD undef = .agg #[.int .i64 C.cl, .int .i64 C.cb, .int .i64 C.ht, .int .i64 C.ri, .int .i64 C.ru, .int .i64 C.wd, .int .i64 C.dp] := (eval_get a' 39).symm.trans (hdd 0 39 (by omega) (by kernel_rfl) (by kernel_rfl))
          have r43 : (a'.tmps[43]?).getD undef = .agg #[.int .i64 X.i, .int .i64 X.x0, .int .i64 X.z0, .int .i64 X.x1, .int .i64 X.z1, .int .i64 X.y0, .int .i64 X.y1, .int .i64 X.ar] := (eval_get a' 43).symm.trans (hdd 4 43 (by omega) (by kernel_rfl) (by kernel_rfl))
          refine yields_enter 17 #[.agg #[.int .i64 C.cl, .int .i64 C.cb, .int .i64 C.ht, .int .i64 C.ri, .int .i64 C.ru, .int .i64 C.wd, .int .i64 C.dp], .agg #[.int .i64 X.i, .int .i64 X.x0, .int .i64 X.z0, .int .i64 X.x1, .int .i64 X.z1, .int .i64 X.y0, .int .i64 X.y1, .int .i64 X.ar]] (by go_simp) ((HKB.out w').mono ?_)
          rintro e w'' ⟨v, rfl, hs, nq⟩
          obtain ⟨a, c, rfl, -⟩ := hs
          exact ⟨_, rfl, nq, a, c, _, rfl⟩
        · obtain ⟨a, c, m, e5⟩ := hdd 5 44 (by omega) (by kernel_rfl) (by kernel_rfl)
          have r44 : (a'.tmps[44]?).getD undef = _ := (eval_get a' 44).symm.trans e5
          exact yields_value (.tuple #[.slice a m c, .int .i64 (boxE C X)]) (by go_simp) ⟨New.refl _, a, c, m, rfl⟩
        · obtain ⟨a, c, m, e5⟩ := hdd 6 38 (by omega) (by kernel_rfl) (by kernel_rfl)
          have r38 : (a'.tmps[38]?).getD undef = _ := (eval_get a' 38).symm.trans e5
          exact yields_value (.slice a m c) (by go_simp) ⟨New.refl _, a, c, m, rfl⟩
        · obtain ⟨a, c, m, e5⟩ := hdd 6 38 (by omega) (by kernel_rfl) (by kernel_rfl)
          have r38 : (a'.tmps[38]?).getD undef = _ := (eval_get a' 38).symm.trans e5
          exact yields_value (.int .i64 (boxE C X)) (by go_simp) ⟨New.refl _, rfl⟩
        · obtain ⟨a, c, m, e5⟩ := hdd 7 45 (by omega) (by kernel_rfl) (by kernel_rfl)
          have r45 : (a'.tmps[45]?).getD undef = _ := (eval_get a' 45).symm.trans e5
          exact yields_value (.slice a m c) (by go_simp) ⟨New.refl _, a, c, m, rfl⟩
      · intro vs w' nn hv
        have e8 : vs 8 = .int .i64 (boxE C X) := hv 8 (by omega)
        simp only [List.take_succ_cons, List.take_zero, List.drop_succ_cons, List.drop_zero, putL, Act.put, List.setIfInBounds_toArray, List.set_cons_zero, List.set_cons_succ, Nat.reduceAdd, Nat.zero_add]
        rw [e8]
        have NN := Lib.hid (HNR.out.trans nn)
        clear hv e8 nn
        generalize hbe : boxE C X = be at *
        rcases he with rfl | rfl
        · have hnx : Hid (∀ j (h : j < l.length), j < i + 1 → boxE C l[j] = 0) := Lib.hid (fun j h hj => by
            by_cases e : j < i
            · exact HA.out j h e
            · obtain rfl : j = i := by omega
              rw [← HX.out]; exact hbe)
          go_wp2_with fail
          go_roundg (n - (i + 1))
          case measure => omega
          case rel => exact ⟨i + 1, by go_num, by omega, by omega, hnx, NN⟩
        · have HE := Lib.hid (E4'.out (by decide))
          have hth := HTH.out _ (N2.out.trans NN.out)
          go_wp2_with (refine wpList_store_blk rfl 26 _ _ rfl _ _ rfl rfl hth (by kernel_rfl) (Gd.enc_one Gd.zero) (fun Z nZ kZ cZ => ?_))
          obtain ⟨k0, k1, k2, k3, k4⟩ := Gd.at (G := Gd.zero) cZ
          have nz := nZ w (N0.out.trans (N2.out.trans NN.out)) (by have := HBB.out; omega)
          clear nZ kZ cZ hth
          refine bodyPost_ret (v := .tuple #[.agg #[.int .i64 Gd.zero.x, .int .i64 Gd.zero.z, .int .i64 Gd.zero.w, .int .i64 Gd.zero.d, .slice Gd.zero.ga Gd.zero.L.length Gd.zero.gc], .int .i64 2]) (by simp [results, Tryz.results7, go_sem, *]) rfl ?_
          rw [HQ.out]
          exact ⟨Gd.zero, by rw [HE.out], Gd.zero_ok _, fun h => absurd h (by rw [HE.out]; decide), fun _ => ⟨rfl, rfl, rfl, rfl, rfl⟩, nz⟩
    · obtain rfl : i = n := by omega
      have HE := Lib.hid (E5.out trivial trivial (by rw [← HNL.out]; exact hn16) (fun j h => HA.out j h (by rw [HNL.out]; exact h)))
      obtain ⟨wN, hwt, hwi, hw64, hx64, hz64, hwp, hgn4, hrow8⟩ := HGE.out trivial
      have HWT := Lib.hid hwt
      have HWP : Hid (0 < gn → 0 < wN) := Lib.hid (by rw [HGN.out]; exact hwp)
      have hgn : gn ≤ 4096 := by rw [HGN.out]; exact hgn4
      have HR8 := Lib.hid hrow8
      rw [hwi] at HG
      have HWI := Lib.hid hwi
      have N3 := Lib.hid (N2.out.trans HNR.out)
      obtain ⟨g0, g1, g2, g3, g4⟩ := HG.out _ N3.out
      clear hwt hwi hwp hgn4 hrow8 hgk HA
      rename World => wB
      go_upto_region 13 with fail
      refine Code.at (fun W3 hW => ?_)
      have n3 : New wB W3 := by subst hW; (repeat (first | (with_reducible exact New.refl _) | (with_reducible assumption) | ((with_reducible refine New.setB ?_ ?_ _); focus (first | omega | (simp; omega) | (simp; done))) | (with_reducible refine New.alloc ?_ _) | (with_reducible refine New.drew ?_) | (with_reducible refine New.drewN ?_ _) | (with_reducible refine New.hat ?_ _) | ((with_reducible apply New.snart); (with_reducible assumption))))
      have hg3 : GdAt W3 wB.heap.size G.x G.z wN G.d (.slice none 0 0) := by
        subst hW
        have hz := heap_new wB (.cells #[.int .i64 G.x, .int .i64 G.z, .int .i64 wN, .int .i64 G.d, .slice none 0 0] 26)
        exact ⟨cell_of_heap hz rfl, cell_of_heap hz rfl, cell_of_heap hz rfl, cell_of_heap hz rfl, cell_of_heap hz rfl, fz_of hz 4⟩
      have z3 : W3.heap.size = wB.heap.size + 1 := by subst hW; simp
      clear hW g0 g1 g2 g3 g4
      obtain ⟨P, hP⟩ : ∃ q, q = wB.heap.size := ⟨_, rfl⟩
      rw [← hP] at hg3 z3 ⊢
      have HP := Lib.hid hP
      have HGR := Lib.hid (fun W (n : New wB W) => HOK.out W (N0.out.trans (N3.out.trans n)))
      have HG3 := Lib.hid (fun W (n : New wB W) => HG.out W (N3.out.trans n))
      clear hP
      go_wp2_with fail
      go_loopg [13] gn (fun gk s13 wr => ∃ (i : Nat) (ra : Option Addr) (rn rc : Nat) (us : List Value), s13 = .int .i64 i ∧ i ≤ gn ∧ gn - i ≤ gk ∧ Hid (GdAt wr P G.x G.z wN G.d (.slice ra rn rc)) ∧ Hid (RowsOK Fl.enc 3 37 (P + 1) wr (.slice ra rn rc) us ((List.range i).map (markC G l))) ∧ Hid (∀ u ∈ us, ∀ g, u.ownBlock = some g → P + 1 ≤ g) ∧ Hid (P + 1 ≤ wr.heap.size) ∧ Hid (New wB wr))
      case atStart => exact ⟨0, none, 0, 0, [], rfl, by omega, by omega, Lib.hid hg3, Lib.hid RowsOK.nil, Lib.hid (fun u hu => by cases hu), Lib.hid (by omega), Lib.hid n3⟩
      case round =>
        clear hg3 n3
        obtain ⟨i, ra, rn, rc, us, rfl, hi, hgk, HGD, HRO, HUS, HZ, HNR2⟩ := hrel
        obtain ⟨g0, g1, g2, g3, g4⟩ := HG3.out _ HNR2.out
        by_cases hlt : i < gn
        · have hiG : i < G.L.length := by rw [← HGN.out]; exact hlt
          have hwp := HWP.out (by omega)
          obtain ⟨bG, oG, aG, dG, hga, hcG, hsG⟩ := (HGR.out _ HNR2.out).at i hiG
          obtain ⟨mi, hmi⟩ : ∃ q, q = G.L[i].length := ⟨_, rfl⟩
          rw [← hmi] at hcG
          rw [hga] at g4
          have hm8 : mi ≤ 8 := by rw [hmi]; exact HR8.out i hiG
          have hcg : gcol G i = G.L[i] := gcol_at hiG
          have HCK : Hid (∀ k (h1 : k < G.L[i].length), (markC G l i).take (k + 1) = (markC G l i).take k ++ [⟨G.L[i][k].y, G.L[i][k].top, ofX l (G.x + ((i % wN : Nat) : Int)) (G.z + ((i / wN : Nat) : Int)) G.L[i][k].y⟩]) := Lib.hid (fun k h1 => by
            have h3 : k < (markC G l i).length := by rw [markC_len, hcg]; exact h1
            have h4 : k < (gcol G i).length := by rw [hcg]; exact h1
            have e := markC_is G l i h3 h4
            have e3 : (gcol G i)[k] = G.L[i][k] := by congr 1
            rw [e3, HWT.out] at e
            rw [List.take_succ_eq_append_getElem h3, e])
          have hml : (markC G l i).length = mi := by rw [markC_len, hcg, hmi]
          have HML := Lib.hid hml
          have HMI := Lib.hid hmi
          have HSG := Lib.hid (fun W (n : New wr W) => (hsG.keep n).row'.2.2.2.2)
          have HCL := Lib.hid (fun W (n : New wr W) => And.intro (n.keep hcG) (And.intro (n.keep g0) (And.intro (n.keep g1) (And.intro (n.keep g2) (n.keep g4)))))
          obtain ⟨xm, hxm⟩ : ∃ q, q = i % wN := ⟨_, rfl⟩
          obtain ⟨zm, hzm⟩ : ∃ q, q = i / wN := ⟨_, rfl⟩
          have hmod : xm < wN := by rw [hxm]; exact Nat.mod_lt _ hwp
          have hdv : zm ≤ 4096 := by have := Nat.div_le_self i wN; omega
          rw [← hxm, ← hzm] at HCK
          have HT1 : Hid (((i : Int).tmod (wN : Int)) = (xm : Int)) := Lib.hid (by rw [hxm]; rfl)
          have HT2 : Hid (((i : Int).tdiv (wN : Int)) = (zm : Int)) := Lib.hid (by rw [hzm]; rfl)
          have HGK := Lib.hid hgk
          obtain ⟨bI, hbI⟩ : ∃ q, q = wr.heap.size := ⟨_, rfl⟩
          have HBI := Lib.hid hbI
          clear hmi hsG hgk hcg hml hxm hzm hbI hga
          rename World => wA
          go_wp2_with fail
          clear g0 g1 g2 g3 g4 hcG
          go_loopg [15, 14] mi (fun gk s15 s14 wr => ∃ (k : Nat) (qa : Option Addr) (qn qc : Nat), s15 = .int .i64 k ∧ s14 = .slice qa qn qc ∧ k ≤ mi ∧ mi - k ≤ gk ∧ Hid (wr.ownsRow bI 39 3 (.slice qa qn qc) ((markC G l i).take k).length (((markC G l i).take k).flatMap Fl.enc)) ∧ Hid (New wA wr))
          case atStart => exact ⟨0, none, 0, 0, rfl, rfl, by omega, by omega, Lib.hid (World.ownsRow_nil _ _ _ _), Lib.hid (New.refl _)⟩
          case round =>
            obtain ⟨k, qa, qn, qc, rfl, rfl, hk, hgk, HOW, HNQ⟩ := hrel
            obtain ⟨hcG, g0, g1, g2, g4⟩ := HCL.out _ HNQ.out
            by_cases hkt : k < mi
            · have hkG : k < G.L[i].length := by rw [← HMI.out]; exact hkt
              obtain ⟨b2, o2, rfl, hrG⟩ := (HSG.out _ HNQ.out) (by omega)
              obtain ⟨y0, y1, y2⟩ := Fl.cells hrG k hkG
              have hck := HCK.out k hkG
              obtain ⟨f, hf⟩ : ∃ f, f = G.L[i][k] := ⟨_, rfl⟩
              rw [← hf] at y0 y1 y2 hck
              have HCKK := Lib.hid hck
              have htl : ((markC G l i).take k).length ≤ 8 := by rw [List.length_take]; omega
              have HGK2 := Lib.hid hgk
              have HGG := Lib.hid (fun W (n : New wr W) => And.intro (n.keep g0) (And.intro (n.keep g1) (n.keep g2)))
              clear hrG hkG hck hf hgk
              go_upto_region 21 with fail
              refine Code.at (fun W5 hW => ?_)
              have n5 : New wr W5 := by subst hW; (repeat (first | (with_reducible exact New.refl _) | (with_reducible assumption) | ((with_reducible refine New.setB ?_ ?_ _); focus (first | omega | (simp; omega) | (simp; done))) | (with_reducible refine New.alloc ?_ _) | (with_reducible refine New.drew ?_) | (with_reducible refine New.drewN ?_ _) | (with_reducible refine New.hat ?_ _) | ((with_reducible apply New.snart); (with_reducible assumption))))
              have hz5 : W5.heap[wr.heap.size]? = some (.cells #[.int .i64 f.y, .int .i64 f.top, .int .i64 f.area] 39 (0, 0)) := by subst hW; exact heap_new _ _
              obtain ⟨PF, hPF⟩ : ∃ q, q = wr.heap.size := ⟨_, rfl⟩
              rw [← hPF] at hz5 ⊢
              have s0 := cell_of_heap (o := 0) (v := .int .i64 f.y) hz5 rfl
              have s1 := cell_of_heap (o := 1) (v := .int .i64 f.top) hz5 rfl
              have s2 := cell_of_heap (o := 2) (v := .int .i64 f.area) hz5 rfl
              have fz := fun o => frozen_of_heap (o := o) hz5
              have HPF := Lib.hid (Nat.le_of_eq hPF.symm)
              clear hW hPF hz5 hcG g0 g1 g2 g4 y0 y1 y2
              obtain ⟨g0, g1, g2⟩ := HGG.out _ n5
              have hr1 := HT1.out
              have hr2 := HT2.out
              have hxw : IntKind.i64.wrap (G.x + (xm : Int)) = G.x + xm := IntWalk.i64_in _ (by omega)
              have hzw : IntKind.i64.wrap (G.z + (zm : Int)) = G.z + zm := IntWalk.i64_in _ (by omega)
              have hw1 : IntKind.i64.wrap (xm : Int) = xm := IntWalk.i64_in _ (by omega)
              have hw2 : IntKind.i64.wrap (zm : Int) = zm := IntWalk.i64_in _ (by omega)
              have hwne : ¬ wN = 0 := by omega
              have hwni : ¬ (wN : Int) = 0 := by omega
              have F1 := fun (x : Hat W5) => KF.out (G.x + xm) (G.z + zm) f.y x.w (N0.out.trans (N3.out.trans (HNR2.out.trans (HNQ.out.trans (n5.trans x.h)))))
              replace F1 := Lib.hid F1
              have N5 := Lib.hid (HNQ.out.trans n5)
              have HOW5 := Lib.hid (own_new HOW.out n5)
              have HLT : Hid (∀ g, (Value.slice qa qn qc).ownBlock = some g → g < wr.heap.size) := Lib.hid (fun g e => (HOW.out.lt g e).2)
              clear n5 HOW
              generalize ofX l (G.x + xm) (G.z + zm) f.y = ar at *
              (refine wp_region_steady 20 (by kernel_rfl) (by kernel_rfl) ?_; (intro hatc hatf; simp only [List.take_succ_cons, List.take_zero, List.drop_succ_cons, List.drop_zero]; (repeat (first | (refine mildWalk_made (by decide) ?_; simp only [Act.put, List.setIfInBounds_toArray, List.set_cons_zero, List.set_cons_succ]) | (refine mildWalk_step (by decide) (fun K hK => ?_); go_simp; first | (refine hK _ ?_; clear hK K) | (apply Exists.intro; refine ⟨fun _ => ?_, hK _ ?_⟩; (go_at_call 18; with_reducible exact F1.out _); clear hK K)))); refine mildWalk_nil ?_; (try simp only [List.setIfInBounds_toArray, List.set_cons_zero, List.set_cons_succ])))
              intro y
              have hy : New W5 y.w := y.h
              replace fz := hy.keepF s2 (fz 2)
              replace s0 := hy.keep s0
              replace s1 := hy.keep s1
              replace s2 := hy.keep s2
              have N6 := Lib.hid (N5.out.trans hy)
              have HOW6 := Lib.hid (own_new HOW5.out hy)
              clear hatc hatf g0 g1 g2 hr1 hr2 hxw hzw hw1 hw2 hwne hwni F1 hy HOW5
              generalize y.w = v2 at *
              have hPA : wA.heap.size ≤ PF := Nat.le_trans HNQ.out.size HPF.out
              have hbz : bI ≤ v2.heap.size := by have := HBI.out; have := N6.out.size; omega
              go_upto_region 22 with fail
              refine Code.at (fun W7 hW => ?_)
              have n7 : New wA W7 := by subst hW; exact New.setB (p := ⟨PF, 2, none⟩) hPA N6.out _
              have t0 : W7.cell? ⟨PF, 0, none⟩ = some (.int .i64 f.y) := by subst hW; go_simp
              have t1 : W7.cell? ⟨PF, 1, none⟩ = some (.int .i64 f.top) := by subst hW; go_simp
              have t2 : W7.cell? ⟨PF, 2, none⟩ = some (.int .i64 ar) := by subst hW; go_simp
              have own7 : W7.ownsRow bI 39 3 (.slice qa qn qc) ((markC G l i).take k).length (((markC G l i).take k).flatMap Fl.enc) := by
                subst hW
                have hgb2 : World.grownBy v2 (v2.setCell ⟨PF, 2, none⟩ (.int .i64 ar)) (some PF) := ⟨rfl, rfl, rfl, by simp, fun k _ hk => Below.heap_setCell _ _ _ _ (fun e => hk (congrArg some (show k = PF from by first | exact e | exact e.symm)))⟩
                exact HOW6.out.kept hgb2 (.inr (fun e => by have h1 := HLT.out PF e; have h2 := HPF.out; omega))
              clear hW s0 s1 s2 fz HOW6
              go_wp2_with (at_builtin; refine wpList_append_sl rfl _ _ 37 rfl Fl.enc_len Fl.enc_one bI 39 i1 _ 24 Tryz.underlying37 hi1 hs0 hs1 hs2 rfl (by decide) _ ((markC G l i).take k) rfl (own_new own7 (by (repeat (first | (with_reducible exact New.refl _) | (with_reducible assumption) | ((with_reducible refine New.setB ?_ ?_ _); focus (first | omega | (simp; omega) | (simp; done))) | (with_reducible refine New.alloc ?_ _) | (with_reducible refine New.drew ?_) | (with_reducible refine New.drewN ?_ _) | (with_reducible refine New.hat ?_ _) | ((with_reducible apply New.snart); (with_reducible assumption)))))) _ [(⟨f.y, f.top, ar⟩ : Fl)] rfl (rq_fl_sl _ (⟨f.y, f.top, ar⟩ : Fl) _) (by unfold maxLen; simp; omega) (by simp; omega) (by simp; have := n7.size; have := HBI.out; omega) ?_; intro v' w5 hown' hnew _; obtain ⟨a', d', N', hN', rfl⟩ := own_shape2 hown'; clear hN'; have nw1 := hnew wA (New.trans n7 (by (repeat (first | (with_reducible exact New.refl _) | (with_reducible assumption) | ((with_reducible refine New.setB ?_ ?_ _); focus (first | omega | (simp; omega) | (simp; done))) | (with_reducible refine New.alloc ?_ _) | (with_reducible refine New.drew ?_) | (with_reducible refine New.drewN ?_ _) | (with_reducible refine New.hat ?_ _) | ((with_reducible apply New.snart); (with_reducible assumption)))))) (Nat.le_of_eq HBI.out.symm))
              have HN9 := Lib.hid nw1
              have HO9 := Lib.hid hown'
              clear nw1 hown' hnew t0 t1 t2 own7 n7
              go_wp2_with fail
              go_roundg (mi - (k + 1))
              case measure => have := HGK2.out; omega
              case rel => exact ⟨k + 1, a', N', d', by go_num, rfl, by omega, by omega, Lib.hid (by rw [HCKK.out]; exact HO9.out), HN9⟩
            · obtain rfl : k = mi := by omega
              have hcomp : (markC G l i).take k = markC G l i := List.take_of_length_le (by rw [HML.out]; exact Nat.le_refl _)
              have hown := HOW.out
              rw [hcomp] at hown
              have hsl := own_sl Fl.enc_len hown
              obtain ⟨qa', qc', e1, e2, e3, e4, e5⟩ := id hsl
              obtain ⟨rfl, rfl, rfl⟩ : qa = qa' ∧ qn = (markC G l i).length ∧ qc = qc' := by injection e1 with a b c; exact ⟨a, b, c⟩
              have hblk : ∀ g, (Value.slice qa (markC G l i).length qc).ownBlock = some g → bI ≤ g := fun g e => own_block hown g e
              have HS6 := Lib.hid (And.intro hsl hblk)
              obtain ⟨fn, hfn⟩ : ∃ q, q = (markC G l i).length := ⟨_, rfl⟩
              rw [← hfn] at HS6 ⊢
              have HFN := Lib.hid hfn
              clear hcomp hown hsl e1 e2 e3 e4 e5 hblk hfn HOW
              go_upto_region 23 with fail
              clear g0 g1 g2 g4 hcG
              obtain ⟨w', hw'⟩ : ∃ q, q = wr.alloc (.cells #[.slice qa fn qc] 37) := ⟨_, rfl⟩
              have nn : New wA w' := by subst hw'; exact HNQ.out.trans ((New.refl wr).alloc _)
              have hp : w'.cell? ⟨wr.heap.size, 0, none⟩ = some (.slice qa fn qc) := by subst hw'; exact cell_of_heap (heap_new _ _) rfl
              have hul : us.length = i := by rw [HRO.out.len, List.length_map, List.length_range]
              have HRn := Lib.hid (HRO.out.new nn)
              have hgd0 := HGD.out.new HNQ.out
              have g4 := hgd0.c4
              have hgd := HGD.out.new nn
              have hz' : P + 1 ≤ w'.heap.size := Nat.le_trans HZ.out nn.size
              have hsw : New wr w' := by subst hw'; exact (New.refl wr).alloc _
              have HS7 := Lib.hid (And.intro (HS6.out.1.keep hsw) HS6.out.2)
              have HNN := Lib.hid (HNR2.out.trans nn)
              have hwz := nn.size
              have hHR := HRn.out.own
              clear nn hsw hgd0
              go_upto_region 15 with (at_builtin; rw [← hw']; refine wpList_append_own_at _ rfl _ _ 24 rfl (P + 1) 37 i0 (.slice none 0 0) 1 24 Tryz.underlying24 hi0 hz0 hz1 hz2 rfl (by decide) _ _ _ rfl hHR ⟨wr.heap.size, 0, none⟩ 1 1 [.slice qa fn qc] rfl rfl (by intro j u hj; cases j with | zero => (simp at hj; subst hj; exact hp) | succ j => simp at hj) (by intro u hu; rw [List.mem_singleton] at hu; subst hu; rfl) (by unfold maxLen; omega) (by omega) hz' ?_; intro v' w4 hown' hgrow _ hat; obtain ⟨a', d', N', hN', rfl⟩ := own_shape2 hown'; clear hN'; have hgb := hgd.blk (hgrow.block P (by omega) (fun e => by have := (HRn.out.own.lt P e.symm).1; omega)); have g4b := hgb.c4; have gf := hgb.fz)
              refine Code.at (fun W9 hW => ?_)
              have hgrow' : w'.grownBy w4 (Value.slice ra rn rc).ownBlock := hgrow
              have hat' : (Value.slice a' N' d').ownBlock = (Value.slice ra rn rc).ownBlock ∨ (Value.slice a' N' d').ownBlock = some w'.heap.size := hat
              have hlt1 := fun g h => (HRO.out.own.lt g h)
              have HP1 := HRn.out.push Fl.enc_len (by omega) (l := markC G l i) (u := .slice qa fn qc) HS7.out.1 (fun _ g hg hv => by
                have q1 := HS7.out.2 g hg
                have q2 := (hlt1 g hv).2
                have := HBI.out
                omega) hown' hgrow' hat'
              have hus2 : ∀ u ∈ us ++ [.slice qa fn qc], ∀ g, u.ownBlock = some g → P + 1 ≤ g := fun u hu g hg => by
                rcases List.mem_append.1 hu with h | h
                · exact HUS.out u h g hg
                · rw [List.mem_singleton] at h
                  subst h
                  have := HS7.out.2 g hg
                  have := HZ.out
                  have := HBI.out
                  omega
              have HP2 := HP1.put Fl.enc_len (by omega) (p := ⟨P, 4, none⟩) (show P < P + 1 by omega) (fun j _ _ u hu hq => by
                have := hus2 u (List.mem_of_getElem? hu) P hq
                omega) (.slice a' N' d')
              have HG9 : Hid (GdAt W9 P G.x G.z wN G.d (.slice a' N' d')) := Lib.hid (by subst hW; exact hgb.put _)
              have HR9 : Hid (RowsOK Fl.enc 3 37 (P + 1) W9 (.slice a' N' d') (us ++ [.slice qa fn qc]) ((List.range (i + 1)).map (markC G l))) := Lib.hid (by subst hW; rw [List.range_succ, List.map_append]; exact HP2)
              have hn4 : New wB w4 := newGrown HNN.out hgrow' (fun j hj => by have := (hlt1 j hj).1; have := HP.out; omega)
              have HN9 : Hid (New wB W9) := Lib.hid (by subst hW; exact New.setB (p := ⟨P, 4, none⟩) (by rw [HP.out]; exact Nat.le_refl _) hn4 _)
              have HZ9 : Hid (P + 1 ≤ W9.heap.size) := Lib.hid (by
                have := hgrow'.size
                subst hW
                simp
                omega)
              have HUS2 := Lib.hid hus2
              clear hW hgrow hgrow' hat hat' hown' hgb g4 g4b gf HP1 HP2 hn4 hp hgd hHR hus2 hlt1 hw'
              go_wp2_with fail
              go_roundg (gn - (i + 1))
              case measure => have := HGK.out; omega
              case rel => exact ⟨i + 1, a', N', d', us ++ [.slice qa fn qc], by go_num, by omega, by omega, HG9, HR9, HUS2, HZ9, HN9⟩
        · obtain rfl : i = gn := by omega
          have HRF := Lib.hid HRO.out.rows
          have hnr : rn = F.length := by
            have h1 : rn = ((List.range i).map (markC G l)).length := by
              obtain ⟨a, c, e⟩ := HRF.out.shape
              injection e
            rw [h1, HF.out, List.length_map, List.length_range, markL_len, HGN.out]
          obtain ⟨q0, q1, q2, q3, q4, -⟩ := HGD.out
          have hth := HTH.out _ (N3.out.trans HNR2.out)
          clear g0 g1 g2 g3
          obtain ⟨O, hO⟩ : ∃ O : Gd, O = ⟨G.x, G.z, G.w, G.d, F, ra, rc⟩ := ⟨_, rfl⟩
          have e0 : O.x = G.x := by rw [hO]
          have e1 : O.z = G.z := by rw [hO]
          have e2 : O.w = G.w := by rw [hO]
          have e3 : O.d = G.d := by rw [hO]
          have e4 : O.L = F := by rw [hO]
          have e5 : O.ga = ra := by rw [hO]
          have e6 : O.gc = rc := by rw [hO]
          have HO := Lib.hid (And.intro e0 (And.intro e1 (And.intro e2 (And.intro e3 e4))))
          have hFm : (List.range i).map (markC G l) = F := by rw [HF.out]; unfold markL; rw [← HGN.out]
          have HRO2 := Lib.hid (by have h := HRO.out; rw [hFm] at h; exact h)
          rw [hnr] at q4 HRO2
          rw [← e4, ← e5, ← e6] at q4 HRO2
          rw [← e0] at q0
          rw [← e1] at q1
          rw [← HWI.out, ← e2] at q2
          rw [← e3] at q3
          clear hO e0 e1 e2 e3 e4 e5 e6 hnr hFm
          go_wp2_with (refine wpList_store_blk rfl 26 _ _ rfl _ _ rfl rfl hth (by kernel_rfl) (Gd.enc_one O) (fun Z nZ kZ cZ => ?_))
          obtain ⟨k0, k1, k2, k3, k4⟩ := Gd.at (G := O) cZ
          have nz := nZ w (N0.out.trans (N3.out.trans HNR2.out)) (by have := HBB.out; omega)
          have hok : O.ok Z := by
            obtain ⟨a4, a5, a6⟩ := HRO2.out
            have hkk : ∀ b' o u, b' ≠ Br → wr.cell? ⟨b', o, none⟩ = some u → Z.cell? ⟨b', o, none⟩ = some u := fun b' o u hb h => (World.cell?_of_block (a := ⟨b', o, none⟩) (kZ b' hb)).trans h
            have hBr2 : ∀ g, P + 1 ≤ g → g ≠ Br := fun g hg => by
              have h1 := HBRZ.out
              have h2 := HP.out
              have h3 := N3.out.size
              omega
            refine ⟨us, a4, sl_but (own_sl (enc := oneV) (k := 1) (l := us) (fun _ => rfl) (by rw [oneV_flat]; exact a5)) (fun g hg => hBr2 g (own_block a5 g hg)) hkk, fun j hj => ?_⟩
            obtain ⟨u, e, hs, -⟩ := a6 j hj
            exact ⟨u, e, sl_but hs (fun g hg => hBr2 g (HUS.out u (List.mem_of_getElem? e) g hg)) hkk⟩
          clear nZ kZ cZ hth q0 q1 q2 q3 q4
          refine bodyPost_ret (v := .tuple #[.agg #[.int .i64 O.x, .int .i64 O.z, .int .i64 O.w, .int .i64 O.d, .slice O.ga O.L.length O.gc], .int .i64 0]) (by simp [results, Tryz.results7, go_sem, *]) rfl ?_
          rw [HQ.out]
          exact ⟨O, by (first | (rw [HE.out]; done) | (rw [HE.out]; rfl)), hok, fun _ => HO.out, fun h => absurd HE.out h, nz⟩

end Go.Proofs.YtdbhlepbaepngaaGreatDoor
