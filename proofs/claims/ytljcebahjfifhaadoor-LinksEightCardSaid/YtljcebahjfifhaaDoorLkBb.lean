import Derived.Test.YtljcebahjfifhaaDoorLkBa
import Derived.Deep.LoopGhost
import Derived.Deep.DeepCutAuto
import Derived.Test.YtljcebahjfifhaaDoorStoB

/- Package links: a column of the ground, a floor. -/
namespace Go.Proofs.YtljcebahjfifhaaDoor
open Go.RowKit
set_option linter.unusedVariables false

set_option maxHeartbeats 4000000 in
set_option maxRecDepth 100000 in
theorem lk_column (C : CfgR) (G : Gd) (hE : gE G = 0) (x z : Int) (w0 w : World) (hn0 : New w0 w) (h : G.ok w0) : Calls Tryd.prog 38 #[.agg #[.int .i64 C.cl, .int .i64 C.cb, .int .i64 C.ht, .int .i64 C.ri, .int .i64 C.ru, .int .i64 C.wd, .int .i64 C.dp, .int .i64 G.x, .int .i64 G.z, .int .i64 G.w, .int .i64 G.d, .slice G.ga G.L.length G.gc], .int .i64 x, .int .i64 z] w fun e w' => ∃ v, e = .returned v ∧ Sl Fl.enc 3 w0 v (atG G x z) ∧ New w w' := by
  have KW := Lib.hid (fun n lo hi W => lk_within n lo hi W)
  have HH : Hid (RowsK Fl.enc 3 w0 (.slice G.ga G.L.length G.gc) G.L) := Lib.hid h
  have hb := placeB_iff.1 (gd_is hE).1
  have K1 := fun W => KW.out x G.x (G.x + G.w - 1) W
  have K2 := fun W => KW.out z G.z (G.z + G.d - 1) W
  have hxa : IntKind.i64.wrap (G.x + G.w) = G.x + G.w := IntWalk.i64_in _ (by omega)
  have hxb : IntKind.i64.wrap (G.x + G.w - 1) = G.x + G.w - 1 := IntWalk.i64_in _ (by omega)
  have hza : IntKind.i64.wrap (G.z + G.d) = G.z + G.d := IntWalk.i64_in _ (by omega)
  have hzb : IntKind.i64.wrap (G.z + G.d - 1) = G.z + G.d - 1 := IntWalk.i64_in _ (by omega)
  have hin : inG G x z = (wiB x G.x (G.x + G.w - 1) && wiB z G.z (G.z + G.d - 1)) := rfl
  have HI := Lib.hid (fun q => (ixG_is hE (x := x) (z := z) q : _))
  have HQ := Lib.hid (fun q => (inG_iff (G := G) (x := x) (z := z)).1 q)
  have HB := Lib.hid hb
  obtain ⟨n, hn⟩ : ∃ n, n = G.L.length := ⟨_, rfl⟩
  rw [← hn] at HH ⊢
  have HN := Lib.hid hn
  obtain ⟨ga, hga⟩ : ∃ q, q = G.ga := ⟨_, rfl⟩
  rw [← hga] at HH ⊢
  clear hn h KW hb hga
  cases h1 : wiB x G.x (G.x + G.w - 1)
  · have HO : Hid (atG G x z = []) := Lib.hid (atG_out (by rw [hin, h1]; rfl))
    rw [h1] at K1
    clear hin h1
    go_enter Tryd.func38, Tryd.ntmps38
    go_wp2_with fail
    refine (K1 _).mono ?_
    rintro e w2 ⟨rfl, rfl⟩
    go_wp2_with fail
    go_ret
    exact ⟨_, rfl, by rw [HO.out]; exact Sl.nil, by (repeat (first | (with_reducible exact New.refl _) | (with_reducible assumption) | ((with_reducible refine New.setB ?_ ?_ _); focus (first | omega | (simp; omega) | (simp; done))) | (with_reducible refine New.alloc ?_ _) | (with_reducible refine New.drew ?_) | (with_reducible refine New.drewN ?_ _) | (with_reducible refine New.hat ?_ _) | ((with_reducible apply New.snart); (with_reducible assumption))))⟩
  cases h2 : wiB z G.z (G.z + G.d - 1)
  · have HO : Hid (atG G x z = []) := Lib.hid (atG_out (by rw [hin, h1, h2]; rfl))
    rw [h1] at K1
    rw [h2] at K2
    clear hin h1 h2
    go_enter Tryd.func38, Tryd.ntmps38
    go_wp2_with fail
    refine (K1 _).mono ?_
    rintro e w2 ⟨rfl, rfl⟩
    go_wp2_with fail
    refine (K2 _).mono ?_
    rintro e w2 ⟨rfl, rfl⟩
    go_wp2_with fail
    go_ret
    exact ⟨_, rfl, by rw [HO.out]; exact Sl.nil, by (repeat (first | (with_reducible exact New.refl _) | (with_reducible assumption) | ((with_reducible refine New.setB ?_ ?_ _); focus (first | omega | (simp; omega) | (simp; done))) | (with_reducible refine New.alloc ?_ _) | (with_reducible refine New.drew ?_) | (with_reducible refine New.drewN ?_ _) | (with_reducible refine New.hat ?_ _) | ((with_reducible apply New.snart); (with_reducible assumption))))⟩
  have hq : inG G x z = true := by rw [hin, h1, h2]; rfl
  have HO := Lib.hid (atG_in hE hq)
  rw [h1] at K1
  rw [h2] at K2
  clear hin h1 h2
  obtain ⟨i1, i2, i3, i4⟩ := HI.out hq
  have hr := HQ.out hq
  have hb := HB.out
  have hs1 : IntKind.i64.wrap (z - G.z) = z - G.z := IntWalk.i64_in _ (by omega)
  have hs2 : IntKind.i64.wrap ((z - G.z) * G.w) = (z - G.z) * G.w := IntWalk.i64_in _ (by omega)
  have hs3 : IntKind.i64.wrap ((z - G.z) * G.w + x) = (z - G.z) * G.w + x := IntWalk.i64_in _ (by omega)
  have hs4 : IntKind.i64.wrap ((z - G.z) * G.w + x - G.x) = (ixG G x z : Int) := by rw [IntWalk.i64_in _ (by omega)]; omega
  obtain ⟨b, off, a, c, rfl, hc, hs⟩ := HH.out.at (ixG G x z) i4
  have hkn : ixG G x z < n := by rw [HN.out]; exact i4
  have hO := HO.out
  obtain ⟨l, hl⟩ : ∃ l, l = G.L[ixG G x z] := ⟨_, rfl⟩
  rw [← hl] at hc hs hO
  have HS := Lib.hid hs
  replace hc := hn0.keep hc
  have hbz : b < w.heap.size := World.block_lt_of_cell? _ _ hc
  have HO2 := Lib.hid hO
  obtain ⟨m, hm⟩ : ∃ m, m = l.length := ⟨_, rfl⟩
  rw [← hm] at hc HS
  clear hl hs hO HO HI HQ HB i1 i2 i3 i4 hr hb hq HH hm
  generalize ixG G x z = k at *
  go_enter Tryd.func38, Tryd.ntmps38
  go_wp2_with fail
  refine (K1 _).mono ?_
  rintro e w2 ⟨rfl, rfl⟩
  go_wp2_with fail
  refine (K2 _).mono ?_
  rintro e w2 ⟨rfl, rfl⟩
  go_wp2_with fail
  go_ret
  exact ⟨_, rfl, by rw [HO2.out]; exact HS.out, by (repeat (first | (with_reducible exact New.refl _) | (with_reducible assumption) | ((with_reducible refine New.setB ?_ ?_ _); focus (first | omega | (simp; omega) | (simp; done))) | (with_reducible refine New.alloc ?_ _) | (with_reducible refine New.drew ?_) | (with_reducible refine New.drewN ?_ _) | (with_reducible refine New.hat ?_ _) | ((with_reducible apply New.snart); (with_reducible assumption))))⟩


def flO (o : Option Fl) : Fl := o.getD Fl.zero
theorem at_len {G : Gd} (hE : gE G = 0) (x z : Int) : (atG G x z).length ≤ 8 := atG_len hE x z

set_option maxHeartbeats 4000000 in
set_option maxRecDepth 100000 in
theorem lk_floor (C : CfgR) (G : Gd) (hE : gE G = 0) (s : Sd) (w0 w : World) (hn0 : New w0 w) (h : G.ok w0) : Calls Tryd.prog 37 #[.agg #[.int .i64 C.cl, .int .i64 C.cb, .int .i64 C.ht, .int .i64 C.ri, .int .i64 C.ru, .int .i64 C.wd, .int .i64 C.dp, .int .i64 G.x, .int .i64 G.z, .int .i64 G.w, .int .i64 G.d, .slice G.ga G.L.length G.gc], .agg #[.int .i64 s.x, .int .i64 s.z, .int .i64 s.k]] w fun e w' => e = .returned (.tuple #[.agg #[.int .i64 (flO (flG G s)).y, .int .i64 (flO (flG G s)).top, .int .i64 (flO (flG G s)).area], .bool (flG G s).isSome]) ∧ New w w' := by
  have KC := Lib.hid (fun W (q : New w W) => lk_column C G hE s.x s.z w0 W (hn0.trans q) h)
  have KW := Lib.hid (fun n hi (W : World) => lk_within n 0 hi W)
  have hl8 := at_len hE s.x s.z
  obtain ⟨o, ho⟩ : ∃ o, o = flG G s := ⟨_, rfl⟩
  have HN := Lib.hid (fun q => flG_none (G := G) (s := s) q)
  have HS := Lib.hid (fun (k : Nat) (e : s.k = k) q => flG_some (G := G) e q)
  rw [← ho] at HN HS ⊢
  clear ho
  obtain ⟨n, hn⟩ : ∃ n, n = G.L.length := ⟨_, rfl⟩
  rw [← hn] at KC ⊢
  clear hn h
  generalize atG G s.x s.z = l at *
  obtain ⟨m, hm⟩ : ∃ m, m = l.length := ⟨_, rfl⟩
  have HM := Lib.hid hm
  rw [← hm] at hl8
  have hw1 : IntKind.i64.wrap ((m : Int) - 1) = m - 1 := IntWalk.i64_in _ (by omega)
  have KW1 := Lib.hid (fun W => KW.out s.k (m - 1) W)
  clear hm
  go_enter Tryd.func37, Tryd.ntmps37
  go_wp2_with fail
  refine Calls.at (fun W hW => ?_)
  have n0 : New w W := by subst hW; (repeat (first | (with_reducible exact New.refl _) | (with_reducible assumption) | ((with_reducible refine New.setB ?_ ?_ _); focus (first | omega | (simp; omega) | (simp; done))) | (with_reducible refine New.alloc ?_ _) | (with_reducible refine New.drew ?_) | (with_reducible refine New.drewN ?_ _) | (with_reducible refine New.hat ?_ _) | ((with_reducible apply New.snart); (with_reducible assumption))))
  have s0 : W.cell? ⟨w.heap.size + 1, 0, none⟩ = some (.int .i64 s.x) := by subst hW; go_simp
  have s1 : W.cell? ⟨w.heap.size + 1, 1, none⟩ = some (.int .i64 s.z) := by subst hW; go_simp
  have s2 : W.cell? ⟨w.heap.size + 1, 2, none⟩ = some (.int .i64 s.k) := by subst hW; go_simp
  have z0 : W.cell? ⟨w.heap.size + 1 + 1, 0, none⟩ = some (.int .i64 0) := by subst hW; go_simp
  have z1 : W.cell? ⟨w.heap.size + 1 + 1, 1, none⟩ = some (.int .i64 0) := by subst hW; go_simp
  have z2 : W.cell? ⟨w.heap.size + 1 + 1, 2, none⟩ = some (.int .i64 0) := by subst hW; go_simp
  have f0 : W.frozen? ⟨w.heap.size + 1 + 1, 0, none⟩ = false := by subst hW; go_simp
  have f1 : W.frozen? ⟨w.heap.size + 1 + 1, 1, none⟩ = false := by subst hW; go_simp
  have f2 : W.frozen? ⟨w.heap.size + 1 + 1, 2, none⟩ = false := by subst hW; go_simp
  clear hW
  refine (KC.out _ n0).mono ?_
  rintro e w1 ⟨v, rfl, hs, n1⟩
  replace s0 := n1.keep s0
  replace s1 := n1.keep s1
  replace s2 := n1.keep s2
  replace f0 := n1.keepF z0 f0
  replace f1 := n1.keepF z1 f1
  replace f2 := n1.keepF z2 f2
  replace z0 := n1.keep z0
  replace z1 := n1.keep z1
  replace z2 := n1.keep z2
  have N1 := n0.trans n1
  obtain ⟨a, c, rfl, -, -, -, hr⟩ := hs
  have HRW := Lib.hid hr
  clear hr n0 n1 KC
  rw [← HM.out]
  go_wp2_with fail
  refine (KW1.out _).mono ?_
  rintro e w2 ⟨rfl, rfl⟩
  cases hk : wiB s.k 0 (m - 1)
  · have hb := wiB_not.1 hk
    have HO := Lib.hid (HN.out (by rw [← HM.out]; omega))
    clear hk hb HN HS
    go_wp2_with fail
    generalize hW5 : World.setCell _ _ _ = W5
    have n5 : New w W5 := by subst hW5; (repeat (first | (with_reducible exact New.refl _) | (with_reducible assumption) | ((with_reducible refine New.setB ?_ ?_ _); focus (first | omega | (simp; omega) | (simp; done))) | (with_reducible refine New.alloc ?_ _) | (with_reducible refine New.drew ?_) | (with_reducible refine New.drewN ?_ _) | (with_reducible refine New.hat ?_ _) | ((with_reducible apply New.snart); (with_reducible assumption))))
    have k0 : W5.cell? ⟨w.heap.size + 1 + 1, 0, none⟩ = some (.int .i64 0) := by subst hW5; go_simp
    have k1 : W5.cell? ⟨w.heap.size + 1 + 1, 1, none⟩ = some (.int .i64 0) := by subst hW5; go_simp
    have k2 : W5.cell? ⟨w.heap.size + 1 + 1, 2, none⟩ = some (.int .i64 0) := by subst hW5; go_simp
    clear hW5 z0 z1 z2 f0 f1 f2
    refine bodyPost_ret (v := .tuple #[.agg #[.int .i64 0, .int .i64 0, .int .i64 0], .bool false]) (by simp [results, Tryd.results37, go_sem, *]) rfl ?_
    rw [HO.out]
    exact ⟨rfl, n5⟩
  · have hb := wiB_iff.1 hk
    obtain ⟨k, hkk⟩ : ∃ k : Nat, s.k = k := ⟨s.k.toNat, by omega⟩
    have hkm : k < m := by omega
    have hkl : k < l.length := by rw [← HM.out]; exact hkm
    have HO := Lib.hid (HS.out k hkk hkl)
    obtain ⟨b, off, rfl, hA⟩ := HRW.out (by omega)
    obtain ⟨c0, c1, c2⟩ := Fl.cells (hA.keep (hn0.trans N1)) k hkl
    obtain ⟨f, hf⟩ : ∃ f, f = l[k] := ⟨_, rfl⟩
    rw [← hf] at c0 c1 c2
    have HF : Hid (o = some f) := Lib.hid (by rw [HO.out, hf])
    rw [hkk] at s2
    clear hk hb HN HS HO hA hf HRW
    go_wp2_with fail
    generalize hW5 : World.setCell _ _ _ = W5
    have n5 : New w W5 := by subst hW5; (repeat (first | (with_reducible exact New.refl _) | (with_reducible assumption) | ((with_reducible refine New.setB ?_ ?_ _); focus (first | omega | (simp; omega) | (simp; done))) | (with_reducible refine New.alloc ?_ _) | (with_reducible refine New.drew ?_) | (with_reducible refine New.drewN ?_ _) | (with_reducible refine New.hat ?_ _) | ((with_reducible apply New.snart); (with_reducible assumption))))
    have k0 : W5.cell? ⟨w.heap.size + 1 + 1, 0, none⟩ = some (.int .i64 f.y) := by subst hW5; go_simp
    have k1 : W5.cell? ⟨w.heap.size + 1 + 1, 1, none⟩ = some (.int .i64 f.top) := by subst hW5; go_simp
    have k2 : W5.cell? ⟨w.heap.size + 1 + 1, 2, none⟩ = some (.int .i64 f.area) := by subst hW5; go_simp
    clear hW5 z0 z1 z2 f0 f1 f2
    refine bodyPost_ret (v := .tuple #[.agg #[.int .i64 f.y, .int .i64 f.top, .int .i64 f.area], .bool true]) (by simp [results, Tryd.results37, go_sem, *]) rfl ?_
    rw [HF.out]
    exact ⟨rfl, n5⟩

end Go.Proofs.YtljcebahjfifhaaDoor

/- Package links: to. -/
namespace Go.Proofs.YtljcebahjfifhaaDoor
open Go.RowKit
set_option linter.unusedVariables false

/-- A ground, where it lies. -/
structure OnAt (C : CfgR) (G : Gd) (n : Nat) (W : World) (B : Nat) : Prop where
  c0 : W.cell? ⟨B, 0, none⟩ = some (.int .i64 C.cl)
  c1 : W.cell? ⟨B, 1, none⟩ = some (.int .i64 C.cb)
  c2 : W.cell? ⟨B, 2, none⟩ = some (.int .i64 C.ht)
  c3 : W.cell? ⟨B, 3, none⟩ = some (.int .i64 C.ri)
  c4 : W.cell? ⟨B, 4, none⟩ = some (.int .i64 C.ru)
  c5 : W.cell? ⟨B, 5, none⟩ = some (.int .i64 C.wd)
  c6 : W.cell? ⟨B, 6, none⟩ = some (.int .i64 C.dp)
  g0 : W.cell? ⟨B, 7, none⟩ = some (.int .i64 G.x)
  g1 : W.cell? ⟨B, 8, none⟩ = some (.int .i64 G.z)
  g2 : W.cell? ⟨B, 9, none⟩ = some (.int .i64 G.w)
  g3 : W.cell? ⟨B, 10, none⟩ = some (.int .i64 G.d)
  g4 : W.cell? ⟨B, 11, none⟩ = some (.slice G.ga n G.gc)
theorem OnAt.new {C : CfgR} {G : Gd} {n : Nat} {W W' : World} {B : Nat} (h : OnAt C G n W B) (q : New W W') : OnAt C G n W' B :=
  ⟨q.keep h.c0, q.keep h.c1, q.keep h.c2, q.keep h.c3, q.keep h.c4, q.keep h.c5, q.keep h.c6, q.keep h.g0, q.keep h.g1, q.keep h.g2, q.keep h.g3, q.keep h.g4⟩
/-- Three numbers, where they lie. -/
structure SdAt (s : Sd) (W : World) (B : Nat) : Prop where
  c0 : W.cell? ⟨B, 0, none⟩ = some (.int .i64 s.x)
  c1 : W.cell? ⟨B, 1, none⟩ = some (.int .i64 s.z)
  c2 : W.cell? ⟨B, 2, none⟩ = some (.int .i64 s.k)
theorem SdAt.new {s : Sd} {W W' : World} {B : Nat} (h : SdAt s W B) (q : New W W') : SdAt s W' B := ⟨q.keep h.c0, q.keep h.c1, q.keep h.c2⟩
structure FlAt (s : Fl) (W : World) (B : Nat) : Prop where
  c0 : W.cell? ⟨B, 0, none⟩ = some (.int .i64 s.y)
  c1 : W.cell? ⟨B, 1, none⟩ = some (.int .i64 s.top)
  c2 : W.cell? ⟨B, 2, none⟩ = some (.int .i64 s.area)
theorem FlAt.new {s : Fl} {W W' : World} {B : Nat} (h : FlAt s W B) (q : New W W') : FlAt s W' B := ⟨q.keep h.c0, q.keep h.c1, q.keep h.c2⟩
/-- Three cells of nothing, to be written. -/
structure Res3 (W : World) (B : Nat) : Prop where
  c0 : W.cell? ⟨B, 0, none⟩ = some (.int .i64 0)
  c1 : W.cell? ⟨B, 1, none⟩ = some (.int .i64 0)
  c2 : W.cell? ⟨B, 2, none⟩ = some (.int .i64 0)
  f0 : W.frozen? ⟨B, 0, none⟩ = false
  f1 : W.frozen? ⟨B, 1, none⟩ = false
  f2 : W.frozen? ⟨B, 2, none⟩ = false
theorem Res3.new {W W' : World} {B : Nat} (h : Res3 W B) (q : New W W') : Res3 W' B := ⟨q.keep h.c0, q.keep h.c1, q.keep h.c2, q.keepF h.c0 h.f0, q.keepF h.c1 h.f1, q.keepF h.c2 h.f2⟩

set_option maxHeartbeats 8000000 in
set_option maxRecDepth 100000 in
theorem lk_to (C : CfgR) (G : Gd) (hE : gE G = 0) (s : Sd) (d : Int) (w0 w : World) (hn0 : New w0 w) (h : G.ok w0) (hD : Dirs w) : Calls Tryd.prog 26 #[.agg #[.int .i64 C.cl, .int .i64 C.cb, .int .i64 C.ht, .int .i64 C.ri, .int .i64 C.ru, .int .i64 C.wd, .int .i64 C.dp, .int .i64 G.x, .int .i64 G.z, .int .i64 G.w, .int .i64 G.d, .slice G.ga G.L.length G.gc], .agg #[.int .i64 s.x, .int .i64 s.z, .int .i64 s.k], .int .i64 d] w fun e w' => e = .returned (.tuple #[.agg #[.int .i64 (sdO (toS C G s d)).x, .int .i64 (sdO (toS C G s d)).z, .int .i64 (sdO (toS C G s d)).k], .bool (toS C G s d).isSome]) ∧ New w w' := by
  have KF := Lib.hid (fun W (q : New w W) => lk_floor C G hE s w0 W (hn0.trans q) h)
  have KC := Lib.hid (fun x z W (q : New w W) => lk_column C G hE x z w0 W (hn0.trans q) h)
  have KS := Lib.hid (fun W (q : New w W) => lk_Step d W (hD.new q))
  have KL := Lib.hid (fun a b W => lk_linked C a b W)
  have hl8 := at_len hE (s.x + dxD d) (s.z + dzD d)
  obtain ⟨r, hr⟩ : ∃ r, r = toS C G s d := ⟨_, rfl⟩
  have R1 : Hid (flG G s = none → r = none) := Lib.hid (fun q => by rw [hr, toS_floor q])
  have R2 : Hid (okD d = false → r = none) := Lib.hid (fun q => by rw [hr, toS_dir q])
  obtain ⟨l, hl⟩ : ∃ l, l = atG G (s.x + dxD d) (s.z + dzD d) := ⟨_, rfl⟩
  have R3 : Hid (∀ a, flG G s = some a → okD d = true → ∀ i (hi : i < l.length), lkB C a l[i] = true → (∀ j (hj : j < l.length), j < i → lkB C a l[j] = false) → r = some ⟨s.x + dxD d, s.z + dzD d, i⟩) := Lib.hid (fun a q1 q2 i hi q3 q4 => by rw [hr, toS_hit q1 q2 hl hi q3 q4])
  have R4 : Hid (∀ a, flG G s = some a → okD d = true → (∀ j (hj : j < l.length), lkB C a l[j] = false) → r = none) := Lib.hid (fun a q1 q2 q3 => by rw [hr, toS_miss q1 q2 hl q3])
  have RI : Hid (∀ a, flG G s = some a → -100 ≤ s.x ∧ s.x ≤ 200 ∧ -100 ≤ s.z ∧ s.z ≤ 200) := Lib.hid (fun a q => by
    have h1 := inG_iff.1 (flG_in q)
    have h2 := placeB_iff.1 (gd_is hE).1
    omega)
  rw [← hr]
  rw [← hl] at hl8
  have KC2 := Lib.hid (fun W (q : New w W) => by
    have := KC.out (s.x + dxD d) (s.z + dzD d) W q
    rw [← hl] at this
    exact this)
  have hdx := dxD_small d
  have hdz := dzD_small d
  obtain ⟨n, hn⟩ : ∃ n, n = G.L.length := ⟨_, rfl⟩
  rw [← hn] at KF KC2 ⊢
  clear hr hl hn h hD KC hE
  unfold stV at KS
  obtain ⟨dx, hdx1⟩ : ∃ x, x = dxD d := ⟨_, rfl⟩
  obtain ⟨dz, hdz1⟩ : ∃ x, x = dzD d := ⟨_, rfl⟩
  rw [← hdx1] at KS KC2 R3 hdx
  rw [← hdz1] at KS KC2 R3 hdz
  clear hdx1 hdz1
  generalize flG G s = o at *
  go_enter Tryd.func26, Tryd.ntmps26
  go_wp2_with fail
  refine Calls.at (fun W hW => ?_)
  have n0 : New w W := by subst hW; (repeat (first | (with_reducible exact New.refl _) | (with_reducible assumption) | ((with_reducible refine New.setB ?_ ?_ _); focus (first | omega | (simp; omega) | (simp; done))) | (with_reducible refine New.alloc ?_ _) | (with_reducible refine New.drew ?_) | (with_reducible refine New.drewN ?_ _) | (with_reducible refine New.hat ?_ _) | ((with_reducible apply New.snart); (with_reducible assumption))))
  have HG : Hid (OnAt C G n W w.heap.size) := Lib.hid (by subst hW; exact ⟨by go_simp, by go_simp, by go_simp, by go_simp, by go_simp, by go_simp, by go_simp, by go_simp, by go_simp, by go_simp, by go_simp, by go_simp⟩)
  have HS : Hid (SdAt s W (w.heap.size + 1)) := Lib.hid (by subst hW; exact ⟨by go_simp, by go_simp, by go_simp⟩)
  have HZ : Hid (Res3 W (w.heap.size + 1 + 1)) := Lib.hid (by subst hW; exact ⟨by go_simp, by go_simp, by go_simp, by go_simp, by go_simp, by go_simp⟩)
  clear hW
  refine (KF.out _ n0).mono ?_
  rintro e w1 ⟨rfl, n1⟩
  have N1 := Lib.hid (n0.trans n1)
  replace HG := Lib.hid (HG.out.new n1)
  replace HS := Lib.hid (HS.out.new n1)
  replace HZ := Lib.hid (HZ.out.new n1)
  clear n0 n1 KF
  go_wp2_with fail
  refine Calls.at (fun W2 hW => ?_)
  have n2 : New w1 W2 := by subst hW; (repeat (first | (with_reducible exact New.refl _) | (with_reducible assumption) | ((with_reducible refine New.setB ?_ ?_ _); focus (first | omega | (simp; omega) | (simp; done))) | (with_reducible refine New.alloc ?_ _) | (with_reducible refine New.drew ?_) | (with_reducible refine New.drewN ?_ _) | (with_reducible refine New.hat ?_ _) | ((with_reducible apply New.snart); (with_reducible assumption))))
  have HA : Hid (FlAt (flO o) W2 w1.heap.size) := Lib.hid (by subst hW; exact ⟨by go_simp, by go_simp, by go_simp⟩)
  clear hW
  have N2 := Lib.hid (N1.out.trans n2)
  refine (KS.out _ N2.out).mono ?_
  rintro e w3 ⟨rfl, n3⟩
  have N3 := Lib.hid (N2.out.trans n3)
  replace HG := Lib.hid (HG.out.new (n2.trans n3))
  replace HS := Lib.hid (HS.out.new (n2.trans n3))
  replace HZ := Lib.hid (HZ.out.new (n2.trans n3))
  replace HA := Lib.hid (HA.out.new n3)
  clear n2 n3 KS N1 N2
  rcases o with _ | a
  · have HR := Lib.hid (R1.out rfl)
    obtain ⟨z0, z1, z2, f0, f1, f2⟩ := HZ.out
    have n3 := N3.out
    simp only [Option.isSome_none]
    clear R1 R2 R3 R4 RI
    go_wp2_with fail
    ((generalize hW5 : World.setCell _ _ _ = W5); (have n5 : New w W5 := (by subst hW5; (repeat (first | (with_reducible exact New.refl _) | (with_reducible assumption) | ((with_reducible refine New.setB ?_ ?_ _); focus (first | omega | (simp; omega) | (simp; done))) | (with_reducible refine New.alloc ?_ _) | (with_reducible refine New.drew ?_) | (with_reducible refine New.drewN ?_ _) | (with_reducible refine New.hat ?_ _) | ((with_reducible apply New.snart); (with_reducible assumption)))))); (have k0 : W5.cell? ⟨w.heap.size + 1 + 1, 0, none⟩ = some (.int .i64 0) := (by subst hW5; go_simp)); (have k1 : W5.cell? ⟨w.heap.size + 1 + 1, 1, none⟩ = some (.int .i64 0) := (by subst hW5; go_simp)); (have k2 : W5.cell? ⟨w.heap.size + 1 + 1, 2, none⟩ = some (.int .i64 0) := (by subst hW5; go_simp)); clear hW5 z0 z1 z2 f0 f1 f2; refine bodyPost_ret (v := .tuple #[.agg #[.int .i64 0, .int .i64 0, .int .i64 0], .bool false]) (by simp [results, Tryd.results26, go_sem, *]) rfl ?_)
    rw [HR.out]
    exact ⟨rfl, n5⟩
  simp only [Option.isSome_some]
  obtain ⟨i1, i2, i3, i4⟩ := RI.out a rfl
  replace HA : Hid (FlAt a w3 w1.heap.size) := Lib.hid HA.out
  have R3' := Lib.hid (R3.out a rfl)
  have R4' := Lib.hid (R4.out a rfl)
  clear R1 R3 R4 RI
  have hfl : flO (some a) = a := rfl
  rw [hfl]
  clear hfl
  cases hok : okD d
  · have HR := Lib.hid (R2.out hok)
    obtain ⟨z0, z1, z2, f0, f1, f2⟩ := HZ.out
    have n3 := N3.out
    clear hok R2 R3' R4'
    go_wp2_with fail
    ((generalize hW5 : World.setCell _ _ _ = W5); (have n5 : New w W5 := (by subst hW5; (repeat (first | (with_reducible exact New.refl _) | (with_reducible assumption) | ((with_reducible refine New.setB ?_ ?_ _); focus (first | omega | (simp; omega) | (simp; done))) | (with_reducible refine New.alloc ?_ _) | (with_reducible refine New.drew ?_) | (with_reducible refine New.drewN ?_ _) | (with_reducible refine New.hat ?_ _) | ((with_reducible apply New.snart); (with_reducible assumption)))))); (have k0 : W5.cell? ⟨w.heap.size + 1 + 1, 0, none⟩ = some (.int .i64 0) := (by subst hW5; go_simp)); (have k1 : W5.cell? ⟨w.heap.size + 1 + 1, 1, none⟩ = some (.int .i64 0) := (by subst hW5; go_simp)); (have k2 : W5.cell? ⟨w.heap.size + 1 + 1, 2, none⟩ = some (.int .i64 0) := (by subst hW5; go_simp)); clear hW5 z0 z1 z2 f0 f1 f2; refine bodyPost_ret (v := .tuple #[.agg #[.int .i64 0, .int .i64 0, .int .i64 0], .bool false]) (by simp [results, Tryd.results26, go_sem, *]) rfl ?_)
    rw [HR.out]
    exact ⟨rfl, n5⟩
  have R5 := Lib.hid (R3'.out hok)
  have R6 := Lib.hid (R4'.out hok)
  clear R2 R3' R4' hok
  have hsx : IntKind.i64.wrap (s.x + dx) = s.x + dx := IntWalk.i64_in _ (by omega)
  have hsz : IntKind.i64.wrap (s.z + dz) = s.z + dz := IntWalk.i64_in _ (by omega)
  clear i1 i2 i3 i4 hdx hdz
  obtain ⟨s0, s1, s2⟩ := HS.out
  go_wp2_with fail
  (refine wp_region_hat (by kernel_rfl) (by kernel_rfl) ?_; intro hatc hatf; (repeat (go_big_quiet_step ((fail)))); refine wpQuiet_nil ?_; rintro _ ⟨q, rfl⟩)
  replace HG := Lib.hid (HG.out.new q.h)
  replace HA := Lib.hid (HA.out.new q.h)
  replace HZ := Lib.hid (HZ.out.new q.h)
  replace N3 := Lib.hid (N3.out.trans q.h)
  clear hatc hatf s0 s1 s2 HS
  generalize q.w = w4 at *
  clear q
  obtain ⟨c0, c1, c2, c3, c4, c5, c6, g0, g1, g2, g3, g4⟩ := HG.out
  go_wp2_with fail
  refine (KC2.out _ N3.out).mono ?_
  rintro e w5 ⟨v, rfl, hs, n5⟩
  clear c0 c1 c2 c3 c4 c5 c6 g0 g1 g2 g3 g4
  replace HG := Lib.hid (HG.out.new n5)
  replace HA := Lib.hid (HA.out.new n5)
  replace HZ := Lib.hid (HZ.out.new n5)
  replace N3 := Lib.hid (N3.out.trans n5)
  obtain ⟨ra, rc, rfl, -, -, -, hrow⟩ := hs
  have HRW := Lib.hid hrow
  clear hrow n5 KC2
  obtain ⟨m, hm⟩ : ∃ m, m = l.length := ⟨_, rfl⟩
  have HM := Lib.hid hm
  rw [← hm] at hl8 ⊢
  clear hm
  have hz5 : w.heap.size + 1 + 1 < w5.heap.size := World.block_lt_of_cell? _ _ HZ.out.c0
  go_wp2_with fail
  go_loopg [49] m (fun gk s49 wr => ∃ i : Nat, s49 = .int .i64 i ∧ i ≤ m ∧ m - i ≤ gk ∧ Hid (∀ j (hj : j < l.length), j < i → lkB C a l[j] = false) ∧ Hid (New w5 wr))
  case atStart => exact ⟨0, rfl, by omega, by omega, Lib.hid (fun j _ h => by omega), Lib.hid (New.refl _)⟩
  case round =>
    obtain ⟨i, rfl, hi, hgk, HB, hnr⟩ := hrel
    have HGr := Lib.hid (HG.out.new hnr.out)
    have HAr := Lib.hid (HA.out.new hnr.out)
    have HZr := Lib.hid (HZ.out.new hnr.out)
    by_cases hlt : i < m
    · have hil : i < l.length := by rw [← HM.out]; exact hlt
      obtain ⟨b, off, rfl, hA⟩ := HRW.out (by omega)
      obtain ⟨d0, d1, d2⟩ := Fl.cells (hA.keep (hn0.trans (N3.out.trans hnr.out))) i hil
      have KLi := Lib.hid (KL.out a l[i])
      have R5i := Lib.hid (fun q => R5.out i hil q HB.out)
      obtain ⟨f, hf⟩ : ∃ f, f = l[i] := ⟨_, rfl⟩
      rw [← hf] at d0 d1 d2 KLi R5i
      have HF := Lib.hid hf
      obtain ⟨c0, c1, c2, c3, c4, c5, c6, -, -, -, -, -⟩ := HGr.out
      obtain ⟨a0, a1, a2⟩ := HAr.out
      obtain ⟨lb, hlb⟩ : ∃ q, q = lkB C a f := ⟨_, rfl⟩
      rw [← hlb] at KLi R5i
      have HLB := Lib.hid hlb
      have hz1 := World.block_lt_of_cell? _ _ c0
      have hz2 := World.block_lt_of_cell? _ _ a0
      simp only [] at hz1 hz2
      clear hA hf hlb
      go_wp2_with fail
      refine Calls.at (fun W6 hW => ?_)
      have n6 : New wr W6 := by subst hW; (repeat (first | (with_reducible exact New.refl _) | (with_reducible assumption) | ((with_reducible refine New.setB ?_ ?_ _); focus (first | omega | (simp; omega) | (simp; done))) | (with_reducible refine New.alloc ?_ _) | (with_reducible refine New.drew ?_) | (with_reducible refine New.drewN ?_ _) | (with_reducible refine New.hat ?_ _) | ((with_reducible apply New.snart); (with_reducible assumption))))
      clear hW c0 c1 c2 c3 c4 c5 c6 a0 a1 a2 d0 d1 d2
      refine (KLi.out _).mono ?_
      rintro e w7 ⟨rfl, n7⟩
      have nn := Lib.hid (hnr.out.trans (n6.trans n7))
      obtain ⟨z0, z1, z2, f0, f1, f2⟩ := HZr.out.new (n6.trans n7)
      have NN := Lib.hid (N3.out.trans nn.out)
      clear n6 n7
      cases lb
      · have hnx : Hid (∀ j (hj : j < l.length), j < i + 1 → lkB C a l[j] = false) := Lib.hid (fun j hj h => by
          by_cases e : j < i
          · exact HB.out j hj e
          · obtain rfl : j = i := by omega
            rw [← HF.out]; exact HLB.out.symm)
        clear R5i z0 z1 z2 f0 f1 f2
        go_wp2_with fail
        go_roundg (m - (i + 1))
        case measure => omega
        case rel => exact ⟨i + 1, by go_num, by omega, by omega, hnx, nn⟩
      · have HR := Lib.hid (R5i.out rfl)
        have n3 := NN.out
        clear R5i
        go_wp2_with fail
        ((generalize hW5 : World.setCell _ _ _ = W5); (have n5 : New w W5 := (by subst hW5; (repeat (first | (with_reducible exact New.refl _) | (with_reducible assumption) | ((with_reducible refine New.setB ?_ ?_ _); focus (first | omega | (simp; omega) | (simp; done))) | (with_reducible refine New.alloc ?_ _) | (with_reducible refine New.drew ?_) | (with_reducible refine New.drewN ?_ _) | (with_reducible refine New.hat ?_ _) | ((with_reducible apply New.snart); (with_reducible assumption)))))); (have k0 : W5.cell? ⟨w.heap.size + 1 + 1, 0, none⟩ = some (.int .i64 (s.x + dx)) := (by subst hW5; go_simp)); (have k1 : W5.cell? ⟨w.heap.size + 1 + 1, 1, none⟩ = some (.int .i64 (s.z + dz)) := (by subst hW5; go_simp)); (have k2 : W5.cell? ⟨w.heap.size + 1 + 1, 2, none⟩ = some (.int .i64 (i : Int)) := (by subst hW5; go_simp)); clear hW5 z0 z1 z2 f0 f1 f2; refine bodyPost_ret (v := .tuple #[.agg #[.int .i64 (s.x + dx), .int .i64 (s.z + dz), .int .i64 (i : Int)], .bool true]) (by simp [results, Tryd.results26, go_sem, *]) rfl ?_)
        rw [HR.out]
        exact ⟨rfl, n5⟩
    · obtain rfl : i = m := by omega
      have HR := Lib.hid (R6.out (fun j hj => HB.out j hj (by rw [HM.out]; exact hj)))
      obtain ⟨z0, z1, z2, f0, f1, f2⟩ := HZr.out
      have n3 := N3.out.trans hnr.out
      go_wp2_with fail
      ((generalize hW5 : World.setCell _ _ _ = W5); (have n5 : New w W5 := (by subst hW5; (repeat (first | (with_reducible exact New.refl _) | (with_reducible assumption) | ((with_reducible refine New.setB ?_ ?_ _); focus (first | omega | (simp; omega) | (simp; done))) | (with_reducible refine New.alloc ?_ _) | (with_reducible refine New.drew ?_) | (with_reducible refine New.drewN ?_ _) | (with_reducible refine New.hat ?_ _) | ((with_reducible apply New.snart); (with_reducible assumption)))))); (have k0 : W5.cell? ⟨w.heap.size + 1 + 1, 0, none⟩ = some (.int .i64 0) := (by subst hW5; go_simp)); (have k1 : W5.cell? ⟨w.heap.size + 1 + 1, 1, none⟩ = some (.int .i64 0) := (by subst hW5; go_simp)); (have k2 : W5.cell? ⟨w.heap.size + 1 + 1, 2, none⟩ = some (.int .i64 0) := (by subst hW5; go_simp)); clear hW5 z0 z1 z2 f0 f1 f2; refine bodyPost_ret (v := .tuple #[.agg #[.int .i64 0, .int .i64 0, .int .i64 0], .bool false]) (by simp [results, Tryd.results26, go_sem, *]) rfl ?_)
      rw [HR.out]
      exact ⟨rfl, n5⟩

end Go.Proofs.YtljcebahjfifhaaDoor

/- Package links: the way round, diagonal. -/
namespace Go.Proofs.YtljcebahjfifhaaDoor
open Go.RowKit
set_option linter.unusedVariables false

theorem sd_neq (w : World) (a b : Sd) : (binOp .neq 56 (.agg #[.int .i64 a.x, .int .i64 a.z, .int .i64 a.k]) (.agg #[.int .i64 b.x, .int .i64 b.z, .int .i64 b.k])).run Tryd.prog w = .ok (.bool (!a.eqB b)) w := by
  unfold Sd.eqB
  cases h1 : (a.x == b.x) <;> cases h2 : (a.z == b.z) <;> cases h3 : (a.k == b.k) <;> (go_simp)

set_option maxHeartbeats 8000000 in
set_option maxRecDepth 100000 in
theorem lk_round (C : CfgR) (G : Gd) (hE : gE G = 0) (s : Sd) (d d2 : Int) (w0 w : World) (hn0 : New w0 w) (h : G.ok w0) (hD : Dirs w) (B0 B1 : Nat) (hG : OnAt C G G.L.length w B0) (hS : SdAt s w B1) : Calls Tryd.prog 40 #[.int .i64 d, .int .i64 d2, .pointer (some ⟨B0, 0, none⟩), .pointer (some ⟨B1, 0, none⟩)] w fun e w' => e = .returned (.tuple #[.agg #[.int .i64 (sdO (rndS C G s d d2)).x, .int .i64 (sdO (rndS C G s d d2)).z, .int .i64 (sdO (rndS C G s d d2)).k], .bool (rndS C G s d d2).isSome]) ∧ New w w' := by
  have K1 := Lib.hid (fun W (q : New w W) => lk_to C G hE s d w0 W (hn0.trans q) h (hD.new q))
  have K2 := Lib.hid (fun m W (q : New w W) => lk_to C G hE m d2 w0 W (hn0.trans q) h (hD.new q))
  have HG := Lib.hid (fun W (q : New w W) => hG.new q)
  have HS := Lib.hid (fun W (q : New w W) => hS.new q)
  have hz0 := World.block_lt_of_cell? _ _ hG.c0
  have hz1 := World.block_lt_of_cell? _ _ hS.c0
  simp only [] at hz0 hz1
  obtain ⟨r, hr⟩ : ∃ r, r = rndS C G s d d2 := ⟨_, rfl⟩
  have R1 : Hid (toS C G s d = none → r = none) := Lib.hid (fun q => by rw [hr]; unfold rndS; rw [q])
  have R2 : Hid (∀ m, toS C G s d = some m → r = toS C G m d2) := Lib.hid (fun m q => by rw [hr]; unfold rndS; rw [q])
  rw [← hr]
  obtain ⟨n, hn⟩ : ∃ n, n = G.L.length := ⟨_, rfl⟩
  rw [← hn] at K1 K2 HG
  clear hr hn h hD hE hG hS
  obtain ⟨o, ho⟩ : ∃ o, o = toS C G s d := ⟨_, rfl⟩
  rw [← ho] at K1 R1 R2
  clear ho
  go_enter Tryd.func40, Tryd.ntmps40
  go_upto_region 1 with fail
  refine Code.at (fun W hW => ?_)
  have n0 : New w W := by subst hW; (repeat (first | (with_reducible exact New.refl _) | (with_reducible assumption) | ((with_reducible refine New.setB ?_ ?_ _); focus (first | omega | (simp; omega) | (simp; done))) | (with_reducible refine New.alloc ?_ _) | (with_reducible refine New.drew ?_) | (with_reducible refine New.drewN ?_ _) | (with_reducible refine New.hat ?_ _) | ((with_reducible apply New.snart); (with_reducible assumption))))
  have HZ : Hid (Res3 W w.heap.size) := Lib.hid (by subst hW; exact ⟨by go_simp, by go_simp, by go_simp, by go_simp, by go_simp, by go_simp⟩)
  clear hW
  obtain ⟨c0, c1, c2, c3, c4, c5, c6, g0, g1, g2, g3, g4⟩ := HG.out W n0
  obtain ⟨s0, s1, s2⟩ := HS.out W n0
  go_wp2_with fail
  refine (K1.out _ n0).mono ?_
  rintro e w1 ⟨rfl, n1⟩
  clear c0 c1 c2 c3 c4 c5 c6 g0 g1 g2 g3 g4
  have N1 := Lib.hid (n0.trans n1)
  replace HZ := Lib.hid (HZ.out.new n1)
  have hz3 : w.heap.size < w1.heap.size := World.block_lt_of_cell? _ _ HZ.out.c0
  clear n0 n1 K1 s0 s1 s2
  rcases o with _ | m
  · have HR := Lib.hid (R1.out rfl)
    simp only [Option.isSome_none]
    clear R1 R2 K2 HG HS
    go_upto_region 3 with fail
    refine Code.at (fun W2 hW => ?_)
    have n2 : New w1 W2 := by subst hW; (repeat (first | (with_reducible exact New.refl _) | (with_reducible assumption) | ((with_reducible refine New.setB ?_ ?_ _); focus (first | omega | (simp; omega) | (simp; done))) | (with_reducible refine New.alloc ?_ _) | (with_reducible refine New.drew ?_) | (with_reducible refine New.drewN ?_ _) | (with_reducible refine New.hat ?_ _) | ((with_reducible apply New.snart); (with_reducible assumption))))
    clear hW
    obtain ⟨z0, z1, z2, f0, f1, f2⟩ := HZ.out.new n2
    have n3 := N1.out.trans n2
    go_wp2_with fail
    ((generalize hW5 : World.setCell _ _ _ = W5); (have n5 : New w W5 := (by subst hW5; (repeat (first | (with_reducible exact New.refl _) | (with_reducible assumption) | ((with_reducible refine New.setB ?_ ?_ _); focus (first | omega | (simp; omega) | (simp; done))) | (with_reducible refine New.alloc ?_ _) | (with_reducible refine New.drew ?_) | (with_reducible refine New.drewN ?_ _) | (with_reducible refine New.hat ?_ _) | ((with_reducible apply New.snart); (with_reducible assumption)))))); (have k0 : W5.cell? ⟨w.heap.size, 0, none⟩ = some (.int .i64 0) := (by subst hW5; go_simp)); (have k1 : W5.cell? ⟨w.heap.size, 1, none⟩ = some (.int .i64 0) := (by subst hW5; go_simp)); (have k2 : W5.cell? ⟨w.heap.size, 2, none⟩ = some (.int .i64 0) := (by subst hW5; go_simp)); clear hW5 z0 z1 z2 f0 f1 f2; refine bodyPost_ret (v := .tuple #[.agg #[.int .i64 0, .int .i64 0, .int .i64 0], .bool false]) (by simp [results, Tryd.results40, go_sem, *]) rfl ?_)
    rw [HR.out]
    exact ⟨rfl, n5⟩
  have HR := Lib.hid (R2.out m rfl)
  simp only [Option.isSome_some]
  have hm : sdO (some m) = m := rfl
  rw [hm]
  clear hm R1 R2
  go_upto_region 4 with fail
  refine Code.at (fun W2 hW => ?_)
  have n2 : New w1 W2 := by subst hW; (repeat (first | (with_reducible exact New.refl _) | (with_reducible assumption) | ((with_reducible refine New.setB ?_ ?_ _); focus (first | omega | (simp; omega) | (simp; done))) | (with_reducible refine New.alloc ?_ _) | (with_reducible refine New.drew ?_) | (with_reducible refine New.drewN ?_ _) | (with_reducible refine New.hat ?_ _) | ((with_reducible apply New.snart); (with_reducible assumption))))
  have hm0 : W2.cell? ⟨w1.heap.size, 0, none⟩ = some (.int .i64 m.x) := by subst hW; go_simp
  have hm1 : W2.cell? ⟨w1.heap.size, 1, none⟩ = some (.int .i64 m.z) := by subst hW; go_simp
  have hm2 : W2.cell? ⟨w1.heap.size, 2, none⟩ = some (.int .i64 m.k) := by subst hW; go_simp
  clear hW
  have N2 := Lib.hid (N1.out.trans n2)
  obtain ⟨c0, c1, c2, c3, c4, c5, c6, g0, g1, g2, g3, g4⟩ := HG.out W2 N2.out
  replace HZ := Lib.hid (HZ.out.new n2)
  go_wp2_with fail
  refine (K2.out m _ N2.out).mono ?_
  rintro e w3 ⟨rfl, n3⟩
  clear c0 c1 c2 c3 c4 c5 c6 g0 g1 g2 g3 g4
  obtain ⟨z0, z1, z2, f0, f1, f2⟩ := HZ.out.new n3
  have N3 := N2.out.trans n3
  clear n2 hm0 hm1 hm2 n3
  have HR2 := Lib.hid HR.out
  rw [← HR.out]
  obtain ⟨v, hv⟩ : ∃ v, v = sdO r := ⟨_, rfl⟩
  obtain ⟨b, hb⟩ : ∃ b, b = r.isSome := ⟨_, rfl⟩
  rw [← hv, ← hb]
  have HV := Lib.hid (And.intro hv hb)
  clear HR HR2 hv hb
  go_wp2_with fail
  ((generalize hW5 : World.setCell _ _ _ = W5); (have n5 : New w W5 := (by subst hW5; (repeat (first | (with_reducible exact New.refl _) | (with_reducible assumption) | ((with_reducible refine New.setB ?_ ?_ _); focus (first | omega | (simp; omega) | (simp; done))) | (with_reducible refine New.alloc ?_ _) | (with_reducible refine New.drew ?_) | (with_reducible refine New.drewN ?_ _) | (with_reducible refine New.hat ?_ _) | ((with_reducible apply New.snart); (with_reducible assumption)))))); (have k0 : W5.cell? ⟨w.heap.size, 0, none⟩ = some (.int .i64 v.x) := (by subst hW5; go_simp)); (have k1 : W5.cell? ⟨w.heap.size, 1, none⟩ = some (.int .i64 v.z) := (by subst hW5; go_simp)); (have k2 : W5.cell? ⟨w.heap.size, 2, none⟩ = some (.int .i64 v.k) := (by subst hW5; go_simp)); clear hW5 z0 z1 z2 f0 f1 f2; refine bodyPost_ret (v := .tuple #[.agg #[.int .i64 v.x, .int .i64 v.z, .int .i64 v.k], .bool b]) (by simp [results, Tryd.results40, go_sem, *]) rfl ?_)
  rw [← HV.out.1, ← HV.out.2]
  exact ⟨rfl, n5⟩

theorem bits_ax {d e : Int} (hd : okD d = true) (he : okD e = true) : (bits BinOp.and IntKind.i64 d 1 == bits BinOp.and IntKind.i64 e 1) = axB d e := by
  rcases okD_cases hd with rfl | rfl | rfl | rfl <;> rcases okD_cases he with rfl | rfl | rfl | rfl <;> kernel_rfl

set_option maxHeartbeats 8000000 in
set_option maxRecDepth 100000 in
theorem lk_diagonal (C : CfgR) (G : Gd) (hE : gE G = 0) (s : Sd) (d d2 : Int) (w0 w : World) (hn0 : New w0 w) (h : G.ok w0) (hD : Dirs w) : Calls Tryd.prog 29 #[.agg #[.int .i64 C.cl, .int .i64 C.cb, .int .i64 C.ht, .int .i64 C.ri, .int .i64 C.ru, .int .i64 C.wd, .int .i64 C.dp, .int .i64 G.x, .int .i64 G.z, .int .i64 G.w, .int .i64 G.d, .slice G.ga G.L.length G.gc], .agg #[.int .i64 s.x, .int .i64 s.z, .int .i64 s.k], .int .i64 d, .int .i64 d2] w fun e w' => e = .returned (.tuple #[.agg #[.int .i64 (sdO (diaS C G s d d2)).x, .int .i64 (sdO (diaS C G s d d2)).z, .int .i64 (sdO (diaS C G s d d2)).k], .bool (diaS C G s d d2).isSome]) ∧ New w w' := by
  have K1 := Lib.hid (fun W (q : New w W) a b B0 B1 h1 h2 => lk_round C G hE s a b w0 W (hn0.trans q) h (hD.new q) B0 B1 h1 h2)
  obtain ⟨r, hr⟩ : ∃ r, r = diaS C G s d d2 := ⟨_, rfl⟩
  rw [← hr]
  have HR := Lib.hid hr
  obtain ⟨n, hn⟩ : ∃ n, n = G.L.length := ⟨_, rfl⟩
  rw [← hn] at K1 ⊢
  clear hr hn h hD hE
  go_enter Tryd.func29, Tryd.ntmps29
  go_upto_region 1 with fail
  refine Code.at (fun W hW => ?_)
  have n0 : New w W := by subst hW; (repeat (first | (with_reducible exact New.refl _) | (with_reducible assumption) | ((with_reducible refine New.setB ?_ ?_ _); focus (first | omega | (simp; omega) | (simp; done))) | (with_reducible refine New.alloc ?_ _) | (with_reducible refine New.drew ?_) | (with_reducible refine New.drewN ?_ _) | (with_reducible refine New.hat ?_ _) | ((with_reducible apply New.snart); (with_reducible assumption))))
  have HG : Hid (OnAt C G n W w.heap.size) := Lib.hid (by subst hW; exact ⟨by go_simp, by go_simp, by go_simp, by go_simp, by go_simp, by go_simp, by go_simp, by go_simp, by go_simp, by go_simp, by go_simp, by go_simp⟩)
  have HS : Hid (SdAt s W (w.heap.size + 1)) := Lib.hid (by subst hW; exact ⟨by go_simp, by go_simp, by go_simp⟩)
  have HZ : Hid (Res3 W (w.heap.size + 1 + 1)) := Lib.hid (by subst hW; exact ⟨by go_simp, by go_simp, by go_simp, by go_simp, by go_simp, by go_simp⟩)
  clear hW
  cases hx : (bits BinOp.and IntKind.i64 d 1 == bits BinOp.and IntKind.i64 d2 1)
  rotate_left
  · have HRR : Hid (r = none) := Lib.hid (by
      rw [HR.out]
      refine diaS_ax (fun q => ?_)
      have := bits_ax q.1 q.2.1
      rw [hx, q.2.2] at this
      cases this)
    obtain ⟨z0, z1, z2, f0, f1, f2⟩ := HZ.out
    clear K1 HG HS HR
    go_wp2_with fail
    ((generalize hW5 : World.setCell _ _ _ = W5); (have n5 : New w W5 := (by subst hW5; (repeat (first | (with_reducible exact New.refl _) | (with_reducible assumption) | ((with_reducible refine New.setB ?_ ?_ _); focus (first | omega | (simp; omega) | (simp; done))) | (with_reducible refine New.alloc ?_ _) | (with_reducible refine New.drew ?_) | (with_reducible refine New.drewN ?_ _) | (with_reducible refine New.hat ?_ _) | ((with_reducible apply New.snart); (with_reducible assumption)))))); (have k0 : W5.cell? ⟨w.heap.size + 1 + 1, 0, none⟩ = some (.int .i64 0) := (by subst hW5; go_simp)); (have k1 : W5.cell? ⟨w.heap.size + 1 + 1, 1, none⟩ = some (.int .i64 0) := (by subst hW5; go_simp)); (have k2 : W5.cell? ⟨w.heap.size + 1 + 1, 2, none⟩ = some (.int .i64 0) := (by subst hW5; go_simp)); clear hW5 z0 z1 z2 f0 f1 f2; refine bodyPost_ret (v := .tuple #[.agg #[.int .i64 0, .int .i64 0, .int .i64 0], .bool false]) (by simp [results, Tryd.results29, go_sem, *]) rfl ?_)
    rw [HRR.out]
    exact ⟨rfl, n5⟩
  have HR2 : Hid (r = match rndS C G s d d2, rndS C G s d2 d with
    | some t, some u => if t = u then some t else none
    | _, _ => none) := Lib.hid (by
      rw [HR.out]
      refine diaS_rnd (fun q1 q2 => ?_)
      have := bits_ax q1 q2
      rw [hx] at this
      exact this.symm)
  have K11 := Lib.hid (fun W q B0 B1 h1 h2 => K1.out W q d d2 B0 B1 h1 h2)
  have K12 := Lib.hid (fun W q B0 B1 h1 h2 => K1.out W q d2 d B0 B1 h1 h2)
  clear K1 HR
  generalize rndS C G s d d2 = o1 at *
  generalize rndS C G s d2 d = o2 at *
  go_wp2_with fail
  refine (K11.out _ n0 _ _ HG.out HS.out).mono ?_
  rintro e w1 ⟨rfl, n1⟩
  have N1 := Lib.hid (n0.trans n1)
  replace HG := Lib.hid (HG.out.new n1)
  replace HS := Lib.hid (HS.out.new n1)
  replace HZ := Lib.hid (HZ.out.new n1)
  clear n0 n1 K11
  go_wp2_with fail
  refine Calls.at (fun W2 hW => ?_)
  have n2 : New w1 W2 := by subst hW; (repeat (first | (with_reducible exact New.refl _) | (with_reducible assumption) | ((with_reducible refine New.setB ?_ ?_ _); focus (first | omega | (simp; omega) | (simp; done))) | (with_reducible refine New.alloc ?_ _) | (with_reducible refine New.drew ?_) | (with_reducible refine New.drewN ?_ _) | (with_reducible refine New.hat ?_ _) | ((with_reducible apply New.snart); (with_reducible assumption))))
  have HT : Hid (SdAt (sdO o1) W2 w1.heap.size) := Lib.hid (by subst hW; exact ⟨by go_simp, by go_simp, by go_simp⟩)
  clear hW
  have N2 := Lib.hid (N1.out.trans n2)
  refine (K12.out _ N2.out _ _ (HG.out.new n2) (HS.out.new n2)).mono ?_
  rintro e w3 ⟨rfl, n3⟩
  replace HZ := Lib.hid (HZ.out.new (n2.trans n3))
  replace HT := Lib.hid (HT.out.new n3)
  have N3 := Lib.hid (N2.out.trans n3)
  clear n2 n3 K12 HG HS N1 N2
  go_upto_region 6 with fail
  refine Code.at (fun W4 hW => ?_)
  have n4 : New w3 W4 := by subst hW; (repeat (first | (with_reducible exact New.refl _) | (with_reducible assumption) | ((with_reducible refine New.setB ?_ ?_ _); focus (first | omega | (simp; omega) | (simp; done))) | (with_reducible refine New.alloc ?_ _) | (with_reducible refine New.drew ?_) | (with_reducible refine New.drewN ?_ _) | (with_reducible refine New.hat ?_ _) | ((with_reducible apply New.snart); (with_reducible assumption))))
  have HU : Hid (SdAt (sdO o2) W4 w3.heap.size) := Lib.hid (by subst hW; exact ⟨by go_simp, by go_simp, by go_simp⟩)
  clear hW
  obtain ⟨z0, z1, z2, f0, f1, f2⟩ := HZ.out.new n4
  obtain ⟨t0, t1, t2⟩ := HT.out.new n4
  obtain ⟨u0, u1, u2⟩ := HU.out
  have n3 := N3.out.trans n4
  clear n4 HZ HT HU N3
  rcases o1 with _ | t
  · have HRR : Hid (r = none) := Lib.hid (by rw [HR2.out])
    simp only [Option.isSome_none]
    clear HR2
    go_wp2_with fail
    ((generalize hW5 : World.setCell _ _ _ = W5); (have n5 : New w W5 := (by subst hW5; (repeat (first | (with_reducible exact New.refl _) | (with_reducible assumption) | ((with_reducible refine New.setB ?_ ?_ _); focus (first | omega | (simp; omega) | (simp; done))) | (with_reducible refine New.alloc ?_ _) | (with_reducible refine New.drew ?_) | (with_reducible refine New.drewN ?_ _) | (with_reducible refine New.hat ?_ _) | ((with_reducible apply New.snart); (with_reducible assumption)))))); (have k0 : W5.cell? ⟨w.heap.size + 1 + 1, 0, none⟩ = some (.int .i64 0) := (by subst hW5; go_simp)); (have k1 : W5.cell? ⟨w.heap.size + 1 + 1, 1, none⟩ = some (.int .i64 0) := (by subst hW5; go_simp)); (have k2 : W5.cell? ⟨w.heap.size + 1 + 1, 2, none⟩ = some (.int .i64 0) := (by subst hW5; go_simp)); clear hW5 z0 z1 z2 f0 f1 f2; refine bodyPost_ret (v := .tuple #[.agg #[.int .i64 0, .int .i64 0, .int .i64 0], .bool false]) (by simp [results, Tryd.results29, go_sem, *]) rfl ?_)
    rw [HRR.out]
    exact ⟨rfl, n5⟩
  rcases o2 with _ | u
  · have HRR : Hid (r = none) := Lib.hid (by rw [HR2.out])
    simp only [Option.isSome_none, Option.isSome_some]
    clear HR2
    go_wp2_with fail
    ((generalize hW5 : World.setCell _ _ _ = W5); (have n5 : New w W5 := (by subst hW5; (repeat (first | (with_reducible exact New.refl _) | (with_reducible assumption) | ((with_reducible refine New.setB ?_ ?_ _); focus (first | omega | (simp; omega) | (simp; done))) | (with_reducible refine New.alloc ?_ _) | (with_reducible refine New.drew ?_) | (with_reducible refine New.drewN ?_ _) | (with_reducible refine New.hat ?_ _) | ((with_reducible apply New.snart); (with_reducible assumption)))))); (have k0 : W5.cell? ⟨w.heap.size + 1 + 1, 0, none⟩ = some (.int .i64 0) := (by subst hW5; go_simp)); (have k1 : W5.cell? ⟨w.heap.size + 1 + 1, 1, none⟩ = some (.int .i64 0) := (by subst hW5; go_simp)); (have k2 : W5.cell? ⟨w.heap.size + 1 + 1, 2, none⟩ = some (.int .i64 0) := (by subst hW5; go_simp)); clear hW5 z0 z1 z2 f0 f1 f2; refine bodyPost_ret (v := .tuple #[.agg #[.int .i64 0, .int .i64 0, .int .i64 0], .bool false]) (by simp [results, Tryd.results29, go_sem, *]) rfl ?_)
    rw [HRR.out]
    exact ⟨rfl, n5⟩
  have ht : sdO (some t) = t := rfl
  have hu : sdO (some u) = u := rfl
  rw [ht] at t0 t1 t2
  rw [hu] at u0 u1 u2
  simp only [Option.isSome_some]
  rw [ht, hu]
  clear ht hu
  cases e1 : (t.x == u.x)
  · have HRR : Hid (r = none) := Lib.hid (by
      rw [HR2.out]
      simp only
      rw [if_neg (fun q => by rw [q] at e1; simp at e1)])
    clear HR2
    go_wp2_with fail
    ((generalize hW5 : World.setCell _ _ _ = W5); (have n5 : New w W5 := (by subst hW5; (repeat (first | (with_reducible exact New.refl _) | (with_reducible assumption) | ((with_reducible refine New.setB ?_ ?_ _); focus (first | omega | (simp; omega) | (simp; done))) | (with_reducible refine New.alloc ?_ _) | (with_reducible refine New.drew ?_) | (with_reducible refine New.drewN ?_ _) | (with_reducible refine New.hat ?_ _) | ((with_reducible apply New.snart); (with_reducible assumption)))))); (have k0 : W5.cell? ⟨w.heap.size + 1 + 1, 0, none⟩ = some (.int .i64 0) := (by subst hW5; go_simp)); (have k1 : W5.cell? ⟨w.heap.size + 1 + 1, 1, none⟩ = some (.int .i64 0) := (by subst hW5; go_simp)); (have k2 : W5.cell? ⟨w.heap.size + 1 + 1, 2, none⟩ = some (.int .i64 0) := (by subst hW5; go_simp)); clear hW5 z0 z1 z2 f0 f1 f2; refine bodyPost_ret (v := .tuple #[.agg #[.int .i64 0, .int .i64 0, .int .i64 0], .bool false]) (by simp [results, Tryd.results29, go_sem, *]) rfl ?_)
    rw [HRR.out]
    exact ⟨rfl, n5⟩
  cases e2 : (t.z == u.z)
  · have HRR : Hid (r = none) := Lib.hid (by
      rw [HR2.out]
      simp only
      rw [if_neg (fun q => by rw [q] at e2; simp at e2)])
    clear HR2
    go_wp2_with fail
    ((generalize hW5 : World.setCell _ _ _ = W5); (have n5 : New w W5 := (by subst hW5; (repeat (first | (with_reducible exact New.refl _) | (with_reducible assumption) | ((with_reducible refine New.setB ?_ ?_ _); focus (first | omega | (simp; omega) | (simp; done))) | (with_reducible refine New.alloc ?_ _) | (with_reducible refine New.drew ?_) | (with_reducible refine New.drewN ?_ _) | (with_reducible refine New.hat ?_ _) | ((with_reducible apply New.snart); (with_reducible assumption)))))); (have k0 : W5.cell? ⟨w.heap.size + 1 + 1, 0, none⟩ = some (.int .i64 0) := (by subst hW5; go_simp)); (have k1 : W5.cell? ⟨w.heap.size + 1 + 1, 1, none⟩ = some (.int .i64 0) := (by subst hW5; go_simp)); (have k2 : W5.cell? ⟨w.heap.size + 1 + 1, 2, none⟩ = some (.int .i64 0) := (by subst hW5; go_simp)); clear hW5 z0 z1 z2 f0 f1 f2; refine bodyPost_ret (v := .tuple #[.agg #[.int .i64 0, .int .i64 0, .int .i64 0], .bool false]) (by simp [results, Tryd.results29, go_sem, *]) rfl ?_)
    rw [HRR.out]
    exact ⟨rfl, n5⟩
  cases e3 : (t.k == u.k)
  · have HRR : Hid (r = none) := Lib.hid (by
      rw [HR2.out]
      simp only
      rw [if_neg (fun q => by rw [q] at e3; simp at e3)])
    clear HR2
    go_wp2_with fail
    ((generalize hW5 : World.setCell _ _ _ = W5); (have n5 : New w W5 := (by subst hW5; (repeat (first | (with_reducible exact New.refl _) | (with_reducible assumption) | ((with_reducible refine New.setB ?_ ?_ _); focus (first | omega | (simp; omega) | (simp; done))) | (with_reducible refine New.alloc ?_ _) | (with_reducible refine New.drew ?_) | (with_reducible refine New.drewN ?_ _) | (with_reducible refine New.hat ?_ _) | ((with_reducible apply New.snart); (with_reducible assumption)))))); (have k0 : W5.cell? ⟨w.heap.size + 1 + 1, 0, none⟩ = some (.int .i64 0) := (by subst hW5; go_simp)); (have k1 : W5.cell? ⟨w.heap.size + 1 + 1, 1, none⟩ = some (.int .i64 0) := (by subst hW5; go_simp)); (have k2 : W5.cell? ⟨w.heap.size + 1 + 1, 2, none⟩ = some (.int .i64 0) := (by subst hW5; go_simp)); clear hW5 z0 z1 z2 f0 f1 f2; refine bodyPost_ret (v := .tuple #[.agg #[.int .i64 0, .int .i64 0, .int .i64 0], .bool false]) (by simp [results, Tryd.results29, go_sem, *]) rfl ?_)
    rw [HRR.out]
    exact ⟨rfl, n5⟩
  · have HRR : Hid (r = some t) := Lib.hid (by
      rw [HR2.out]
      simp only
      rw [if_pos ((Sd.eqB_iff t u).1 (by unfold Sd.eqB; rw [e1, e2, e3]; rfl))])
    clear HR2
    go_wp2_with fail
    ((generalize hW5 : World.setCell _ _ _ = W5); (have n5 : New w W5 := (by subst hW5; (repeat (first | (with_reducible exact New.refl _) | (with_reducible assumption) | ((with_reducible refine New.setB ?_ ?_ _); focus (first | omega | (simp; omega) | (simp; done))) | (with_reducible refine New.alloc ?_ _) | (with_reducible refine New.drew ?_) | (with_reducible refine New.drewN ?_ _) | (with_reducible refine New.hat ?_ _) | ((with_reducible apply New.snart); (with_reducible assumption)))))); (have k0 : W5.cell? ⟨w.heap.size + 1 + 1, 0, none⟩ = some (.int .i64 t.x) := (by subst hW5; go_simp)); (have k1 : W5.cell? ⟨w.heap.size + 1 + 1, 1, none⟩ = some (.int .i64 t.z) := (by subst hW5; go_simp)); (have k2 : W5.cell? ⟨w.heap.size + 1 + 1, 2, none⟩ = some (.int .i64 t.k) := (by subst hW5; go_simp)); clear hW5 z0 z1 z2 f0 f1 f2; refine bodyPost_ret (v := .tuple #[.agg #[.int .i64 t.x, .int .i64 t.z, .int .i64 t.k], .bool true]) (by simp [results, Tryd.results29, go_sem, *]) rfl ?_)
    rw [HRR.out]
    exact ⟨rfl, n5⟩

end Go.Proofs.YtljcebahjfifhaaDoor

/- Package links: groundOf. -/
namespace Go.Proofs.YtljcebahjfifhaaDoor
open Go.RowKit
set_option linter.unusedVariables false

theorem lkE_two (C : CfgR) (G : Gd) : lkE C G = 0 ∨ lkE C G ≠ 0 := by omega
theorem gr_ok {C : CfgR} {G : Gd} {w : World} (h : G.ok w) : (grG C G).ok w := by
  unfold grG
  split
  · exact h
  · exact Gd.zero_ok w
/-- What groundOf tells. -/
def grV (C : CfgR) (G : Gd) : Value := .tuple #[.agg #[.int .i64 (grC C G).cl, .int .i64 (grC C G).cb, .int .i64 (grC C G).ht, .int .i64 (grC C G).ri, .int .i64 (grC C G).ru, .int .i64 (grC C G).wd, .int .i64 (grC C G).dp, .int .i64 (grG C G).x, .int .i64 (grG C G).z, .int .i64 (grG C G).w, .int .i64 (grG C G).d, .slice (grG C G).ga (grG C G).L.length (grG C G).gc], .int .i64 (lkE C G)]
theorem grV_bad {C : CfgR} {G : Gd} (h : lkE C G ≠ 0) : grV C G = .tuple #[.agg #[.int .i64 0, .int .i64 0, .int .i64 0, .int .i64 0, .int .i64 0, .int .i64 0, .int .i64 0, .int .i64 0, .int .i64 0, .int .i64 0, .int .i64 0, .slice none 0 0], .int .i64 (lkE C G)] := by
  unfold grV grC grG
  rw [if_neg h, if_neg h]
  rfl
theorem grV_fine {C : CfgR} {G : Gd} (h : lkE C G = 0) : grV C G = .tuple #[.agg #[.int .i64 C.cl, .int .i64 C.cb, .int .i64 C.ht, .int .i64 C.ri, .int .i64 C.ru, .int .i64 C.wd, .int .i64 C.dp, .int .i64 G.x, .int .i64 G.z, .int .i64 G.w, .int .i64 G.d, .slice G.ga G.L.length G.gc], .int .i64 0] := by
  unfold grV grC grG
  rw [if_pos h, if_pos h, h]

set_option maxHeartbeats 8000000 in
set_option maxRecDepth 100000 in
theorem lk_groundOf (C : CfgR) (G : Gd) (w : World) (h : G.ok w) : Calls Tryd.prog 25 #[.agg #[.int .i64 C.cl, .int .i64 C.cb, .int .i64 C.ht, .int .i64 C.ri, .int .i64 C.ru, .int .i64 C.wd, .int .i64 C.dp], .agg #[.int .i64 G.x, .int .i64 G.z, .int .i64 G.w, .int .i64 G.d, .slice G.ga G.L.length G.gc]] w fun e w' => e = .returned (grV C G) ∧ New w w' := by
  have KC : Hid (∀ W, Calls Tryd.prog 32 #[.agg #[.int .i64 C.cl, .int .i64 C.cb, .int .i64 C.ht, .int .i64 C.ri, .int .i64 C.ru, .int .i64 C.wd, .int .i64 C.dp]] W fun e w' => e = .returned (.int .i64 C.err) ∧ New W w') := Lib.hid (fun W => (check_any C.cl C.cb C.ht C.ri C.ru C.wd C.dp W).mono fun e w' h => ⟨h.1, h.2.1⟩)
  have KG := Lib.hid (fun W n => og_check G W (h.keep (n : New w W)))
  have h1 := err_or C
  have h2 := gE_two G
  have HB := Lib.hid (fun q => grV_bad (C := C) (G := G) q)
  have HF := Lib.hid (fun q => grV_fine (C := C) (G := G) q)
  have HL : Hid (lkE C G = if C.err = 0 then gE G else 20) := Lib.hid rfl
  obtain ⟨r, hr⟩ : ∃ r, r = grV C G := ⟨_, rfl⟩
  rw [← hr] at HB HF ⊢
  obtain ⟨n, hn⟩ : ∃ n, n = G.L.length := ⟨_, rfl⟩
  rw [← hn] at KG HF ⊢
  clear hr hn h
  generalize lkE C G = le at *
  generalize C.err = ce at *
  generalize gE G = ge at *
  have one : ∀ v : Value, (∃ a : Int, v = .int .i64 a) ∨ (∃ a b c, v = .slice a b c) → v.oneCell' = true := fun v hv => by
    rcases hv with ⟨a, rfl⟩ | ⟨a, b, c, rfl⟩ <;> rfl
  have HO := Lib.hid one
  clear one
  go_enter Tryd.func25, Tryd.ntmps25
  go_wp2_with fail
  refine Calls.at (fun W hW => ?_)
  have n0 : New w W := by subst hW; (repeat (first | (with_reducible exact New.refl _) | (with_reducible assumption) | ((with_reducible refine New.setB ?_ ?_ _); focus (first | omega | (simp; omega) | (simp; done))) | (with_reducible refine New.alloc ?_ _) | (with_reducible refine New.drew ?_) | (with_reducible refine New.drewN ?_ _) | (with_reducible refine New.hat ?_ _) | ((with_reducible apply New.snart); (with_reducible assumption))))
  ((have c0 : W.cell? ⟨w.heap.size, 0, none⟩ = some (.int .i64 C.cl) := (by subst hW; go_simp)); (have c1 : W.cell? ⟨w.heap.size, 1, none⟩ = some (.int .i64 C.cb) := (by subst hW; go_simp)); (have c2 : W.cell? ⟨w.heap.size, 2, none⟩ = some (.int .i64 C.ht) := (by subst hW; go_simp)); (have c3 : W.cell? ⟨w.heap.size, 3, none⟩ = some (.int .i64 C.ri) := (by subst hW; go_simp)); (have c4 : W.cell? ⟨w.heap.size, 4, none⟩ = some (.int .i64 C.ru) := (by subst hW; go_simp)); (have c5 : W.cell? ⟨w.heap.size, 5, none⟩ = some (.int .i64 C.wd) := (by subst hW; go_simp)); (have c6 : W.cell? ⟨w.heap.size, 6, none⟩ = some (.int .i64 C.dp) := (by subst hW; go_simp)))
  have g0 : W.cell? ⟨w.heap.size + 1, 0, none⟩ = some (.int .i64 G.x) := by subst hW; go_simp
  have g1 : W.cell? ⟨w.heap.size + 1, 1, none⟩ = some (.int .i64 G.z) := by subst hW; go_simp
  have g2 : W.cell? ⟨w.heap.size + 1, 2, none⟩ = some (.int .i64 G.w) := by subst hW; go_simp
  have g3 : W.cell? ⟨w.heap.size + 1, 3, none⟩ = some (.int .i64 G.d) := by subst hW; go_simp
  have g4 : W.cell? ⟨w.heap.size + 1, 4, none⟩ = some (.slice G.ga n G.gc) := by subst hW; go_simp
  have HT : Hid (Thr W (w.heap.size + 1 + 1) 12) := Lib.hid (by
    subst hW
    exact Thr.new _ _ _ _ (by simp))
  clear hW
  refine (KC.out _).mono ?_
  rintro e w1 ⟨rfl, n1⟩
  ((replace c0 := New.keep n1 c0); (replace c1 := New.keep n1 c1); (replace c2 := New.keep n1 c2); (replace c3 := New.keep n1 c3); (replace c4 := New.keep n1 c4); (replace c5 := New.keep n1 c5); (replace c6 := New.keep n1 c6))
  replace g0 := n1.keep g0
  replace g1 := n1.keep g1
  replace g2 := n1.keep g2
  replace g3 := n1.keep g3
  replace g4 := n1.keep g4
  replace HT := Lib.hid (HT.out.keep n1)
  have N1 := Lib.hid (n0.trans n1)
  clear n0 n1 KC
  rcases h1 with rfl | rfl
  rotate_left
  · have hle : le = 20 := HL.out
    subst hle
    have HRR := Lib.hid (HB.out (by decide))
    have hth := HT.out
    clear HB HF KG c0 c1 c2 c3 c4 c5 c6 g0 g1 g2 g3 g4
    go_wp2_with (refine wpList_store_blk rfl 52 _ _ rfl _ _ rfl rfl hth (by kernel_rfl) (by intro u hu; simp at hu; rcases hu with rfl | rfl <;> rfl) (fun Z nZ kZ cZ => ?_))
    ((have k0 := cZ 0 (by show 0 < 12; omega)); (have k1 := cZ 1 (by show 1 < 12; omega)); (have k2 := cZ 2 (by show 2 < 12; omega)); (have k3 := cZ 3 (by show 3 < 12; omega)); (have k4 := cZ 4 (by show 4 < 12; omega)); (have k5 := cZ 5 (by show 5 < 12; omega)); (have k6 := cZ 6 (by show 6 < 12; omega)); (have k7 := cZ 7 (by show 7 < 12; omega)); (have k8 := cZ 8 (by show 8 < 12; omega)); (have k9 := cZ 9 (by show 9 < 12; omega)); (have k10 := cZ 10 (by show 10 < 12; omega)); (have k11 := cZ 11 (by show 11 < 12; omega)); simp only [Nat.zero_add] at k0 k1 k2 k3 k4 k5 k6 k7 k8 k9 k10 k11)
    have hn := nZ w N1.out (by show w.heap.size ≤ _; omega)
    clear nZ kZ cZ
    refine bodyPost_ret (v := .tuple #[.agg #[.int .i64 0, .int .i64 0, .int .i64 0, .int .i64 0, .int .i64 0, .int .i64 0, .int .i64 0, .int .i64 0, .int .i64 0, .int .i64 0, .int .i64 0, .slice none 0 0], .int .i64 20]) (by simp [results, Tryd.results25, go_sem, *]) rfl ?_
    exact ⟨by rw [HRR.out], hn⟩
  have hle : le = ge := HL.out
  subst hle
  go_wp2_with fail
  refine (KG.out _ N1.out).mono ?_
  rintro e w2 ⟨rfl, n2⟩
  ((replace c0 := New.keep n2 c0); (replace c1 := New.keep n2 c1); (replace c2 := New.keep n2 c2); (replace c3 := New.keep n2 c3); (replace c4 := New.keep n2 c4); (replace c5 := New.keep n2 c5); (replace c6 := New.keep n2 c6))
  replace g0 := n2.keep g0
  replace g1 := n2.keep g1
  replace g2 := n2.keep g2
  replace g3 := n2.keep g3
  replace g4 := n2.keep g4
  have hth := HT.out.keep n2
  have N2 := Lib.hid (N1.out.trans n2)
  clear n2 KG N1
  rcases h2 with rfl | rfl
  rotate_left
  · have HRR := Lib.hid (HB.out (by decide))
    clear HB HF c0 c1 c2 c3 c4 c5 c6 g0 g1 g2 g3 g4
    go_wp2_with (refine wpList_store_blk rfl 52 _ _ rfl _ _ rfl rfl hth (by kernel_rfl) (by intro u hu; simp at hu; rcases hu with rfl | rfl <;> rfl) (fun Z nZ kZ cZ => ?_))
    ((have k0 := cZ 0 (by show 0 < 12; omega)); (have k1 := cZ 1 (by show 1 < 12; omega)); (have k2 := cZ 2 (by show 2 < 12; omega)); (have k3 := cZ 3 (by show 3 < 12; omega)); (have k4 := cZ 4 (by show 4 < 12; omega)); (have k5 := cZ 5 (by show 5 < 12; omega)); (have k6 := cZ 6 (by show 6 < 12; omega)); (have k7 := cZ 7 (by show 7 < 12; omega)); (have k8 := cZ 8 (by show 8 < 12; omega)); (have k9 := cZ 9 (by show 9 < 12; omega)); (have k10 := cZ 10 (by show 10 < 12; omega)); (have k11 := cZ 11 (by show 11 < 12; omega)); simp only [Nat.zero_add] at k0 k1 k2 k3 k4 k5 k6 k7 k8 k9 k10 k11)
    have hn := nZ w N2.out (by show w.heap.size ≤ _; omega)
    clear nZ kZ cZ
    refine bodyPost_ret (v := .tuple #[.agg #[.int .i64 0, .int .i64 0, .int .i64 0, .int .i64 0, .int .i64 0, .int .i64 0, .int .i64 0, .int .i64 0, .int .i64 0, .int .i64 0, .int .i64 0, .slice none 0 0], .int .i64 2]) (by simp [results, Tryd.results25, go_sem, *]) rfl ?_
    exact ⟨by rw [HRR.out], hn⟩
  · have HRR := Lib.hid (HF.out rfl)
    clear HB HF
    go_wp2_with (refine wpList_store_blk rfl 52 _ _ rfl _ _ rfl rfl hth (by kernel_rfl) (by intro u hu; simp at hu; rcases hu with rfl | rfl | rfl | rfl | rfl | rfl | rfl | rfl | rfl | rfl | rfl | rfl <;> rfl) (fun Z nZ kZ cZ => ?_))
    ((have k0 := cZ 0 (by show 0 < 12; omega)); (have k1 := cZ 1 (by show 1 < 12; omega)); (have k2 := cZ 2 (by show 2 < 12; omega)); (have k3 := cZ 3 (by show 3 < 12; omega)); (have k4 := cZ 4 (by show 4 < 12; omega)); (have k5 := cZ 5 (by show 5 < 12; omega)); (have k6 := cZ 6 (by show 6 < 12; omega)); (have k7 := cZ 7 (by show 7 < 12; omega)); (have k8 := cZ 8 (by show 8 < 12; omega)); (have k9 := cZ 9 (by show 9 < 12; omega)); (have k10 := cZ 10 (by show 10 < 12; omega)); (have k11 := cZ 11 (by show 11 < 12; omega)); simp only [Nat.zero_add] at k0 k1 k2 k3 k4 k5 k6 k7 k8 k9 k10 k11)
    have hn := nZ w N2.out (by show w.heap.size ≤ _; omega)
    clear nZ kZ cZ hth
    refine bodyPost_ret (v := .tuple #[.agg #[.int .i64 C.cl, .int .i64 C.cb, .int .i64 C.ht, .int .i64 C.ri, .int .i64 C.ru, .int .i64 C.wd, .int .i64 C.dp, .int .i64 G.x, .int .i64 G.z, .int .i64 G.w, .int .i64 G.d, .slice G.ga n G.gc], .int .i64 0]) (by simp [results, Tryd.results25, go_sem, *]) rfl ?_
    exact ⟨by rw [HRR.out], hn⟩

end Go.Proofs.YtljcebahjfifhaaDoor

/- Package links: To, Diagonal. -/
namespace Go.Proofs.YtljcebahjfifhaaDoor
open Go.RowKit
set_option linter.unusedVariables false

/-- Where a floor of any grid leads. -/
def toT (C : CfgR) (G : Gd) (s : Sd) (d : Int) : Option Sd := toS (grC C G) (grG C G) s d
def diT (C : CfgR) (G : Gd) (s : Sd) (d e : Int) : Option Sd := diaS (grC C G) (grG C G) s d e
theorem toT_fine {C : CfgR} {G : Gd} (h : lkE C G = 0) (s : Sd) (d : Int) : toT C G s d = toS C G s d := by unfold toT grC grG; rw [if_pos h, if_pos h]
theorem toT_bad {C : CfgR} {G : Gd} (h : lkE C G ≠ 0) (s : Sd) (d : Int) : toT C G s d = none := by unfold toT grC grG; rw [if_neg h, if_neg h, toS_zero]
theorem diT_fine {C : CfgR} {G : Gd} (h : lkE C G = 0) (s : Sd) (d e : Int) : diT C G s d e = diaS C G s d e := by unfold diT grC grG; rw [if_pos h, if_pos h]
theorem diT_bad {C : CfgR} {G : Gd} (h : lkE C G ≠ 0) (s : Sd) (d e : Int) : diT C G s d e = none := by unfold diT grC grG; rw [if_neg h, if_neg h, diaS_zero]

set_option maxHeartbeats 8000000 in
set_option maxRecDepth 100000 in
theorem lk_To (C : CfgR) (G : Gd) (x z k d : Int) (w : World) (h : G.ok w) (hD : Dirs w) : Calls Tryd.prog 9 #[.agg #[.int .i64 C.cl, .int .i64 C.cb, .int .i64 C.ht, .int .i64 C.ri, .int .i64 C.ru, .int .i64 C.wd, .int .i64 C.dp], .agg #[.int .i64 G.x, .int .i64 G.z, .int .i64 G.w, .int .i64 G.d, .slice G.ga G.L.length G.gc], .int .i64 x, .int .i64 z, .int .i64 k, .int .i64 d] w fun e w' => e = .returned (.tuple #[.int .i64 (sdO (toT C G ⟨x, z, k⟩ d)).k, .bool (toT C G ⟨x, z, k⟩ d).isSome]) ∧ New w w' := by
  have KG := Lib.hid (fun W (q : New w W) => lk_groundOf C G W (h.keep q))
  have KT := Lib.hid (fun W (q : New w W) => lk_to (grC C G) (grG C G) (grG_E C G) ⟨x, z, k⟩ d w W q (gr_ok h) (hD.new q))
  unfold grV at KG
  obtain ⟨r, hr⟩ : ∃ r, r = toT C G ⟨x, z, k⟩ d := ⟨_, rfl⟩
  have hr2 := hr
  unfold toT at hr2
  rw [← hr]
  rw [← hr2] at KT
  clear hr hr2 h hD
  obtain ⟨n, hn⟩ : ∃ n, n = G.L.length := ⟨_, rfl⟩
  obtain ⟨n2, hn2⟩ : ∃ n, n = (grG C G).L.length := ⟨_, rfl⟩
  rw [← hn, ← hn2] at KG
  rw [← hn2] at KT
  rw [← hn]
  clear hn hn2
  generalize lkE C G = le at *
  generalize grC C G = C2 at *
  generalize grG C G = G2 at *
  generalize sdO r = v at *
  generalize r.isSome = b at *
  go_enter Tryd.func9, Tryd.ntmps9
  go_wp2_with fail
  refine (KG.out _ (by (repeat (first | (with_reducible exact New.refl _) | (with_reducible assumption) | ((with_reducible refine New.setB ?_ ?_ _); focus (first | omega | (simp; omega) | (simp; done))) | (with_reducible refine New.alloc ?_ _) | (with_reducible refine New.drew ?_) | (with_reducible refine New.drewN ?_ _) | (with_reducible refine New.hat ?_ _) | ((with_reducible apply New.snart); (with_reducible assumption)))))).mono ?_
  rintro e w1 ⟨rfl, n1⟩
  have N1 : New w w1 := New.trans (by (repeat (first | (with_reducible exact New.refl _) | (with_reducible assumption) | ((with_reducible refine New.setB ?_ ?_ _); focus (first | omega | (simp; omega) | (simp; done))) | (with_reducible refine New.alloc ?_ _) | (with_reducible refine New.drew ?_) | (with_reducible refine New.drewN ?_ _) | (with_reducible refine New.hat ?_ _) | ((with_reducible apply New.snart); (with_reducible assumption))))) n1
  clear n1 KG
  go_wp2_with fail
  refine Calls.at (fun W2 hW => ?_)
  have N2 : New w W2 := by subst hW; (repeat (first | (with_reducible exact New.refl _) | (with_reducible assumption) | ((with_reducible refine New.setB ?_ ?_ _); focus (first | omega | (simp; omega) | (simp; done))) | (with_reducible refine New.alloc ?_ _) | (with_reducible refine New.drew ?_) | (with_reducible refine New.drewN ?_ _) | (with_reducible refine New.hat ?_ _) | ((with_reducible apply New.snart); (with_reducible assumption))))
  clear hW
  refine (KT.out _ N2).mono ?_
  rintro e w3 ⟨rfl, n3⟩
  have N3 : New w w3 := N2.trans n3
  clear n3 N2 N1 KT
  go_wp2_with fail
  refine bodyPost_ret (v := .tuple #[.int .i64 v.k, .bool b]) (by simp [results, Tryd.results9, go_sem, *]) rfl ?_
  exact ⟨rfl, by (repeat (first | (with_reducible exact New.refl _) | (with_reducible assumption) | ((with_reducible refine New.setB ?_ ?_ _); focus (first | omega | (simp; omega) | (simp; done))) | (with_reducible refine New.alloc ?_ _) | (with_reducible refine New.drew ?_) | (with_reducible refine New.drewN ?_ _) | (with_reducible refine New.hat ?_ _) | ((with_reducible apply New.snart); (with_reducible assumption))))⟩

set_option maxHeartbeats 8000000 in
set_option maxRecDepth 100000 in
theorem lk_Diagonal (C : CfgR) (G : Gd) (x z k d d2 : Int) (w : World) (h : G.ok w) (hD : Dirs w) : Calls Tryd.prog 11 #[.agg #[.int .i64 C.cl, .int .i64 C.cb, .int .i64 C.ht, .int .i64 C.ri, .int .i64 C.ru, .int .i64 C.wd, .int .i64 C.dp], .agg #[.int .i64 G.x, .int .i64 G.z, .int .i64 G.w, .int .i64 G.d, .slice G.ga G.L.length G.gc], .int .i64 x, .int .i64 z, .int .i64 k, .int .i64 d, .int .i64 d2] w fun e w' => e = .returned (.tuple #[.int .i64 (sdO (diT C G ⟨x, z, k⟩ d d2)).k, .bool (diT C G ⟨x, z, k⟩ d d2).isSome]) ∧ New w w' := by
  have KG := Lib.hid (fun W (q : New w W) => lk_groundOf C G W (h.keep q))
  have KT := Lib.hid (fun W (q : New w W) => lk_diagonal (grC C G) (grG C G) (grG_E C G) ⟨x, z, k⟩ d d2 w W q (gr_ok h) (hD.new q))
  unfold grV at KG
  obtain ⟨r, hr⟩ : ∃ r, r = diT C G ⟨x, z, k⟩ d d2 := ⟨_, rfl⟩
  have hr2 := hr
  unfold diT at hr2
  rw [← hr]
  rw [← hr2] at KT
  clear hr hr2 h hD
  obtain ⟨n, hn⟩ : ∃ n, n = G.L.length := ⟨_, rfl⟩
  obtain ⟨n2, hn2⟩ : ∃ n, n = (grG C G).L.length := ⟨_, rfl⟩
  rw [← hn, ← hn2] at KG
  rw [← hn2] at KT
  rw [← hn]
  clear hn hn2
  generalize lkE C G = le at *
  generalize grC C G = C2 at *
  generalize grG C G = G2 at *
  generalize sdO r = v at *
  generalize r.isSome = b at *
  go_enter Tryd.func11, Tryd.ntmps11
  go_wp2_with fail
  refine (KG.out _ (by (repeat (first | (with_reducible exact New.refl _) | (with_reducible assumption) | ((with_reducible refine New.setB ?_ ?_ _); focus (first | omega | (simp; omega) | (simp; done))) | (with_reducible refine New.alloc ?_ _) | (with_reducible refine New.drew ?_) | (with_reducible refine New.drewN ?_ _) | (with_reducible refine New.hat ?_ _) | ((with_reducible apply New.snart); (with_reducible assumption)))))).mono ?_
  rintro e w1 ⟨rfl, n1⟩
  have N1 : New w w1 := New.trans (by (repeat (first | (with_reducible exact New.refl _) | (with_reducible assumption) | ((with_reducible refine New.setB ?_ ?_ _); focus (first | omega | (simp; omega) | (simp; done))) | (with_reducible refine New.alloc ?_ _) | (with_reducible refine New.drew ?_) | (with_reducible refine New.drewN ?_ _) | (with_reducible refine New.hat ?_ _) | ((with_reducible apply New.snart); (with_reducible assumption))))) n1
  clear n1 KG
  go_wp2_with fail
  refine Calls.at (fun W2 hW => ?_)
  have N2 : New w W2 := by subst hW; (repeat (first | (with_reducible exact New.refl _) | (with_reducible assumption) | ((with_reducible refine New.setB ?_ ?_ _); focus (first | omega | (simp; omega) | (simp; done))) | (with_reducible refine New.alloc ?_ _) | (with_reducible refine New.drew ?_) | (with_reducible refine New.drewN ?_ _) | (with_reducible refine New.hat ?_ _) | ((with_reducible apply New.snart); (with_reducible assumption))))
  clear hW
  refine (KT.out _ N2).mono ?_
  rintro e w3 ⟨rfl, n3⟩
  have N3 : New w w3 := N2.trans n3
  clear n3 N2 N1 KT
  go_wp2_with fail
  refine bodyPost_ret (v := .tuple #[.int .i64 v.k, .bool b]) (by simp [results, Tryd.results11, go_sem, *]) rfl ?_
  exact ⟨rfl, by (repeat (first | (with_reducible exact New.refl _) | (with_reducible assumption) | ((with_reducible refine New.setB ?_ ?_ _); focus (first | omega | (simp; omega) | (simp; done))) | (with_reducible refine New.alloc ?_ _) | (with_reducible refine New.drew ?_) | (with_reducible refine New.drewN ?_ _) | (with_reducible refine New.hat ?_ _) | ((with_reducible apply New.snart); (with_reducible assumption))))⟩

end Go.Proofs.YtljcebahjfifhaaDoor

/- Package links: Eight. -/
namespace Go.Proofs.YtljcebahjfifhaaDoor
open Go.RowKit
set_option linter.unusedVariables false

def eiT (C : CfgR) (G : Gd) (s : Sd) : Int := cntE (grC C G) (grG C G) s 4
theorem eiT_fine {C : CfgR} {G : Gd} (h : lkE C G = 0) (s : Sd) : eiT C G s = cntE C G s 4 := by unfold eiT grC grG; rw [if_pos h, if_pos h]
theorem eiT_bad {C : CfgR} {G : Gd} (h : lkE C G ≠ 0) (s : Sd) : eiT C G s = 0 := by unfold eiT grC grG; rw [if_neg h, if_neg h, cntE_zero]
theorem next_of {i : Nat} (h : i < 4) : nextD (i : Int) = (((i + 1) % 4 : Nat) : Int) := by
  rcases (show i = 0 ∨ i = 1 ∨ i = 2 ∨ i = 3 by omega) with rfl | rfl | rfl | rfl <;> rfl

set_option maxHeartbeats 8000000 in
set_option maxRecDepth 100000 in
theorem lk_Eight (C : CfgR) (G : Gd) (x z k : Int) (w : World) (h : G.ok w) (hD : Dirs w) : Calls Tryd.prog 13 #[.agg #[.int .i64 C.cl, .int .i64 C.cb, .int .i64 C.ht, .int .i64 C.ri, .int .i64 C.ru, .int .i64 C.wd, .int .i64 C.dp], .agg #[.int .i64 G.x, .int .i64 G.z, .int .i64 G.w, .int .i64 G.d, .slice G.ga G.L.length G.gc], .int .i64 x, .int .i64 z, .int .i64 k] w fun e w' => e = .returned (.tuple #[.int .i64 (eiT C G ⟨x, z, k⟩), .bool (eiT C G ⟨x, z, k⟩ == 8)]) ∧ New w w' := by
  have KG := Lib.hid (fun W (q : New w W) => lk_groundOf C G W (h.keep q))
  have KT := Lib.hid (fun d W (q : New w W) => lk_to (grC C G) (grG C G) (grG_E C G) ⟨x, z, k⟩ d w W q (gr_ok h) (hD.new q))
  have KD := Lib.hid (fun d d2 W (q : New w W) => lk_diagonal (grC C G) (grG C G) (grG_E C G) ⟨x, z, k⟩ d d2 w W q (gr_ok h) (hD.new q))
  unfold grV at KG
  unfold eiT
  clear h hD
  obtain ⟨n, hn⟩ : ∃ n, n = G.L.length := ⟨_, rfl⟩
  obtain ⟨n2, hn2⟩ : ∃ n, n = (grG C G).L.length := ⟨_, rfl⟩
  rw [← hn, ← hn2] at KG
  rw [← hn2] at KT KD
  rw [← hn]
  clear hn hn2
  generalize lkE C G = le at *
  generalize grC C G = C2 at *
  generalize grG C G = G2 at *
  have HC := Lib.hid (fun n => cntE_small C2 G2 ⟨x, z, k⟩ n)
  have HS : Hid (∀ n, cntE C2 G2 ⟨x, z, k⟩ (n + 1) = cntE C2 G2 ⟨x, z, k⟩ n + nB (toS C2 G2 ⟨x, z, k⟩ n).isSome + nB (diaS C2 G2 ⟨x, z, k⟩ n (nextD n)).isSome) := Lib.hid (fun n => rfl)
  have H0 : Hid (cntE C2 G2 ⟨x, z, k⟩ 0 = 0) := Lib.hid rfl
  generalize cntE C2 G2 ⟨x, z, k⟩ = cn at *
  generalize toS C2 G2 ⟨x, z, k⟩ = tn at *
  generalize diaS C2 G2 ⟨x, z, k⟩ = dn at *
  go_enter Tryd.func13, Tryd.ntmps13
  go_wp2_with fail
  refine (KG.out _ (by (repeat (first | (with_reducible exact New.refl _) | (with_reducible assumption) | ((with_reducible refine New.setB ?_ ?_ _); focus (first | omega | (simp; omega) | (simp; done))) | (with_reducible refine New.alloc ?_ _) | (with_reducible refine New.drew ?_) | (with_reducible refine New.drewN ?_ _) | (with_reducible refine New.hat ?_ _) | ((with_reducible apply New.snart); (with_reducible assumption)))))).mono ?_
  rintro e w1 ⟨rfl, n1⟩
  have N1 : New w w1 := New.trans (by (repeat (first | (with_reducible exact New.refl _) | (with_reducible assumption) | ((with_reducible refine New.setB ?_ ?_ _); focus (first | omega | (simp; omega) | (simp; done))) | (with_reducible refine New.alloc ?_ _) | (with_reducible refine New.drew ?_) | (with_reducible refine New.drewN ?_ _) | (with_reducible refine New.hat ?_ _) | ((with_reducible apply New.snart); (with_reducible assumption))))) n1
  clear n1 KG
  go_upto_region 3 with fail
  refine Code.at (fun W2 hW => ?_)
  have N2 : Hid (New w W2) := Lib.hid (by subst hW; (repeat (first | (with_reducible exact New.refl _) | (with_reducible assumption) | ((with_reducible refine New.setB ?_ ?_ _); focus (first | omega | (simp; omega) | (simp; done))) | (with_reducible refine New.alloc ?_ _) | (with_reducible refine New.drew ?_) | (with_reducible refine New.drewN ?_ _) | (with_reducible refine New.hat ?_ _) | ((with_reducible apply New.snart); (with_reducible assumption)))))
  have HG : Hid (OnAt C2 G2 n2 W2 w1.heap.size) := Lib.hid (by subst hW; exact ⟨by go_simp, by go_simp, by go_simp, by go_simp, by go_simp, by go_simp, by go_simp, by go_simp, by go_simp, by go_simp, by go_simp, by go_simp⟩)
  have HP : Hid (SdAt ⟨x, z, k⟩ W2 (w1.heap.size + 1)) := Lib.hid (by subst hW; exact ⟨by go_simp, by go_simp, by go_simp⟩)
  clear hW N1
  go_wp2_with fail
  go_loopg [10, 30] 4 (fun gk s10 s30 wr => ∃ i : Nat, s30 = .int .i64 i ∧ s10 = .int .i64 (cn i) ∧ i ≤ 4 ∧ 4 - i ≤ gk ∧ Hid (New W2 wr))
  case atStart => exact ⟨0, rfl, by rw [H0.out], by omega, by omega, Lib.hid (New.refl _)⟩
  case round =>
    obtain ⟨i, rfl, rfl, hi, hgk, hnr⟩ := hrel
    by_cases hlt : i < 4
    · have hs := HS.out i
      obtain ⟨c1, c2⟩ := HC.out i
      have hb1 := nB_small (tn i).isSome
      have hw1 : IntKind.i64.wrap ((i : Int) + 1) = i + 1 := IntWalk.i64_in _ (by omega)
      have hw2 : IntKind.i64.wrap (cn i + 1) = cn i + 1 := IntWalk.i64_in _ (by omega)
      have hw3 : IntKind.i64.wrap (cn i + 1 + 1) = cn i + 1 + 1 := IntWalk.i64_in _ (by omega)
      have KTi := Lib.hid (KT.out i)
      have KDi := Lib.hid (KD.out i (nextD i))
      obtain ⟨o1, ho1⟩ : ∃ o, o = tn i := ⟨_, rfl⟩
      obtain ⟨o2, ho2⟩ : ∃ o, o = dn i (nextD i) := ⟨_, rfl⟩
      rw [← ho1] at KTi hs
      rw [← ho2] at KDi hs
      have HS1 := Lib.hid hs
      clear ho1 ho2 hs hb1
      obtain ⟨c0, c1, c2, c3, c4, c5, c6, g0, g1, g2, g3, g4⟩ := HG.out.new hnr.out
      obtain ⟨p0, p1, p2⟩ := HP.out.new hnr.out
      go_wp2_with fail
      refine (KTi.out _ (N2.out.trans hnr.out)).mono ?_
      rintro e w4 ⟨rfl, n4⟩
      clear c0 c1 c2 c3 c4 c5 c6 g0 g1 g2 g3 g4
      clear p0 p1 p2
      have HG4 := Lib.hid (HG.out.new (hnr.out.trans n4))
      have HP4 := Lib.hid (HP.out.new (hnr.out.trans n4))
      have N4 := Lib.hid (hnr.out.trans n4)
      clear n4 KTi
      have hrem : (Int.tmod ((i : Int) + 1) 4) = nextD i := rfl
      generalize nextD i = ne at *
      cases f1 : o1.isSome
      · rw [f1] at HS1
        go_upto_region 9 with fail
        refine Code.at (fun W5 hW => ?_)
        have n5 : New w4 W5 := by subst hW; (repeat (first | (with_reducible exact New.refl _) | (with_reducible assumption) | ((with_reducible refine New.setB ?_ ?_ _); focus (first | omega | (simp; omega) | (simp; done))) | (with_reducible refine New.alloc ?_ _) | (with_reducible refine New.drew ?_) | (with_reducible refine New.drewN ?_ _) | (with_reducible refine New.hat ?_ _) | ((with_reducible apply New.snart); (with_reducible assumption))))
        clear hW
        obtain ⟨c0, c1, c2, c3, c4, c5, c6, g0, g1, g2, g3, g4⟩ := HG4.out.new n5
        obtain ⟨p0, p1, p2⟩ := HP4.out.new n5
        have N5 := Lib.hid (N4.out.trans n5)
        clear n5
        go_wp2_with fail
        refine (KDi.out _ (N2.out.trans N5.out)).mono ?_
        rintro e w6 ⟨rfl, n6⟩
        clear c0 c1 c2 c3 c4 c5 c6 g0 g1 g2 g3 g4
        clear p0 p1 p2 KDi
        have N6 := N5.out.trans n6
        clear n6
        cases f2 : o2.isSome
        · rw [f2] at HS1
          have hnx : cn (i + 1) = cn i := by rw [HS1.out]; unfold nB; simp
          go_wp2_with fail
          go_roundg (4 - (i + 1))
          case measure => omega
          case rel => exact ⟨i + 1, by go_num, by rw [hnx], by omega, by omega, Lib.hid (by (repeat (first | (with_reducible exact New.refl _) | (with_reducible assumption) | ((with_reducible refine New.setB ?_ ?_ _); focus (first | omega | (simp; omega) | (simp; done))) | (with_reducible refine New.alloc ?_ _) | (with_reducible refine New.drew ?_) | (with_reducible refine New.drewN ?_ _) | (with_reducible refine New.hat ?_ _) | ((with_reducible apply New.snart); (with_reducible assumption)))))⟩
        · rw [f2] at HS1
          have hnx : cn (i + 1) = cn i + 1 := by rw [HS1.out]; unfold nB; simp
          go_wp2_with fail
          go_roundg (4 - (i + 1))
          case measure => omega
          case rel => exact ⟨i + 1, by go_num, by rw [hnx], by omega, by omega, Lib.hid (by (repeat (first | (with_reducible exact New.refl _) | (with_reducible assumption) | ((with_reducible refine New.setB ?_ ?_ _); focus (first | omega | (simp; omega) | (simp; done))) | (with_reducible refine New.alloc ?_ _) | (with_reducible refine New.drew ?_) | (with_reducible refine New.drewN ?_ _) | (with_reducible refine New.hat ?_ _) | ((with_reducible apply New.snart); (with_reducible assumption)))))⟩
      · rw [f1] at HS1
        go_upto_region 9 with fail
        refine Code.at (fun W5 hW => ?_)
        have n5 : New w4 W5 := by subst hW; (repeat (first | (with_reducible exact New.refl _) | (with_reducible assumption) | ((with_reducible refine New.setB ?_ ?_ _); focus (first | omega | (simp; omega) | (simp; done))) | (with_reducible refine New.alloc ?_ _) | (with_reducible refine New.drew ?_) | (with_reducible refine New.drewN ?_ _) | (with_reducible refine New.hat ?_ _) | ((with_reducible apply New.snart); (with_reducible assumption))))
        clear hW
        obtain ⟨c0, c1, c2, c3, c4, c5, c6, g0, g1, g2, g3, g4⟩ := HG4.out.new n5
        obtain ⟨p0, p1, p2⟩ := HP4.out.new n5
        have N5 := Lib.hid (N4.out.trans n5)
        clear n5
        go_wp2_with fail
        refine (KDi.out _ (N2.out.trans N5.out)).mono ?_
        rintro e w6 ⟨rfl, n6⟩
        clear c0 c1 c2 c3 c4 c5 c6 g0 g1 g2 g3 g4
        clear p0 p1 p2 KDi
        have N6 := N5.out.trans n6
        clear n6
        cases f2 : o2.isSome
        · rw [f2] at HS1
          have hnx : cn (i + 1) = cn i + 1 := by rw [HS1.out]; unfold nB; simp
          go_wp2_with fail
          go_roundg (4 - (i + 1))
          case measure => omega
          case rel => exact ⟨i + 1, by go_num, by rw [hnx], by omega, by omega, Lib.hid (by (repeat (first | (with_reducible exact New.refl _) | (with_reducible assumption) | ((with_reducible refine New.setB ?_ ?_ _); focus (first | omega | (simp; omega) | (simp; done))) | (with_reducible refine New.alloc ?_ _) | (with_reducible refine New.drew ?_) | (with_reducible refine New.drewN ?_ _) | (with_reducible refine New.hat ?_ _) | ((with_reducible apply New.snart); (with_reducible assumption)))))⟩
        · rw [f2] at HS1
          have hnx : cn (i + 1) = cn i + 1 + 1 := by rw [HS1.out]; unfold nB; simp
          go_wp2_with fail
          go_roundg (4 - (i + 1))
          case measure => omega
          case rel => exact ⟨i + 1, by go_num, by rw [hnx], by omega, by omega, Lib.hid (by (repeat (first | (with_reducible exact New.refl _) | (with_reducible assumption) | ((with_reducible refine New.setB ?_ ?_ _); focus (first | omega | (simp; omega) | (simp; done))) | (with_reducible refine New.alloc ?_ _) | (with_reducible refine New.drew ?_) | (with_reducible refine New.drewN ?_ _) | (with_reducible refine New.hat ?_ _) | ((with_reducible apply New.snart); (with_reducible assumption)))))⟩
    · obtain rfl : i = 4 := by omega
      obtain ⟨c, hc⟩ : ∃ c, c = cn 4 := ⟨_, rfl⟩
      have HCC := Lib.hid hc
      rw [show (((4 : Nat) : Int)) = 4 from rfl]
      rw [← hc]
      clear hc
      have nn := N2.out.trans hnr.out
      go_wp2_with fail
      refine bodyPost_ret (v := .tuple #[.int .i64 c, .bool (c == 8)]) (by simp [results, Tryd.results13, go_sem, *]) rfl ?_
      rw [← HCC.out]
      exact ⟨rfl, nn⟩

end Go.Proofs.YtljcebahjfifhaaDoor
