import Derived.Test.YtgoggogcbjfofaaDoorLkEY14
import Derived.Deep.LoopGhost

/- Package links: a column of the ground, a floor. -/
namespace Go.Proofs.YtgoggogcbjfofaaDoor
open Go.RowKit
set_option linter.unusedVariables false

set_option maxHeartbeats 4000000 in
set_option maxRecDepth 100000 in
theorem lk_column (C : CfgR) (G : Gd) (hE : gE G = 0) (x z : Int) (w0 w : World) (hn0 : New w0 w) (h : G.ok w0) : Calls Tryd.prog 62 #[.agg #[.int .i64 C.cl, .int .i64 C.cb, .int .i64 C.ht, .int .i64 C.ri, .int .i64 C.ru, .int .i64 C.wd, .int .i64 C.dp, .int .i64 G.x, .int .i64 G.z, .int .i64 G.w, .int .i64 G.d, .slice G.ga G.L.length G.gc], .int .i64 x, .int .i64 z] w fun e w' => ∃ v, e = .returned v ∧ Sl Fl.enc 3 w0 v (atG G x z) ∧ New w w' := by
  have KW := Lib.hid (fun n lo hi W => lk_within n lo hi W)
  have HH : Hid (RowsK Fl.enc 3 w0 (.slice G.ga G.L.length G.gc) G.L) := Lib.hid h
  have hb := placeB_iff.1 (gd_is hE).1
  have K1 := fun W => KW.out x G.x (G.x + G.w - 1) W
  have K2 := fun W => KW.out z G.z (G.z + G.d - 1) W
  have hxa : IntKind.i64.wrap (G.x + G.w) = G.x + G.w := IntWalk.i64_in _ (by omega)
  have hxb : IntKind.i64.wrap (G.x + G.w - 1) = G.x + G.w - 1 := IntWalk.i64_in _ (by omega)
  have hza : IntKind.i64.wrap (G.z + G.d) = G.z + G.d := IntWalk.i64_in _ (by omega)
  have hzb : IntKind.i64.wrap (G.z + G.d - 1) = G.z + G.d - 1 := IntWalk.i64_in _ (by omega)
  have hin : inG G x z = (wiB x G.x (G.x + G.w - 1) && wiB z G.z (G.z + G.d - 1)) := rfl
  have HI := Lib.hid (fun q => (ixG_is hE (x := x) (z := z) q : _))
  have HQ := Lib.hid (fun q => (inG_iff (G := G) (x := x) (z := z)).1 q)
  have HB := Lib.hid hb
  obtain ⟨n, hn⟩ : ∃ n, n = G.L.length := ⟨_, rfl⟩
  rw [← hn] at HH ⊢
  have HN := Lib.hid hn
  obtain ⟨ga, hga⟩ : ∃ q, q = G.ga := ⟨_, rfl⟩
  rw [← hga] at HH ⊢
  clear hn h KW hb hga
  cases h1 : wiB x G.x (G.x + G.w - 1)
  · have HO : Hid (atG G x z = []) := Lib.hid (atG_out (by rw [hin, h1]; rfl))
    rw [h1] at K1
    clear hin h1
    go_enter Tryd.func62, Tryd.ntmps62
    go_wp2_with fail
    refine (K1 _).mono ?_
    rintro e w2 ⟨rfl, rfl⟩
    go_wp2_with fail
    go_ret
    exact ⟨_, rfl, by rw [HO.out]; exact Sl.nil, by (repeat (first | (with_reducible exact New.refl _) | (with_reducible assumption) | ((with_reducible refine New.setB ?_ ?_ _); focus (first | omega | (simp; omega) | (simp; done))) | (with_reducible refine New.alloc ?_ _) | (with_reducible refine New.drew ?_) | (with_reducible refine New.drewN ?_ _) | (with_reducible refine New.hat ?_ _) | ((with_reducible apply New.snart); (with_reducible assumption))))⟩
  cases h2 : wiB z G.z (G.z + G.d - 1)
  · have HO : Hid (atG G x z = []) := Lib.hid (atG_out (by rw [hin, h1, h2]; rfl))
    rw [h1] at K1
    rw [h2] at K2
    clear hin h1 h2
    go_enter Tryd.func62, Tryd.ntmps62
    go_wp2_with fail
    refine (K1 _).mono ?_
    rintro e w2 ⟨rfl, rfl⟩
    go_wp2_with fail
    refine (K2 _).mono ?_
    rintro e w2 ⟨rfl, rfl⟩
    go_wp2_with fail
    go_ret
    exact ⟨_, rfl, by rw [HO.out]; exact Sl.nil, by (repeat (first | (with_reducible exact New.refl _) | (with_reducible assumption) | ((with_reducible refine New.setB ?_ ?_ _); focus (first | omega | (simp; omega) | (simp; done))) | (with_reducible refine New.alloc ?_ _) | (with_reducible refine New.drew ?_) | (with_reducible refine New.drewN ?_ _) | (with_reducible refine New.hat ?_ _) | ((with_reducible apply New.snart); (with_reducible assumption))))⟩
  have hq : inG G x z = true := by rw [hin, h1, h2]; rfl
  have HO := Lib.hid (atG_in hE hq)
  rw [h1] at K1
  rw [h2] at K2
  clear hin h1 h2
  obtain ⟨i1, i2, i3, i4⟩ := HI.out hq
  have hr := HQ.out hq
  have hb := HB.out
  have hs1 : IntKind.i64.wrap (z - G.z) = z - G.z := IntWalk.i64_in _ (by omega)
  have hs2 : IntKind.i64.wrap ((z - G.z) * G.w) = (z - G.z) * G.w := IntWalk.i64_in _ (by omega)
  have hs3 : IntKind.i64.wrap ((z - G.z) * G.w + x) = (z - G.z) * G.w + x := IntWalk.i64_in _ (by omega)
  have hs4 : IntKind.i64.wrap ((z - G.z) * G.w + x - G.x) = (ixG G x z : Int) := by rw [IntWalk.i64_in _ (by omega)]; omega
  obtain ⟨b, off, a, c, rfl, hc, hs⟩ := HH.out.at (ixG G x z) i4
  have hkn : ixG G x z < n := by rw [HN.out]; exact i4
  have hO := HO.out
  obtain ⟨l, hl⟩ : ∃ l, l = G.L[ixG G x z] := ⟨_, rfl⟩
  rw [← hl] at hc hs hO
  have HS := Lib.hid hs
  replace hc := hn0.keep hc
  have hbz : b < w.heap.size := World.block_lt_of_cell? _ _ hc
  have HO2 := Lib.hid hO
  obtain ⟨m, hm⟩ : ∃ m, m = l.length := ⟨_, rfl⟩
  rw [← hm] at hc HS
  clear hl hs hO HO HI HQ HB i1 i2 i3 i4 hr hb hq HH hm
  generalize ixG G x z = k at *
  go_enter Tryd.func62, Tryd.ntmps62
  go_wp2_with fail
  refine (K1 _).mono ?_
  rintro e w2 ⟨rfl, rfl⟩
  go_wp2_with fail
  refine (K2 _).mono ?_
  rintro e w2 ⟨rfl, rfl⟩
  go_wp2_with fail
  go_ret
  exact ⟨_, rfl, by rw [HO2.out]; exact HS.out, by (repeat (first | (with_reducible exact New.refl _) | (with_reducible assumption) | ((with_reducible refine New.setB ?_ ?_ _); focus (first | omega | (simp; omega) | (simp; done))) | (with_reducible refine New.alloc ?_ _) | (with_reducible refine New.drew ?_) | (with_reducible refine New.drewN ?_ _) | (with_reducible refine New.hat ?_ _) | ((with_reducible apply New.snart); (with_reducible assumption))))⟩


def flO (o : Option Fl) : Fl := o.getD Fl.zero
theorem at_len {G : Gd} (hE : gE G = 0) (x z : Int) : (atG G x z).length ≤ 8 := atG_len hE x z

set_option maxHeartbeats 4000000 in
set_option maxRecDepth 100000 in
theorem lk_floor (C : CfgR) (G : Gd) (hE : gE G = 0) (s : Sd) (w0 w : World) (hn0 : New w0 w) (h : G.ok w0) : Calls Tryd.prog 60 #[.agg #[.int .i64 C.cl, .int .i64 C.cb, .int .i64 C.ht, .int .i64 C.ri, .int .i64 C.ru, .int .i64 C.wd, .int .i64 C.dp, .int .i64 G.x, .int .i64 G.z, .int .i64 G.w, .int .i64 G.d, .slice G.ga G.L.length G.gc], .agg #[.int .i64 s.x, .int .i64 s.z, .int .i64 s.k]] w fun e w' => e = .returned (.tuple #[.agg #[.int .i64 (flO (flG G s)).y, .int .i64 (flO (flG G s)).top, .int .i64 (flO (flG G s)).area], .bool (flG G s).isSome]) ∧ New w w' := by
  have KC := Lib.hid (fun W (q : New w W) => lk_column C G hE s.x s.z w0 W (hn0.trans q) h)
  have KW := Lib.hid (fun n hi (W : World) => lk_within n 0 hi W)
  have hl8 := at_len hE s.x s.z
  obtain ⟨o, ho⟩ : ∃ o, o = flG G s := ⟨_, rfl⟩
  have HN := Lib.hid (fun q => flG_none (G := G) (s := s) q)
  have HS := Lib.hid (fun (k : Nat) (e : s.k = k) q => flG_some (G := G) e q)
  rw [← ho] at HN HS ⊢
  clear ho
  obtain ⟨n, hn⟩ : ∃ n, n = G.L.length := ⟨_, rfl⟩
  rw [← hn] at KC ⊢
  clear hn h
  generalize atG G s.x s.z = l at *
  obtain ⟨m, hm⟩ : ∃ m, m = l.length := ⟨_, rfl⟩
  have HM := Lib.hid hm
  rw [← hm] at hl8
  have hw1 : IntKind.i64.wrap ((m : Int) - 1) = m - 1 := IntWalk.i64_in _ (by omega)
  have KW1 := Lib.hid (fun W => KW.out s.k (m - 1) W)
  clear hm
  go_enter Tryd.func60, Tryd.ntmps60
  go_wp2_with fail
  refine Calls.at (fun W hW => ?_)
  have n0 : New w W := by subst hW; (repeat (first | (with_reducible exact New.refl _) | (with_reducible assumption) | ((with_reducible refine New.setB ?_ ?_ _); focus (first | omega | (simp; omega) | (simp; done))) | (with_reducible refine New.alloc ?_ _) | (with_reducible refine New.drew ?_) | (with_reducible refine New.drewN ?_ _) | (with_reducible refine New.hat ?_ _) | ((with_reducible apply New.snart); (with_reducible assumption))))
  have s0 : W.cell? ⟨w.heap.size + 1, 0, none⟩ = some (.int .i64 s.x) := by subst hW; go_simp
  have s1 : W.cell? ⟨w.heap.size + 1, 1, none⟩ = some (.int .i64 s.z) := by subst hW; go_simp
  have s2 : W.cell? ⟨w.heap.size + 1, 2, none⟩ = some (.int .i64 s.k) := by subst hW; go_simp
  have z0 : W.cell? ⟨w.heap.size + 1 + 1, 0, none⟩ = some (.int .i64 0) := by subst hW; go_simp
  have z1 : W.cell? ⟨w.heap.size + 1 + 1, 1, none⟩ = some (.int .i64 0) := by subst hW; go_simp
  have z2 : W.cell? ⟨w.heap.size + 1 + 1, 2, none⟩ = some (.int .i64 0) := by subst hW; go_simp
  have f0 : W.frozen? ⟨w.heap.size + 1 + 1, 0, none⟩ = false := by subst hW; go_simp
  have f1 : W.frozen? ⟨w.heap.size + 1 + 1, 1, none⟩ = false := by subst hW; go_simp
  have f2 : W.frozen? ⟨w.heap.size + 1 + 1, 2, none⟩ = false := by subst hW; go_simp
  clear hW
  refine (KC.out _ n0).mono ?_
  rintro e w1 ⟨v, rfl, hs, n1⟩
  replace s0 := n1.keep s0
  replace s1 := n1.keep s1
  replace s2 := n1.keep s2
  replace f0 := n1.keepF z0 f0
  replace f1 := n1.keepF z1 f1
  replace f2 := n1.keepF z2 f2
  replace z0 := n1.keep z0
  replace z1 := n1.keep z1
  replace z2 := n1.keep z2
  have N1 := n0.trans n1
  obtain ⟨a, c, rfl, -, -, -, hr⟩ := hs
  have HRW := Lib.hid hr
  clear hr n0 n1 KC
  rw [← HM.out]
  go_wp2_with fail
  refine (KW1.out _).mono ?_
  rintro e w2 ⟨rfl, rfl⟩
  cases hk : wiB s.k 0 (m - 1)
  · have hb := wiB_not.1 hk
    have HO := Lib.hid (HN.out (by rw [← HM.out]; omega))
    clear hk hb HN HS
    go_wp2_with fail
    generalize hW5 : World.setCell _ _ _ = W5
    have n5 : New w W5 := by subst hW5; (repeat (first | (with_reducible exact New.refl _) | (with_reducible assumption) | ((with_reducible refine New.setB ?_ ?_ _); focus (first | omega | (simp; omega) | (simp; done))) | (with_reducible refine New.alloc ?_ _) | (with_reducible refine New.drew ?_) | (with_reducible refine New.drewN ?_ _) | (with_reducible refine New.hat ?_ _) | ((with_reducible apply New.snart); (with_reducible assumption))))
    have k0 : W5.cell? ⟨w.heap.size + 1 + 1, 0, none⟩ = some (.int .i64 0) := by subst hW5; go_simp
    have k1 : W5.cell? ⟨w.heap.size + 1 + 1, 1, none⟩ = some (.int .i64 0) := by subst hW5; go_simp
    have k2 : W5.cell? ⟨w.heap.size + 1 + 1, 2, none⟩ = some (.int .i64 0) := by subst hW5; go_simp
    clear hW5 z0 z1 z2 f0 f1 f2
    refine bodyPost_ret (v := .tuple #[.agg #[.int .i64 0, .int .i64 0, .int .i64 0], .bool false]) (by simp [results, Tryd.results60, go_sem, *]) rfl ?_
    rw [HO.out]
    exact ⟨rfl, n5⟩
  · have hb := wiB_iff.1 hk
    obtain ⟨k, hkk⟩ : ∃ k : Nat, s.k = k := ⟨s.k.toNat, by omega⟩
    have hkm : k < m := by omega
    have hkl : k < l.length := by rw [← HM.out]; exact hkm
    have HO := Lib.hid (HS.out k hkk hkl)
    obtain ⟨b, off, rfl, hA⟩ := HRW.out (by omega)
    obtain ⟨c0, c1, c2⟩ := Fl.cells (hA.keep (hn0.trans N1)) k hkl
    obtain ⟨f, hf⟩ : ∃ f, f = l[k] := ⟨_, rfl⟩
    rw [← hf] at c0 c1 c2
    have HF : Hid (o = some f) := Lib.hid (by rw [HO.out, hf])
    rw [hkk] at s2
    clear hk hb HN HS HO hA hf HRW
    go_wp2_with fail
    generalize hW5 : World.setCell _ _ _ = W5
    have n5 : New w W5 := by subst hW5; (repeat (first | (with_reducible exact New.refl _) | (with_reducible assumption) | ((with_reducible refine New.setB ?_ ?_ _); focus (first | omega | (simp; omega) | (simp; done))) | (with_reducible refine New.alloc ?_ _) | (with_reducible refine New.drew ?_) | (with_reducible refine New.drewN ?_ _) | (with_reducible refine New.hat ?_ _) | ((with_reducible apply New.snart); (with_reducible assumption))))
    have k0 : W5.cell? ⟨w.heap.size + 1 + 1, 0, none⟩ = some (.int .i64 f.y) := by subst hW5; go_simp
    have k1 : W5.cell? ⟨w.heap.size + 1 + 1, 1, none⟩ = some (.int .i64 f.top) := by subst hW5; go_simp
    have k2 : W5.cell? ⟨w.heap.size + 1 + 1, 2, none⟩ = some (.int .i64 f.area) := by subst hW5; go_simp
    clear hW5 z0 z1 z2 f0 f1 f2
    refine bodyPost_ret (v := .tuple #[.agg #[.int .i64 f.y, .int .i64 f.top, .int .i64 f.area], .bool true]) (by simp [results, Tryd.results60, go_sem, *]) rfl ?_
    rw [HF.out]
    exact ⟨rfl, n5⟩

end Go.Proofs.YtgoggogcbjfofaaDoor

/- Package links: to. -/
namespace Go.Proofs.YtgoggogcbjfofaaDoor
open Go.RowKit
set_option linter.unusedVariables false

/-- A ground, where it lies. -/
structure OnAt (C : CfgR) (G : Gd) (n : Nat) (W : World) (B : Nat) : Prop where
  c0 : W.cell? ⟨B, 0, none⟩ = some (.int .i64 C.cl)
  c1 : W.cell? ⟨B, 1, none⟩ = some (.int .i64 C.cb)
  c2 : W.cell? ⟨B, 2, none⟩ = some (.int .i64 C.ht)
  c3 : W.cell? ⟨B, 3, none⟩ = some (.int .i64 C.ri)
  c4 : W.cell? ⟨B, 4, none⟩ = some (.int .i64 C.ru)
  c5 : W.cell? ⟨B, 5, none⟩ = some (.int .i64 C.wd)
  c6 : W.cell? ⟨B, 6, none⟩ = some (.int .i64 C.dp)
  g0 : W.cell? ⟨B, 7, none⟩ = some (.int .i64 G.x)
  g1 : W.cell? ⟨B, 8, none⟩ = some (.int .i64 G.z)
  g2 : W.cell? ⟨B, 9, none⟩ = some (.int .i64 G.w)
  g3 : W.cell? ⟨B, 10, none⟩ = some (.int .i64 G.d)
  g4 : W.cell? ⟨B, 11, none⟩ = some (.slice G.ga n G.gc)
theorem OnAt.new {C : CfgR} {G : Gd} {n : Nat} {W W' : World} {B : Nat} (h : OnAt C G n W B) (q : New W W') : OnAt C G n W' B :=
  ⟨q.keep h.c0, q.keep h.c1, q.keep h.c2, q.keep h.c3, q.keep h.c4, q.keep h.c5, q.keep h.c6, q.keep h.g0, q.keep h.g1, q.keep h.g2, q.keep h.g3, q.keep h.g4⟩
/-- Three numbers, where they lie. -/
structure SdAt (s : Sd) (W : World) (B : Nat) : Prop where
  c0 : W.cell? ⟨B, 0, none⟩ = some (.int .i64 s.x)
  c1 : W.cell? ⟨B, 1, none⟩ = some (.int .i64 s.z)
  c2 : W.cell? ⟨B, 2, none⟩ = some (.int .i64 s.k)
theorem SdAt.new {s : Sd} {W W' : World} {B : Nat} (h : SdAt s W B) (q : New W W') : SdAt s W' B := ⟨q.keep h.c0, q.keep h.c1, q.keep h.c2⟩
structure FlAt (s : Fl) (W : World) (B : Nat) : Prop where
  c0 : W.cell? ⟨B, 0, none⟩ = some (.int .i64 s.y)
  c1 : W.cell? ⟨B, 1, none⟩ = some (.int .i64 s.top)
  c2 : W.cell? ⟨B, 2, none⟩ = some (.int .i64 s.area)
theorem FlAt.new {s : Fl} {W W' : World} {B : Nat} (h : FlAt s W B) (q : New W W') : FlAt s W' B := ⟨q.keep h.c0, q.keep h.c1, q.keep h.c2⟩
/-- Three cells of nothing, to be written. -/
structure Res3 (W : World) (B : Nat) : Prop where
  c0 : W.cell? ⟨B, 0, none⟩ = some (.int .i64 0)
  c1 : W.cell? ⟨B, 1, none⟩ = some (.int .i64 0)
  c2 : W.cell? ⟨B, 2, none⟩ = some (.int .i64 0)
  f0 : W.frozen? ⟨B, 0, none⟩ = false
  f1 : W.frozen? ⟨B, 1, none⟩ = false
  f2 : W.frozen? ⟨B, 2, none⟩ = false
theorem Res3.new {W W' : World} {B : Nat} (h : Res3 W B) (q : New W W') : Res3 W' B := ⟨q.keep h.c0, q.keep h.c1, q.keep h.c2, q.keepF h.c0 h.f0, q.keepF h.c1 h.f1, q.keepF h.c2 h.f2⟩

set_option maxHeartbeats 8000000 in
set_option maxRecDepth 100000 in
theorem lk_to (C : CfgR) (G : Gd) (hE : gE G = 0) (s : Sd) (d : Int) (w0 w : World) (hn0 : New w0 w) (h : G.ok w0) (hD : Dirs w) : Calls Tryd.prog 55 #[.agg #[.int .i64 C.cl, .int .i64 C.cb, .int .i64 C.ht, .int .i64 C.ri, .int .i64 C.ru, .int .i64 C.wd, .int .i64 C.dp, .int .i64 G.x, .int .i64 G.z, .int .i64 G.w, .int .i64 G.d, .slice G.ga G.L.length G.gc], .agg #[.int .i64 s.x, .int .i64 s.z, .int .i64 s.k], .int .i64 d] w fun e w' => e = .returned (.tuple #[.agg #[.int .i64 (sdO (toS C G s d)).x, .int .i64 (sdO (toS C G s d)).z, .int .i64 (sdO (toS C G s d)).k], .bool (toS C G s d).isSome]) ∧ New w w' := by
  have KF := Lib.hid (fun W (q : New w W) => lk_floor C G hE s w0 W (hn0.trans q) h)
  have KC := Lib.hid (fun x z W (q : New w W) => lk_column C G hE x z w0 W (hn0.trans q) h)
  have KS := Lib.hid (fun W (q : New w W) => lk_Step d W (hD.new q))
  have KL := Lib.hid (fun a b W => lk_linked C a b W)
  have hl8 := at_len hE (s.x + dxD d) (s.z + dzD d)
  obtain ⟨r, hr⟩ : ∃ r, r = toS C G s d := ⟨_, rfl⟩
  have R1 : Hid (flG G s = none → r = none) := Lib.hid (fun q => by rw [hr, toS_floor q])
  have R2 : Hid (okD d = false → r = none) := Lib.hid (fun q => by rw [hr, toS_dir q])
  obtain ⟨l, hl⟩ : ∃ l, l = atG G (s.x + dxD d) (s.z + dzD d) := ⟨_, rfl⟩
  have R3 : Hid (∀ a, flG G s = some a → okD d = true → ∀ i (hi : i < l.length), lkB C a l[i] = true → (∀ j (hj : j < l.length), j < i → lkB C a l[j] = false) → r = some ⟨s.x + dxD d, s.z + dzD d, i⟩) := Lib.hid (fun a q1 q2 i hi q3 q4 => by rw [hr, toS_hit q1 q2 hl hi q3 q4])
  have R4 : Hid (∀ a, flG G s = some a → okD d = true → (∀ j (hj : j < l.length), lkB C a l[j] = false) → r = none) := Lib.hid (fun a q1 q2 q3 => by rw [hr, toS_miss q1 q2 hl q3])
  have RI : Hid (∀ a, flG G s = some a → -100 ≤ s.x ∧ s.x ≤ 200 ∧ -100 ≤ s.z ∧ s.z ≤ 200) := Lib.hid (fun a q => by
    have h1 := inG_iff.1 (flG_in q)
    have h2 := placeB_iff.1 (gd_is hE).1
    omega)
  rw [← hr]
  rw [← hl] at hl8
  have KC2 := Lib.hid (fun W (q : New w W) => by
    have := KC.out (s.x + dxD d) (s.z + dzD d) W q
    rw [← hl] at this
    exact this)
  have hdx := dxD_small d
  have hdz := dzD_small d
  obtain ⟨n, hn⟩ : ∃ n, n = G.L.length := ⟨_, rfl⟩
  rw [← hn] at KF KC2 ⊢
  clear hr hl hn h hD KC hE
  unfold stV at KS
  obtain ⟨dx, hdx1⟩ : ∃ x, x = dxD d := ⟨_, rfl⟩
  obtain ⟨dz, hdz1⟩ : ∃ x, x = dzD d := ⟨_, rfl⟩
  rw [← hdx1] at KS KC2 R3 hdx
  rw [← hdz1] at KS KC2 R3 hdz
  clear hdx1 hdz1
  generalize flG G s = o at *
  go_enter Tryd.func55, Tryd.ntmps55
  go_wp2_with fail
  refine Calls.at (fun W hW => ?_)
  have n0 : New w W := by subst hW; (repeat (first | (with_reducible exact New.refl _) | (with_reducible assumption) | ((with_reducible refine New.setB ?_ ?_ _); focus (first | omega | (simp; omega) | (simp; done))) | (with_reducible refine New.alloc ?_ _) | (with_reducible refine New.drew ?_) | (with_reducible refine New.drewN ?_ _) | (with_reducible refine New.hat ?_ _) | ((with_reducible apply New.snart); (with_reducible assumption))))
  have HG : Hid (OnAt C G n W w.heap.size) := Lib.hid (by subst hW; exact ⟨by go_simp, by go_simp, by go_simp, by go_simp, by go_simp, by go_simp, by go_simp, by go_simp, by go_simp, by go_simp, by go_simp, by go_simp⟩)
  have HS : Hid (SdAt s W (w.heap.size + 1)) := Lib.hid (by subst hW; exact ⟨by go_simp, by go_simp, by go_simp⟩)
  have HZ : Hid (Res3 W (w.heap.size + 1 + 1)) := Lib.hid (by subst hW; exact ⟨by go_simp, by go_simp, by go_simp, by go_simp, by go_simp, by go_simp⟩)
  clear hW
  refine (KF.out _ n0).mono ?_
  rintro e w1 ⟨rfl, n1⟩
  have N1 := Lib.hid (n0.trans n1)
  replace HG := Lib.hid (HG.out.new n1)
  replace HS := Lib.hid (HS.out.new n1)
  replace HZ := Lib.hid (HZ.out.new n1)
  clear n0 n1 KF
  go_wp2_with fail
  refine Calls.at (fun W2 hW => ?_)
  have n2 : New w1 W2 := by subst hW; (repeat (first | (with_reducible exact New.refl _) | (with_reducible assumption) | ((with_reducible refine New.setB ?_ ?_ _); focus (first | omega | (simp; omega) | (simp; done))) | (with_reducible refine New.alloc ?_ _) | (with_reducible refine New.drew ?_) | (with_reducible refine New.drewN ?_ _) | (with_reducible refine New.hat ?_ _) | ((with_reducible apply New.snart); (with_reducible assumption))))
  have HA : Hid (FlAt (flO o) W2 w1.heap.size) := Lib.hid (by subst hW; exact ⟨by go_simp, by go_simp, by go_simp⟩)
  clear hW
  have N2 := Lib.hid (N1.out.trans n2)
  refine (KS.out _ N2.out).mono ?_
  rintro e w3 ⟨rfl, n3⟩
  have N3 := Lib.hid (N2.out.trans n3)
  replace HG := Lib.hid (HG.out.new (n2.trans n3))
  replace HS := Lib.hid (HS.out.new (n2.trans n3))
  replace HZ := Lib.hid (HZ.out.new (n2.trans n3))
  replace HA := Lib.hid (HA.out.new n3)
  clear n2 n3 KS N1 N2
  rcases o with _ | a
  · have HR := Lib.hid (R1.out rfl)
    obtain ⟨z0, z1, z2, f0, f1, f2⟩ := HZ.out
    have n3 := N3.out
    simp only [Option.isSome_none]
    clear R1 R2 R3 R4 RI
    go_wp2_with fail
    ((generalize hW5 : World.setCell _ _ _ = W5); (have n5 : New w W5 := (by subst hW5; (repeat (first | (with_reducible exact New.refl _) | (with_reducible assumption) | ((with_reducible refine New.setB ?_ ?_ _); focus (first | omega | (simp; omega) | (simp; done))) | (with_reducible refine New.alloc ?_ _) | (with_reducible refine New.drew ?_) | (with_reducible refine New.drewN ?_ _) | (with_reducible refine New.hat ?_ _) | ((with_reducible apply New.snart); (with_reducible assumption)))))); (have k0 : W5.cell? ⟨w.heap.size + 1 + 1, 0, none⟩ = some (.int .i64 0) := (by subst hW5; go_simp)); (have k1 : W5.cell? ⟨w.heap.size + 1 + 1, 1, none⟩ = some (.int .i64 0) := (by subst hW5; go_simp)); (have k2 : W5.cell? ⟨w.heap.size + 1 + 1, 2, none⟩ = some (.int .i64 0) := (by subst hW5; go_simp)); clear hW5 z0 z1 z2 f0 f1 f2; refine bodyPost_ret (v := .tuple #[.agg #[.int .i64 0, .int .i64 0, .int .i64 0], .bool false]) (by simp [results, Tryd.results55, go_sem, *]) rfl ?_)
    rw [HR.out]
    exact ⟨rfl, n5⟩
  simp only [Option.isSome_some]
  obtain ⟨i1, i2, i3, i4⟩ := RI.out a rfl
  replace HA : Hid (FlAt a w3 w1.heap.size) := Lib.hid HA.out
  have R3' := Lib.hid (R3.out a rfl)
  have R4' := Lib.hid (R4.out a rfl)
  clear R1 R3 R4 RI
  have hfl : flO (some a) = a := rfl
  rw [hfl]
  clear hfl
  cases hok : okD d
  · have HR := Lib.hid (R2.out hok)
    obtain ⟨z0, z1, z2, f0, f1, f2⟩ := HZ.out
    have n3 := N3.out
    clear hok R2 R3' R4'
    go_wp2_with fail
    ((generalize hW5 : World.setCell _ _ _ = W5); (have n5 : New w W5 := (by subst hW5; (repeat (first | (with_reducible exact New.refl _) | (with_reducible assumption) | ((with_reducible refine New.setB ?_ ?_ _); focus (first | omega | (simp; omega) | (simp; done))) | (with_reducible refine New.alloc ?_ _) | (with_reducible refine New.drew ?_) | (with_reducible refine New.drewN ?_ _) | (with_reducible refine New.hat ?_ _) | ((with_reducible apply New.snart); (with_reducible assumption)))))); (have k0 : W5.cell? ⟨w.heap.size + 1 + 1, 0, none⟩ = some (.int .i64 0) := (by subst hW5; go_simp)); (have k1 : W5.cell? ⟨w.heap.size + 1 + 1, 1, none⟩ = some (.int .i64 0) := (by subst hW5; go_simp)); (have k2 : W5.cell? ⟨w.heap.size + 1 + 1, 2, none⟩ = some (.int .i64 0) := (by subst hW5; go_simp)); clear hW5 z0 z1 z2 f0 f1 f2; refine bodyPost_ret (v := .tuple #[.agg #[.int .i64 0, .int .i64 0, .int .i64 0], .bool false]) (by simp [results, Tryd.results55, go_sem, *]) rfl ?_)
    rw [HR.out]
    exact ⟨rfl, n5⟩
  have R5 := Lib.hid (R3'.out hok)
  have R6 := Lib.hid (R4'.out hok)
  clear R2 R3' R4' hok
  have hsx : IntKind.i64.wrap (s.x + dx) = s.x + dx := IntWalk.i64_in _ (by omega)
  have hsz : IntKind.i64.wrap (s.z + dz) = s.z + dz := IntWalk.i64_in _ (by omega)
  clear i1 i2 i3 i4 hdx hdz
  obtain ⟨s0, s1, s2⟩ := HS.out
  go_wp2_with fail
  (refine wp_region_hat (by kernel_rfl) (by kernel_rfl) ?_; intro hatc hatf; (repeat (go_big_quiet_step ((fail)))); refine wpQuiet_nil ?_; rintro _ ⟨q, rfl⟩)
  replace HG := Lib.hid (HG.out.new q.h)
  replace HA := Lib.hid (HA.out.new q.h)
  replace HZ := Lib.hid (HZ.out.new q.h)
  replace N3 := Lib.hid (N3.out.trans q.h)
  clear hatc hatf s0 s1 s2 HS
  generalize q.w = w4 at *
  clear q
  obtain ⟨c0, c1, c2, c3, c4, c5, c6, g0, g1, g2, g3, g4⟩ := HG.out
  go_wp2_with fail
  refine (KC2.out _ N3.out).mono ?_
  rintro e w5 ⟨v, rfl, hs, n5⟩
  clear c0 c1 c2 c3 c4 c5 c6 g0 g1 g2 g3 g4
  replace HG := Lib.hid (HG.out.new n5)
  replace HA := Lib.hid (HA.out.new n5)
  replace HZ := Lib.hid (HZ.out.new n5)
  replace N3 := Lib.hid (N3.out.trans n5)
  obtain ⟨ra, rc, rfl, -, -, -, hrow⟩ := hs
  have HRW := Lib.hid hrow
  clear hrow n5 KC2
  obtain ⟨m, hm⟩ : ∃ m, m = l.length := ⟨_, rfl⟩
  have HM := Lib.hid hm
  rw [← hm] at hl8 ⊢
  clear hm
  have hz5 : w.heap.size + 1 + 1 < w5.heap.size := World.block_lt_of_cell? _ _ HZ.out.c0
  go_wp2_with fail
  go_loopg [49] m (fun gk s49 wr => ∃ i : Nat, s49 = .int .i64 i ∧ i ≤ m ∧ m - i ≤ gk ∧ Hid (∀ j (hj : j < l.length), j < i → lkB C a l[j] = false) ∧ Hid (New w5 wr))
  case atStart => exact ⟨0, rfl, by omega, by omega, Lib.hid (fun j _ h => by omega), Lib.hid (New.refl _)⟩
  case round =>
    obtain ⟨i, rfl, hi, hgk, HB, hnr⟩ := hrel
    have HGr := Lib.hid (HG.out.new hnr.out)
    have HAr := Lib.hid (HA.out.new hnr.out)
    have HZr := Lib.hid (HZ.out.new hnr.out)
    by_cases hlt : i < m
    · have hil : i < l.length := by rw [← HM.out]; exact hlt
      obtain ⟨b, off, rfl, hA⟩ := HRW.out (by omega)
      obtain ⟨d0, d1, d2⟩ := Fl.cells (hA.keep (hn0.trans (N3.out.trans hnr.out))) i hil
      have KLi := Lib.hid (KL.out a l[i])
      have R5i := Lib.hid (fun q => R5.out i hil q HB.out)
      obtain ⟨f, hf⟩ : ∃ f, f = l[i] := ⟨_, rfl⟩
      rw [← hf] at d0 d1 d2 KLi R5i
      have HF := Lib.hid hf
      obtain ⟨c0, c1, c2, c3, c4, c5, c6, -, -, -, -, -⟩ := HGr.out
      obtain ⟨a0, a1, a2⟩ := HAr.out
      obtain ⟨lb, hlb⟩ : ∃ q, q = lkB C a f := ⟨_, rfl⟩
      rw [← hlb] at KLi R5i
      have HLB := Lib.hid hlb
      have hz1 := World.block_lt_of_cell? _ _ c0
      have hz2 := World.block_lt_of_cell? _ _ a0
      simp only [] at hz1 hz2
      clear hA hf hlb
      go_wp2_with fail
      refine Calls.at (fun W6 hW => ?_)
      have n6 : New wr W6 := by subst hW; (repeat (first | (with_reducible exact New.refl _) | (with_reducible assumption) | ((with_reducible refine New.setB ?_ ?_ _); focus (first | omega | (simp; omega) | (simp; done))) | (with_reducible refine New.alloc ?_ _) | (with_reducible refine New.drew ?_) | (with_reducible refine New.drewN ?_ _) | (with_reducible refine New.hat ?_ _) | ((with_reducible apply New.snart); (with_reducible assumption))))
      clear hW c0 c1 c2 c3 c4 c5 c6 a0 a1 a2 d0 d1 d2
      refine (KLi.out _).mono ?_
      rintro e w7 ⟨rfl, n7⟩
      have nn := Lib.hid (hnr.out.trans (n6.trans n7))
      obtain ⟨z0, z1, z2, f0, f1, f2⟩ := HZr.out.new (n6.trans n7)
      have NN := Lib.hid (N3.out.trans nn.out)
      clear n6 n7
      cases lb
      · have hnx : Hid (∀ j (hj : j < l.length), j < i + 1 → lkB C a l[j] = false) := Lib.hid (fun j hj h => by
          by_cases e : j < i
          · exact HB.out j hj e
          · obtain rfl : j = i := by omega
            rw [← HF.out]; exact HLB.out.symm)
        clear R5i z0 z1 z2 f0 f1 f2
        go_wp2_with fail
        go_roundg (m - (i + 1))
        case measure => omega
        case rel => exact ⟨i + 1, by go_num, by omega, by omega, hnx, nn⟩
      · have HR := Lib.hid (R5i.out rfl)
        have n3 := NN.out
        clear R5i
        go_wp2_with fail
        ((generalize hW5 : World.setCell _ _ _ = W5); (have n5 : New w W5 := (by subst hW5; (repeat (first | (with_reducible exact New.refl _) | (with_reducible assumption) | ((with_reducible refine New.setB ?_ ?_ _); focus (first | omega | (simp; omega) | (simp; done))) | (with_reducible refine New.alloc ?_ _) | (with_reducible refine New.drew ?_) | (with_reducible refine New.drewN ?_ _) | (with_reducible refine New.hat ?_ _) | ((with_reducible apply New.snart); (with_reducible assumption)))))); (have k0 : W5.cell? ⟨w.heap.size + 1 + 1, 0, none⟩ = some (.int .i64 (s.x + dx)) := (by subst hW5; go_simp)); (have k1 : W5.cell? ⟨w.heap.size + 1 + 1, 1, none⟩ = some (.int .i64 (s.z + dz)) := (by subst hW5; go_simp)); (have k2 : W5.cell? ⟨w.heap.size + 1 + 1, 2, none⟩ = some (.int .i64 (i : Int)) := (by subst hW5; go_simp)); clear hW5 z0 z1 z2 f0 f1 f2; refine bodyPost_ret (v := .tuple #[.agg #[.int .i64 (s.x + dx), .int .i64 (s.z + dz), .int .i64 (i : Int)], .bool true]) (by simp [results, Tryd.results55, go_sem, *]) rfl ?_)
        rw [HR.out]
        exact ⟨rfl, n5⟩
    · obtain rfl : i = m := by omega
      have HR := Lib.hid (R6.out (fun j hj => HB.out j hj (by rw [HM.out]; exact hj)))
      obtain ⟨z0, z1, z2, f0, f1, f2⟩ := HZr.out
      have n3 := N3.out.trans hnr.out
      go_wp2_with fail
      ((generalize hW5 : World.setCell _ _ _ = W5); (have n5 : New w W5 := (by subst hW5; (repeat (first | (with_reducible exact New.refl _) | (with_reducible assumption) | ((with_reducible refine New.setB ?_ ?_ _); focus (first | omega | (simp; omega) | (simp; done))) | (with_reducible refine New.alloc ?_ _) | (with_reducible refine New.drew ?_) | (with_reducible refine New.drewN ?_ _) | (with_reducible refine New.hat ?_ _) | ((with_reducible apply New.snart); (with_reducible assumption)))))); (have k0 : W5.cell? ⟨w.heap.size + 1 + 1, 0, none⟩ = some (.int .i64 0) := (by subst hW5; go_simp)); (have k1 : W5.cell? ⟨w.heap.size + 1 + 1, 1, none⟩ = some (.int .i64 0) := (by subst hW5; go_simp)); (have k2 : W5.cell? ⟨w.heap.size + 1 + 1, 2, none⟩ = some (.int .i64 0) := (by subst hW5; go_simp)); clear hW5 z0 z1 z2 f0 f1 f2; refine bodyPost_ret (v := .tuple #[.agg #[.int .i64 0, .int .i64 0, .int .i64 0], .bool false]) (by simp [results, Tryd.results55, go_sem, *]) rfl ?_)
      rw [HR.out]
      exact ⟨rfl, n5⟩

end Go.Proofs.YtgoggogcbjfofaaDoor
