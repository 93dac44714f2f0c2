import Derived.Test.YtgoggogcbjfofaaDoorFdBY14
import Derived.Test.YtgoggogcbjfofaaDoorLkCY14
import Derived.Deep.DeepCutAuto
import Derived.Test.YtgoggogcbjfofaaDoorStoBY14
import Derived.Test.YtgoggogcbjfofaaDoorSteady
import Derived.Test.YtgoggogcbjfofaaDoorSlAppY14
import Derived.Test.YtgoggogcbjfofaaDoorSoWY14
import Derived.Test.YtgoggogcbjfofaaDoorLooseEY14

/- Package field: to. -/
namespace Go.Proofs.YtgoggogcbjfofaaDoor
open Go.RowKit
set_option linter.unusedVariables false

set_option maxHeartbeats 8000000 in
set_option maxRecDepth 100000 in
theorem fd_to (N : Net) (la : Option Addr) (lc : Nat) (s : Sp) (hs : SpIn N.M s) (d : Int) (hd : okD d = true) (w0 w : World) (hn0 : New w0 w) (h : RowsK Lk.enc 4 w0 (.slice la N.M.length lc) N.M) (hD : Dirs w) : Calls Tryd.prog 63 #[.agg #[.int .i64 ((N.W : Nat) : Int), .slice la N.M.length lc], .agg #[.int .i64 ((s.c : Nat) : Int), .int .i64 ((s.k : Nat) : Int)], .int .i64 d] w fun e w' => e = .returned (.tuple #[.agg #[.int .i64 (((spO (N.go s d)).c : Nat) : Int), .int .i64 (((spO (N.go s d)).k : Nat) : Int)], .bool (N.go s d).isSome]) ∧ New w w' := by
  have KS := Lib.hid (fun W (q : New w W) => lk_Step d W (hD.new q))
  unfold stV at KS
  rw [hd] at KS
  have hs1 : s.c < N.M.length := hs.1
  obtain ⟨b, off, a, c, rfl, hc, hsl⟩ := (h.keep hn0).at s.c hs.1
  obtain ⟨-, -, -, -, hrow⟩ := hsl.row'
  have hcol := colM_at hs.1
  have hk : s.k < N.M[s.c].length := by rw [← hcol]; exact hs.2
  obtain ⟨b2, o2, rfl, hA⟩ := hrow (by omega)
  obtain ⟨e0, e1, e2, e3⟩ := Lk.cells hA s.k hk
  have hx := N.is s hs d hd
  have hat := Lib.hid (fun t q => N.lead s hs d t q)
  have hsm := N.small hs
  have hx2 : N.M[s.c][s.k] = (colM N.M s.c)[s.k]'hs.2 := by simp only [hcol]
  rw [hx2] at e0 e1 e2 e3
  clear hx2 hA hrow
  generalize (colM N.M s.c)[s.k]'hs.2 = x at *
  obtain ⟨m, hm⟩ : ∃ m, m = N.M[s.c].length := ⟨_, rfl⟩
  rw [← hm] at hc hk
  have hN1 : N.W ≤ 64 := N.wle
  have hN2 := N.len
  have hN3 := hs.1
  obtain ⟨o, ho⟩ : ∃ o, o = N.go s d := ⟨_, rfl⟩
  rw [← ho] at hx hat ⊢
  obtain ⟨W, hW⟩ : ∃ W, W = N.W := ⟨_, rfl⟩
  rw [← hW] at hat hN1 ⊢
  obtain ⟨n, hn⟩ : ∃ n, n = N.M.length := ⟨_, rfl⟩
  rw [← hn] at hN2 hN3 ⊢
  clear ho hW hn hm hsl h hn0 hD hs hcol hs1
  obtain ⟨sc, sk⟩ := s
  simp only at *
  have hd1 := dxD_small d
  have hd2 := dzD_small d
  obtain ⟨l, hl⟩ : ∃ l, l = lkD x d := ⟨_, rfl⟩
  have hcell : w.cell? ⟨b2, o2 + sk * 4 + d.toNat, none⟩ = some (.int .i64 l) := by
    rcases okD_cases hd with rfl | rfl | rfl | rfl <;> rw [hl] <;> first | exact e0 | exact e1 | exact e2 | exact e3
  rw [← hl] at hx
  clear hl e0 e1 e2 e3
  have hdr : 0 ≤ d ∧ d ≤ 3 := wiB_iff.1 hd
  obtain ⟨dn, rfl⟩ : ∃ dn : Nat, d = dn := ⟨d.toNat, by omega⟩
  simp only [Int.toNat_natCast] at hcell
  go_enter Tryd.func63, Tryd.ntmps63
  go_upto_region 1 with fail
  refine Code.at (fun W1 hW => ?_)
  have n0 : New w W1 := by subst hW; (repeat (first | (with_reducible exact New.refl _) | (with_reducible assumption) | ((with_reducible refine New.setB ?_ ?_ _); focus (first | omega | (simp; omega) | (simp; done))) | (with_reducible refine New.alloc ?_ _) | (with_reducible refine New.drew ?_) | (with_reducible refine New.drewN ?_ _) | (with_reducible refine New.hat ?_ _) | ((with_reducible apply New.snart); (with_reducible assumption))))
  have HG : Hid (GnAt W (.slice (some ⟨b, off, none⟩) n lc) W1 w.heap.size) := Lib.hid (by subst hW; exact ⟨by go_simp, by go_simp⟩)
  have HS : Hid (SpAt ⟨sc, sk⟩ W1 (w.heap.size + 1)) := Lib.hid (by subst hW; exact ⟨by go_simp, by go_simp⟩)
  have HZ : Hid (Res2 W1 (w.heap.size + 1 + 1)) := Lib.hid (by subst hW; exact ⟨by go_simp, by go_simp, by go_simp, by go_simp⟩)
  clear hW
  replace hc := n0.keep hc
  replace hcell := n0.keep hcell
  obtain ⟨g0, g1⟩ := HG.out
  obtain ⟨s0, s1⟩ := HS.out
  simp only at s0 s1
  (refine wp_region_hat (by kernel_rfl) (by kernel_rfl) ?_; intro hatc hatf; (repeat (go_big_quiet_step ((fail)))); refine wpQuiet_nil ?_; rintro _ ⟨q, rfl⟩)
  replace HG := Lib.hid (HG.out.new q.h)
  replace HS := Lib.hid (HS.out.new q.h)
  replace HZ := Lib.hid (HZ.out.new q.h)
  have N1 := Lib.hid (n0.trans q.h)
  clear hatc hatf s0 s1 g0 g1 hc hcell n0
  generalize q.w = w4 at *
  clear q
  rcases o with _ | t
  · simp only at hx
    subst hx
    obtain ⟨z0, z1, f0, f1⟩ := HZ.out
    have n3 := N1.out
    clear KS hat
    go_wp2_with fail
    ((generalize hW5 : World.setCell _ _ _ = W5); (have n5 : New w W5 := (by subst hW5; (repeat (first | (with_reducible exact New.refl _) | (with_reducible assumption) | ((with_reducible refine New.setB ?_ ?_ _); focus (first | omega | (simp; omega) | (simp; done))) | (with_reducible refine New.alloc ?_ _) | (with_reducible refine New.drew ?_) | (with_reducible refine New.drewN ?_ _) | (with_reducible refine New.hat ?_ _) | ((with_reducible apply New.snart); (with_reducible assumption)))))); (have k0 : W5.cell? ⟨w.heap.size + 1 + 1, 0, none⟩ = some (.int .i64 0) := (by subst hW5; go_simp)); (have k1 : W5.cell? ⟨w.heap.size + 1 + 1, 1, none⟩ = some (.int .i64 0) := (by subst hW5; go_simp)); clear hW5 z0 z1 f0 f1; refine bodyPost_ret (v := .tuple #[.agg #[.int .i64 0, .int .i64 0], .bool false]) (by simp [results, Tryd.results63, go_sem, *]) rfl ?_)
    exact ⟨rfl, n5⟩
  · simp only at hx
    subst hx
    have htc := (hat.out t rfl).2
    clear hat
    have hlt : decide (((t.k : Nat) : Int) < 0) = false := decide_eq_false (by omega)
    go_wp2_with fail
    refine (KS.out _ N1.out).mono ?_
    rintro e w5 ⟨rfl, n5⟩
    replace HG := HG.out.new n5
    replace HS := HS.out.new n5
    replace HZ := HZ.out.new n5
    replace N1 := N1.out.trans n5
    clear n5 KS
    obtain ⟨g0, g1⟩ := HG
    obtain ⟨s0, s1⟩ := HS
    obtain ⟨z0, z1, f0, f1⟩ := HZ
    simp only at s0 s1 htc
    obtain ⟨dx, hdx⟩ : ∃ q, q = dxD ((dn : Nat) : Int) := ⟨_, rfl⟩
    obtain ⟨dz, hdz⟩ : ∃ q, q = dzD ((dn : Nat) : Int) := ⟨_, rfl⟩
    rw [← hdx] at hd1 htc
    rw [← hdz] at hd2 htc
    rw [← hdx, ← hdz]
    have hm1 : -64 ≤ dz * W ∧ dz * W ≤ 64 := by
      rcases (show dz = -1 ∨ dz = 0 ∨ dz = 1 by omega) with rfl | rfl | rfl <;> omega
    have hw1 : IntKind.i64.wrap ((sc : Nat) + dx) = sc + dx := IntWalk.i64_in _ (by omega)
    have hw2 : IntKind.i64.wrap (dz * (W : Nat)) = dz * W := IntWalk.i64_in _ (by omega)
    have hw3 : IntKind.i64.wrap ((sc : Nat) + dx + dz * (W : Nat)) = ((t.c : Nat) : Int) := by rw [htc]; exact IntWalk.i64_in _ (by omega)
    clear hdx hdz hd1 hd2 hm1 htc
    go_wp2_with fail
    ((generalize hW5 : World.setCell _ _ _ = W5); (have n5 : New w W5 := (by subst hW5; (repeat (first | (with_reducible exact New.refl _) | (with_reducible assumption) | ((with_reducible refine New.setB ?_ ?_ _); focus (first | omega | (simp; omega) | (simp; done))) | (with_reducible refine New.alloc ?_ _) | (with_reducible refine New.drew ?_) | (with_reducible refine New.drewN ?_ _) | (with_reducible refine New.hat ?_ _) | ((with_reducible apply New.snart); (with_reducible assumption)))))); (have k0 : W5.cell? ⟨w.heap.size + 1 + 1, 0, none⟩ = some (.int .i64 ((t.c : Nat) : Int)) := (by subst hW5; go_simp)); (have k1 : W5.cell? ⟨w.heap.size + 1 + 1, 1, none⟩ = some (.int .i64 ((t.k : Nat) : Int)) := (by subst hW5; go_simp)); clear hW5 z0 z1 f0 f1; refine bodyPost_ret (v := .tuple #[.agg #[.int .i64 ((t.c : Nat) : Int), .int .i64 ((t.k : Nat) : Int)], .bool true]) (by simp [results, Tryd.results63, go_sem, *]) rfl ?_)
    exact ⟨rfl, n5⟩

end Go.Proofs.YtgoggogcbjfofaaDoor

/- Package field: the way round, diagonal. -/
namespace Go.Proofs.YtgoggogcbjfofaaDoor
open Go.RowKit
set_option linter.unusedVariables false

theorem sp_neq (w : World) (a b : Sp) : (binOp .neq 85 (.agg #[.int .i64 ((a.c : Nat) : Int), .int .i64 ((a.k : Nat) : Int)]) (.agg #[.int .i64 ((b.c : Nat) : Int), .int .i64 ((b.k : Nat) : Int)])).run Tryd.prog w = .ok (.bool (!a.eqB b)) w := by
  unfold Sp.eqB
  cases h1 : ((a.c : Int) == (b.c : Int)) <;> cases h2 : ((a.k : Int) == (b.k : Int)) <;> (go_simp)

set_option maxHeartbeats 8000000 in
set_option maxRecDepth 100000 in
theorem fd_round (N : Net) (la : Option Addr) (lc : Nat) (s : Sp) (hs : SpIn N.M s) (d d2 : Int) (hd : okD d = true) (hd2 : okD d2 = true) (w0 w : World) (hn0 : New w0 w) (h : RowsK Lk.enc 4 w0 (.slice la N.M.length lc) N.M) (hD : Dirs w) (B0 B1 : Nat) (hG : GnAt N.W (.slice la N.M.length lc) w B0) (hS : SpAt s w B1) : Calls Tryd.prog 65 #[.int .i64 d, .int .i64 d2, .pointer (some ⟨B0, 0, none⟩), .pointer (some ⟨B1, 0, none⟩)] w fun e w' => e = .returned (.tuple #[.agg #[.int .i64 (((spO (rndP N.go s d d2)).c : Nat) : Int), .int .i64 (((spO (rndP N.go s d d2)).k : Nat) : Int)], .bool (rndP N.go s d d2).isSome]) ∧ New w w' := by
  have K1 := Lib.hid (fun W (q : New w W) => fd_to N la lc s hs d hd w0 W (hn0.trans q) h (hD.new q))
  have K2 := Lib.hid (fun m (hm : SpIn N.M m) W (q : New w W) => fd_to N la lc m hm d2 hd2 w0 W (hn0.trans q) h (hD.new q))
  have HG := Lib.hid (fun W (q : New w W) => hG.new q)
  have HS := Lib.hid (fun W (q : New w W) => hS.new q)
  have hz0 := World.block_lt_of_cell? _ _ hG.c0
  have hz1 := World.block_lt_of_cell? _ _ hS.c0
  simp only [] at hz0 hz1
  obtain ⟨r, hr⟩ : ∃ r, r = rndP N.go s d d2 := ⟨_, rfl⟩
  have R1 : Hid (N.go s d = none → r = none) := Lib.hid (fun q => by rw [hr]; unfold rndP; rw [q])
  have R2 : Hid (∀ m, N.go s d = some m → r = N.go m d2) := Lib.hid (fun m q => by rw [hr]; unfold rndP; rw [q])
  have HI : Hid (∀ m, N.go s d = some m → SpIn N.M m) := Lib.hid (fun m q => (N.lead s hs d m q).1)
  rw [← hr]
  obtain ⟨n, hn⟩ : ∃ n, n = N.M.length := ⟨_, rfl⟩
  rw [← hn] at K1 K2 HG
  obtain ⟨wd, hwd⟩ : ∃ q, q = N.W := ⟨_, rfl⟩
  rw [← hwd] at K1 K2 HG
  clear hr hn hwd h hD hG hS hd hd2
  obtain ⟨o, ho⟩ : ∃ o, o = N.go s d := ⟨_, rfl⟩
  rw [← ho] at K1 R1 R2 HI
  clear ho
  go_enter Tryd.func65, Tryd.ntmps65
  go_upto_region 1 with fail
  refine Code.at (fun W hW => ?_)
  have n0 : New w W := by subst hW; (repeat (first | (with_reducible exact New.refl _) | (with_reducible assumption) | ((with_reducible refine New.setB ?_ ?_ _); focus (first | omega | (simp; omega) | (simp; done))) | (with_reducible refine New.alloc ?_ _) | (with_reducible refine New.drew ?_) | (with_reducible refine New.drewN ?_ _) | (with_reducible refine New.hat ?_ _) | ((with_reducible apply New.snart); (with_reducible assumption))))
  have HZ : Hid (Res2 W w.heap.size) := Lib.hid (by subst hW; exact ⟨by go_simp, by go_simp, by go_simp, by go_simp⟩)
  clear hW
  obtain ⟨g0, g1⟩ := HG.out W n0
  obtain ⟨s0, s1⟩ := HS.out W n0
  go_wp2_with fail
  refine (K1.out _ n0).mono ?_
  rintro e w1 ⟨rfl, n1⟩
  have N1 := Lib.hid (n0.trans n1)
  replace HZ := Lib.hid (HZ.out.new n1)
  have hz3 : w.heap.size < w1.heap.size := World.block_lt_of_cell? _ _ HZ.out.c0
  clear n0 n1 K1 s0 s1 g0 g1
  rcases o with _ | m
  · have HR := Lib.hid (R1.out rfl)
    simp only [Option.isSome_none]
    clear R1 R2 K2 HG HS HI
    go_upto_region 3 with fail
    refine Code.at (fun W2 hW => ?_)
    have n2 : New w1 W2 := by subst hW; (repeat (first | (with_reducible exact New.refl _) | (with_reducible assumption) | ((with_reducible refine New.setB ?_ ?_ _); focus (first | omega | (simp; omega) | (simp; done))) | (with_reducible refine New.alloc ?_ _) | (with_reducible refine New.drew ?_) | (with_reducible refine New.drewN ?_ _) | (with_reducible refine New.hat ?_ _) | ((with_reducible apply New.snart); (with_reducible assumption))))
    clear hW
    obtain ⟨z0, z1, f0, f1⟩ := HZ.out.new n2
    have n3 := N1.out.trans n2
    go_wp2_with fail
    ((generalize hW5 : World.setCell _ _ _ = W5); (have n5 : New w W5 := (by subst hW5; (repeat (first | (with_reducible exact New.refl _) | (with_reducible assumption) | ((with_reducible refine New.setB ?_ ?_ _); focus (first | omega | (simp; omega) | (simp; done))) | (with_reducible refine New.alloc ?_ _) | (with_reducible refine New.drew ?_) | (with_reducible refine New.drewN ?_ _) | (with_reducible refine New.hat ?_ _) | ((with_reducible apply New.snart); (with_reducible assumption)))))); (have k0 : W5.cell? ⟨w.heap.size, 0, none⟩ = some (.int .i64 0) := (by subst hW5; go_simp)); (have k1 : W5.cell? ⟨w.heap.size, 1, none⟩ = some (.int .i64 0) := (by subst hW5; go_simp)); clear hW5 z0 z1 f0 f1; refine bodyPost_ret (v := .tuple #[.agg #[.int .i64 0, .int .i64 0], .bool false]) (by simp [results, Tryd.results65, go_sem, *]) rfl ?_)
    rw [HR.out]
    exact ⟨rfl, n5⟩
  have HR := Lib.hid (R2.out m rfl)
  have hmi := HI.out m rfl
  simp only [Option.isSome_some]
  have hm : spO (some m) = m := rfl
  rw [hm]
  clear hm R1 R2 HI
  go_upto_region 4 with fail
  refine Code.at (fun W2 hW => ?_)
  have n2 : New w1 W2 := by subst hW; (repeat (first | (with_reducible exact New.refl _) | (with_reducible assumption) | ((with_reducible refine New.setB ?_ ?_ _); focus (first | omega | (simp; omega) | (simp; done))) | (with_reducible refine New.alloc ?_ _) | (with_reducible refine New.drew ?_) | (with_reducible refine New.drewN ?_ _) | (with_reducible refine New.hat ?_ _) | ((with_reducible apply New.snart); (with_reducible assumption))))
  have hm0 : W2.cell? ⟨w1.heap.size, 0, none⟩ = some (.int .i64 ((m.c : Nat) : Int)) := by subst hW; go_simp
  have hm1 : W2.cell? ⟨w1.heap.size, 1, none⟩ = some (.int .i64 ((m.k : Nat) : Int)) := by subst hW; go_simp
  clear hW
  have N2 := Lib.hid (N1.out.trans n2)
  obtain ⟨g0, g1⟩ := HG.out W2 N2.out
  replace HZ := Lib.hid (HZ.out.new n2)
  have K2m := Lib.hid (K2.out m hmi)
  clear K2 hmi
  go_wp2_with fail
  refine (K2m.out _ N2.out).mono ?_
  rintro e w3 ⟨rfl, n3⟩
  obtain ⟨z0, z1, f0, f1⟩ := HZ.out.new n3
  have N3 := N2.out.trans n3
  clear n2 hm0 hm1 n3 g0 g1
  rw [← HR.out]
  obtain ⟨v, hv⟩ : ∃ v, v = spO r := ⟨_, rfl⟩
  obtain ⟨b, hb⟩ : ∃ b, b = r.isSome := ⟨_, rfl⟩
  rw [← hv, ← hb]
  have HV := Lib.hid (And.intro hv hb)
  clear HR hv hb
  go_wp2_with fail
  ((generalize hW5 : World.setCell _ _ _ = W5); (have n5 : New w W5 := (by subst hW5; (repeat (first | (with_reducible exact New.refl _) | (with_reducible assumption) | ((with_reducible refine New.setB ?_ ?_ _); focus (first | omega | (simp; omega) | (simp; done))) | (with_reducible refine New.alloc ?_ _) | (with_reducible refine New.drew ?_) | (with_reducible refine New.drewN ?_ _) | (with_reducible refine New.hat ?_ _) | ((with_reducible apply New.snart); (with_reducible assumption)))))); (have k0 : W5.cell? ⟨w.heap.size, 0, none⟩ = some (.int .i64 ((v.c : Nat) : Int)) := (by subst hW5; go_simp)); (have k1 : W5.cell? ⟨w.heap.size, 1, none⟩ = some (.int .i64 ((v.k : Nat) : Int)) := (by subst hW5; go_simp)); clear hW5 z0 z1 f0 f1; refine bodyPost_ret (v := .tuple #[.agg #[.int .i64 ((v.c : Nat) : Int), .int .i64 ((v.k : Nat) : Int)], .bool b]) (by simp [results, Tryd.results65, go_sem, *]) rfl ?_)
  rw [← HV.out.1, ← HV.out.2]
  exact ⟨rfl, n5⟩

set_option maxHeartbeats 8000000 in
set_option maxRecDepth 100000 in
theorem fd_diagonal (N : Net) (la : Option Addr) (lc : Nat) (s : Sp) (hs : SpIn N.M s) (d d2 : Int) (hd : okD d = true) (hd2 : okD d2 = true) (w0 w : World) (hn0 : New w0 w) (h : RowsK Lk.enc 4 w0 (.slice la N.M.length lc) N.M) (hD : Dirs w) : Calls Tryd.prog 64 #[.agg #[.int .i64 ((N.W : Nat) : Int), .slice la N.M.length lc], .agg #[.int .i64 ((s.c : Nat) : Int), .int .i64 ((s.k : Nat) : Int)], .int .i64 d, .int .i64 d2] w fun e w' => e = .returned (.tuple #[.agg #[.int .i64 (((spO (diaP N.go s d d2)).c : Nat) : Int), .int .i64 (((spO (diaP N.go s d d2)).k : Nat) : Int)], .bool (diaP N.go s d d2).isSome]) ∧ New w w' := by
  have K11 := Lib.hid (fun W (q : New w W) B0 B1 h1 h2 => fd_round N la lc s hs d d2 hd hd2 w0 W (hn0.trans q) h (hD.new q) B0 B1 h1 h2)
  have K12 := Lib.hid (fun W (q : New w W) B0 B1 h1 h2 => fd_round N la lc s hs d2 d hd2 hd w0 W (hn0.trans q) h (hD.new q) B0 B1 h1 h2)
  obtain ⟨r, hr⟩ : ∃ r, r = diaP N.go s d d2 := ⟨_, rfl⟩
  rw [← hr]
  have HR2 : Hid (r = bothP (rndP N.go s d d2) (rndP N.go s d2 d)) := Lib.hid hr
  obtain ⟨n, hn⟩ : ∃ n, n = N.M.length := ⟨_, rfl⟩
  rw [← hn] at K11 K12 ⊢
  obtain ⟨wd, hwd⟩ : ∃ q, q = N.W := ⟨_, rfl⟩
  rw [← hwd] at K11 K12 ⊢
  clear hr hn hwd h hD hs hd hd2
  go_enter Tryd.func64, Tryd.ntmps64
  go_upto_region 1 with fail
  refine Code.at (fun W hW => ?_)
  have n0 : New w W := by subst hW; (repeat (first | (with_reducible exact New.refl _) | (with_reducible assumption) | ((with_reducible refine New.setB ?_ ?_ _); focus (first | omega | (simp; omega) | (simp; done))) | (with_reducible refine New.alloc ?_ _) | (with_reducible refine New.drew ?_) | (with_reducible refine New.drewN ?_ _) | (with_reducible refine New.hat ?_ _) | ((with_reducible apply New.snart); (with_reducible assumption))))
  have HG : Hid (GnAt wd (.slice la n lc) W w.heap.size) := Lib.hid (by subst hW; exact ⟨by go_simp, by go_simp⟩)
  have HS : Hid (SpAt s W (w.heap.size + 1)) := Lib.hid (by subst hW; exact ⟨by go_simp, by go_simp⟩)
  have HZ : Hid (Res2 W (w.heap.size + 1 + 1)) := Lib.hid (by subst hW; exact ⟨by go_simp, by go_simp, by go_simp, by go_simp⟩)
  clear hW
  generalize rndP N.go s d d2 = o1 at *
  generalize rndP N.go s d2 d = o2 at *
  go_wp2_with fail
  refine (K11.out _ n0 _ _ HG.out HS.out).mono ?_
  rintro e w1 ⟨rfl, n1⟩
  have N1 := Lib.hid (n0.trans n1)
  replace HG := Lib.hid (HG.out.new n1)
  replace HS := Lib.hid (HS.out.new n1)
  replace HZ := Lib.hid (HZ.out.new n1)
  clear n0 n1 K11
  go_wp2_with fail
  refine Calls.at (fun W2 hW => ?_)
  have n2 : New w1 W2 := by subst hW; (repeat (first | (with_reducible exact New.refl _) | (with_reducible assumption) | ((with_reducible refine New.setB ?_ ?_ _); focus (first | omega | (simp; omega) | (simp; done))) | (with_reducible refine New.alloc ?_ _) | (with_reducible refine New.drew ?_) | (with_reducible refine New.drewN ?_ _) | (with_reducible refine New.hat ?_ _) | ((with_reducible apply New.snart); (with_reducible assumption))))
  have HT : Hid (SpAt (spO o1) W2 w1.heap.size) := Lib.hid (by subst hW; exact ⟨by go_simp, by go_simp⟩)
  clear hW
  have N2 := Lib.hid (N1.out.trans n2)
  refine (K12.out _ N2.out _ _ (HG.out.new n2) (HS.out.new n2)).mono ?_
  rintro e w3 ⟨rfl, n3⟩
  replace HZ := Lib.hid (HZ.out.new (n2.trans n3))
  replace HT := Lib.hid (HT.out.new n3)
  have N3 := Lib.hid (N2.out.trans n3)
  clear n2 n3 K12 HG HS N1 N2
  go_upto_region 4 with fail
  refine Code.at (fun W4 hW => ?_)
  have n4 : New w3 W4 := by subst hW; (repeat (first | (with_reducible exact New.refl _) | (with_reducible assumption) | ((with_reducible refine New.setB ?_ ?_ _); focus (first | omega | (simp; omega) | (simp; done))) | (with_reducible refine New.alloc ?_ _) | (with_reducible refine New.drew ?_) | (with_reducible refine New.drewN ?_ _) | (with_reducible refine New.hat ?_ _) | ((with_reducible apply New.snart); (with_reducible assumption))))
  have HU : Hid (SpAt (spO o2) W4 w3.heap.size) := Lib.hid (by subst hW; exact ⟨by go_simp, by go_simp⟩)
  clear hW
  obtain ⟨z0, z1, f0, f1⟩ := HZ.out.new n4
  obtain ⟨t0, t1⟩ := HT.out.new n4
  obtain ⟨u0, u1⟩ := HU.out
  have n3 := N3.out.trans n4
  clear n4 HZ HT HU N3
  rcases o1 with _ | t
  · have HRR : Hid (r = none) := Lib.hid (by rw [HR2.out]; rfl)
    simp only [Option.isSome_none]
    clear HR2
    go_wp2_with fail
    ((generalize hW5 : World.setCell _ _ _ = W5); (have n5 : New w W5 := (by subst hW5; (repeat (first | (with_reducible exact New.refl _) | (with_reducible assumption) | ((with_reducible refine New.setB ?_ ?_ _); focus (first | omega | (simp; omega) | (simp; done))) | (with_reducible refine New.alloc ?_ _) | (with_reducible refine New.drew ?_) | (with_reducible refine New.drewN ?_ _) | (with_reducible refine New.hat ?_ _) | ((with_reducible apply New.snart); (with_reducible assumption)))))); (have k0 : W5.cell? ⟨w.heap.size + 1 + 1, 0, none⟩ = some (.int .i64 0) := (by subst hW5; go_simp)); (have k1 : W5.cell? ⟨w.heap.size + 1 + 1, 1, none⟩ = some (.int .i64 0) := (by subst hW5; go_simp)); clear hW5 z0 z1 f0 f1; refine bodyPost_ret (v := .tuple #[.agg #[.int .i64 0, .int .i64 0], .bool false]) (by simp [results, Tryd.results64, go_sem, *]) rfl ?_)
    rw [HRR.out]
    exact ⟨rfl, n5⟩
  rcases o2 with _ | u
  · have HRR : Hid (r = none) := Lib.hid (by rw [HR2.out]; rfl)
    simp only [Option.isSome_none, Option.isSome_some]
    clear HR2
    go_wp2_with fail
    ((generalize hW5 : World.setCell _ _ _ = W5); (have n5 : New w W5 := (by subst hW5; (repeat (first | (with_reducible exact New.refl _) | (with_reducible assumption) | ((with_reducible refine New.setB ?_ ?_ _); focus (first | omega | (simp; omega) | (simp; done))) | (with_reducible refine New.alloc ?_ _) | (with_reducible refine New.drew ?_) | (with_reducible refine New.drewN ?_ _) | (with_reducible refine New.hat ?_ _) | ((with_reducible apply New.snart); (with_reducible assumption)))))); (have k0 : W5.cell? ⟨w.heap.size + 1 + 1, 0, none⟩ = some (.int .i64 0) := (by subst hW5; go_simp)); (have k1 : W5.cell? ⟨w.heap.size + 1 + 1, 1, none⟩ = some (.int .i64 0) := (by subst hW5; go_simp)); clear hW5 z0 z1 f0 f1; refine bodyPost_ret (v := .tuple #[.agg #[.int .i64 0, .int .i64 0], .bool false]) (by simp [results, Tryd.results64, go_sem, *]) rfl ?_)
    rw [HRR.out]
    exact ⟨rfl, n5⟩
  have ht : spO (some t) = t := rfl
  have hu : spO (some u) = u := rfl
  rw [ht] at t0 t1
  rw [hu] at u0 u1
  simp only [Option.isSome_some]
  rw [ht, hu]
  clear ht hu
  cases e1 : ((t.c : Int) == (u.c : Int))
  · have HRR : Hid (r = none) := Lib.hid (by
      rw [HR2.out]
      unfold bothP
      simp only
      rw [if_neg (fun q => by rw [q] at e1; simp at e1)])
    clear HR2
    go_wp2_with fail
    ((generalize hW5 : World.setCell _ _ _ = W5); (have n5 : New w W5 := (by subst hW5; (repeat (first | (with_reducible exact New.refl _) | (with_reducible assumption) | ((with_reducible refine New.setB ?_ ?_ _); focus (first | omega | (simp; omega) | (simp; done))) | (with_reducible refine New.alloc ?_ _) | (with_reducible refine New.drew ?_) | (with_reducible refine New.drewN ?_ _) | (with_reducible refine New.hat ?_ _) | ((with_reducible apply New.snart); (with_reducible assumption)))))); (have k0 : W5.cell? ⟨w.heap.size + 1 + 1, 0, none⟩ = some (.int .i64 0) := (by subst hW5; go_simp)); (have k1 : W5.cell? ⟨w.heap.size + 1 + 1, 1, none⟩ = some (.int .i64 0) := (by subst hW5; go_simp)); clear hW5 z0 z1 f0 f1; refine bodyPost_ret (v := .tuple #[.agg #[.int .i64 0, .int .i64 0], .bool false]) (by simp [results, Tryd.results64, go_sem, *]) rfl ?_)
    rw [HRR.out]
    exact ⟨rfl, n5⟩
  cases e2 : ((t.k : Int) == (u.k : Int))
  · have HRR : Hid (r = none) := Lib.hid (by
      rw [HR2.out]
      unfold bothP
      simp only
      rw [if_neg (fun q => by rw [q] at e2; simp at e2)])
    clear HR2
    go_wp2_with fail
    ((generalize hW5 : World.setCell _ _ _ = W5); (have n5 : New w W5 := (by subst hW5; (repeat (first | (with_reducible exact New.refl _) | (with_reducible assumption) | ((with_reducible refine New.setB ?_ ?_ _); focus (first | omega | (simp; omega) | (simp; done))) | (with_reducible refine New.alloc ?_ _) | (with_reducible refine New.drew ?_) | (with_reducible refine New.drewN ?_ _) | (with_reducible refine New.hat ?_ _) | ((with_reducible apply New.snart); (with_reducible assumption)))))); (have k0 : W5.cell? ⟨w.heap.size + 1 + 1, 0, none⟩ = some (.int .i64 0) := (by subst hW5; go_simp)); (have k1 : W5.cell? ⟨w.heap.size + 1 + 1, 1, none⟩ = some (.int .i64 0) := (by subst hW5; go_simp)); clear hW5 z0 z1 f0 f1; refine bodyPost_ret (v := .tuple #[.agg #[.int .i64 0, .int .i64 0], .bool false]) (by simp [results, Tryd.results64, go_sem, *]) rfl ?_)
    rw [HRR.out]
    exact ⟨rfl, n5⟩
  · have HRR : Hid (r = some t) := Lib.hid (by
      rw [HR2.out]
      unfold bothP
      simp only
      rw [if_pos ((Sp.eqB_iff t u).1 (by unfold Sp.eqB; rw [e1, e2]; rfl))])
    clear HR2
    go_wp2_with fail
    ((generalize hW5 : World.setCell _ _ _ = W5); (have n5 : New w W5 := (by subst hW5; (repeat (first | (with_reducible exact New.refl _) | (with_reducible assumption) | ((with_reducible refine New.setB ?_ ?_ _); focus (first | omega | (simp; omega) | (simp; done))) | (with_reducible refine New.alloc ?_ _) | (with_reducible refine New.drew ?_) | (with_reducible refine New.drewN ?_ _) | (with_reducible refine New.hat ?_ _) | ((with_reducible apply New.snart); (with_reducible assumption)))))); (have k0 : W5.cell? ⟨w.heap.size + 1 + 1, 0, none⟩ = some (.int .i64 ((t.c : Nat) : Int)) := (by subst hW5; go_simp)); (have k1 : W5.cell? ⟨w.heap.size + 1 + 1, 1, none⟩ = some (.int .i64 ((t.k : Nat) : Int)) := (by subst hW5; go_simp)); clear hW5 z0 z1 f0 f1; refine bodyPost_ret (v := .tuple #[.agg #[.int .i64 ((t.c : Nat) : Int), .int .i64 ((t.k : Nat) : Int)], .bool true]) (by simp [results, Tryd.results64, go_sem, *]) rfl ?_)
    rw [HRR.out]
    exact ⟨rfl, n5⟩

end Go.Proofs.YtgoggogcbjfofaaDoor

/- A struct stored whole, as a run; what may be written of a block. No function of the program in sight. -/
namespace Go.Proofs.YtgoggogcbjfofaaDoor
open Go.RowKit
set_option linter.unusedVariables false

section
variable {P : Program}
theorem store_blk_run {op : Oper} {a : Act} {w : World} (ty : TypeId) (x y : Operand) (ho : op.op = .store ty x y)
    (b : Nat) (cells : Array Value) (hx : a.eval x = .pointer (some ⟨b, 0, none⟩)) (hy : a.eval y = .agg cells)
    (ht : Thr w b cells.size) (hi : (P.info? ty).map (·.size) = some cells.size) (h1 : ∀ v ∈ cells.toList, v.oneCell' = true) :
    ∃ W, (execOp a.eval op).run P w = .ok .skip W ∧ (∀ a0, New a0 w → a0.heap.size ≤ b → New a0 W) ∧ (∀ b', b' ≠ b → W.heap[b']? = w.heap[b']?) ∧ CellsAt W b 0 cells.toList := by
  have ht' : w.there b 0 cells.size := fun j hj => by
    obtain ⟨⟨v, hv⟩, hf⟩ := ht j hj
    rw [Nat.zero_add]
    exact ⟨by rw [hv]; rfl, hf⟩
  refine ⟨w.setCells b 0 cells.toList, ?_, fun a0 h0 hb => new_setCells h0 hb _ _, fun b' hne => heap_setCells_other b _ _ _ _ hne, fun j hj => ?_⟩
  · unfold execOp
    simp only [ho, hx, hy, Instr.storeAt, Instr.sureAddr, Sem.run_bind, Sem.run_pure, Result.andThen_ok, run_storeVar_mid w b 0 ty cells ht' hi (all_oneCell_toArray h1)]
  · have := World.rangeAt_setCells_same w b 0 cells.toList (by simpa using ht')
    exact this j _ (List.getElem?_eq_getElem hj)
end

theorem thr_of {w : World} {g n : Nat} {cs : Array Value} {t : TypeId} (h : w.heap[g]? = some (Obj.cells cs t (0, 0))) (hn : cs.size = n) : Thr w g n := fun j hj => by
  have hj' : j < cs.size := by omega
  exact ⟨⟨cs[j], cell_of_heap h (Array.getElem?_eq_getElem hj')⟩, frozen_of_heap h⟩

end Go.Proofs.YtgoggogcbjfofaaDoor

/- Package field: around. -/
namespace Go.Proofs.YtgoggogcbjfofaaDoor
open Go.RowKit
set_option linter.unusedVariables false

/-- One, two in a block of their own. -/
theorem sp_new (w : World) (s : Sp) (t : TypeId) : Sl Sp.enc 2 (w.alloc (.cells #[.int .i64 ((s.c : Nat) : Int), .int .i64 ((s.k : Nat) : Int)] t)) (.slice (some ⟨w.heap.size, 0, none⟩) 1 1) [s] :=
  ⟨_, _, rfl, Nat.le_refl _, by unfold maxLen; omega, fun h => (by cases h), fun _ => ⟨w.heap.size, 0, rfl, fun j hj i hi => by
    have hj' : j = 0 := by simpa using hj
    subst hj'
    have hi' : i < 2 := hi
    have hz := heap_new w (.cells #[.int .i64 ((s.c : Nat) : Int), .int .i64 ((s.k : Nat) : Int)] t)
    rcases (show i = 0 ∨ i = 1 by omega) with rfl | rfl <;> exact cell_of_heap hz rfl⟩⟩
theorem sp_new2 (w : World) (s u : Sp) (t : TypeId) : Sl Sp.enc 2 (w.alloc (.cells #[.int .i64 ((s.c : Nat) : Int), .int .i64 ((s.k : Nat) : Int), .int .i64 ((u.c : Nat) : Int), .int .i64 ((u.k : Nat) : Int)] t)) (.slice (some ⟨w.heap.size, 0, none⟩) 2 2) [s, u] :=
  ⟨_, _, rfl, Nat.le_refl _, by unfold maxLen; omega, fun h => (by cases h), fun _ => ⟨w.heap.size, 0, rfl, fun j hj i hi => by
    have hj' : j < 2 := hj
    have hz := heap_new w (.cells #[.int .i64 ((s.c : Nat) : Int), .int .i64 ((s.k : Nat) : Int), .int .i64 ((u.c : Nat) : Int), .int .i64 ((u.k : Nat) : Int)] t)
    rcases (show j = 0 ∨ j = 1 by omega) with rfl | rfl
    · have hi' : i < 2 := hi
      rcases (show i = 0 ∨ i = 1 by omega) with rfl | rfl <;> exact cell_of_heap hz rfl
    · have hi' : i < 2 := hi
      rcases (show i = 0 ∨ i = 1 by omega) with rfl | rfl <;> exact cell_of_heap hz rfl⟩⟩
theorem fst_info : (Tryd.prog.info? 85).map (fun i => (i.zero, i.size, i.bytes)) = some (some (.agg #[.int .i64 0, .int .i64 0]), 2, 16) := by kernel_rfl

/-- What the statement's operations yield: a call that tells a struct and a bool, the struct laid in a block of its own. -/
def dgV (Z0 : Nat) (gv sv rv : Value) (t : TypeId) (i ne : Int) (ok : Bool) : Nat → World → Value → Prop
  | 0, _, v => v = gv
  | 1, _, v => v = sv
  | 2, _, v => v = .int .i64 i
  | 3, _, v => v = .int .i64 i
  | 4, _, v => v = .int .i64 (i + 1)
  | 5, _, v => v = .int .i64 4
  | 6, _, v => v = .int .i64 ne
  | 7, _, v => v = .tuple #[rv, .bool ok]
  | 8, _, v => v = .tuple #[rv, .bool ok]
  | 9, _, v => v = rv
  | 10, _, v => v = .bool ok
  | 11, w, v => ∃ g cs, v = .pointer (some ⟨g, 0, none⟩) ∧ w.heap[g]? = some (.cells cs t (0, 0)) ∧ cs.size = 2 ∧ Z0 ≤ g
  | _, _, _ => True
theorem dgV_keep {Z0 : Nat} {gv sv rv : Value} {t : TypeId} {i ne : Int} {ok : Bool} : ∀ j w w' v, dgV Z0 gv sv rv t i ne ok j w v → New w w' → dgV Z0 gv sv rv t i ne ok j w' v := by
  intro j w w' v h hn
  match j, h with
  | 0, h => exact h
  | 1, h => exact h
  | 2, h => exact h
  | 3, h => exact h
  | 4, h => exact h
  | 5, h => exact h
  | 6, h => exact h
  | 7, h => exact h
  | 8, h => exact h
  | 9, h => exact h
  | 10, h => exact h
  | 11, ⟨g, cs, e, h1, h2, h3⟩ => exact ⟨g, cs, e, (hn.block g (Array.getElem?_eq_some_iff.1 h1).1).trans h1, h2, h3⟩
  | j + 12, _ => trivial

set_option maxHeartbeats 8000000 in
set_option maxRecDepth 100000 in
theorem fd_around (N : Net) (la : Option Addr) (lc : Nat) (s : Sp) (hs : SpIn N.M s) (w0 w : World) (hn0 : New w0 w) (h : RowsK Lk.enc 4 w0 (.slice la N.M.length lc) N.M) (hD : Dirs w) : Calls Tryd.prog 58 #[.agg #[.int .i64 ((N.W : Nat) : Int), .slice la N.M.length lc], .agg #[.int .i64 ((s.c : Nat) : Int), .int .i64 ((s.k : Nat) : Int)]] w fun e w' => ∃ a c, e = .returned (.slice a (arP N.go s).length c) ∧ Sl Sp.enc 2 w' (.slice a (arP N.go s).length c) (arP N.go s) ∧ (∀ g, (Value.slice a (arP N.go s).length c).ownBlock = some g → w.heap.size ≤ g) ∧ New w w' := by
  obtain ⟨i0, hi0, hz0, hz1, hz2⟩ := info_parts fst_info
  have KT := Lib.hid (fun d hd W (q : New w W) => fd_to N la lc s hs d hd w0 W (hn0.trans q) h (hD.new q))
  have KD := Lib.hid (fun d d2 hd hd2 W (q : New w W) => fd_diagonal N la lc s hs d d2 hd hd2 w0 W (hn0.trans q) h (hD.new q))
  have HS : Hid (∀ n : Nat, arN N.go s (n + 1) = (arN N.go s n ++ (N.go s n).toList) ++ (diaP N.go s n (nextD n)).toList) := Lib.hid (fun n => rfl)
  have HL := Lib.hid (fun n => arN_len (go := N.go) s n)
  obtain ⟨n, hn⟩ : ∃ n, n = N.M.length := ⟨_, rfl⟩
  rw [← hn] at KT KD ⊢
  obtain ⟨wd, hwd⟩ : ∃ q, q = N.W := ⟨_, rfl⟩
  rw [← hwd] at KT KD ⊢
  clear hn hwd h hD hs hn0
  have H0 : Hid (arN N.go s 0 = []) := Lib.hid rfl
  unfold arP
  generalize arN N.go s = ar at *
  generalize N.go s = tn at *
  generalize diaP N.go s = dn at *
  have hok : Hid (∀ i : Nat, i < 4 → okD i = true ∧ okD (nextD i) = true) := Lib.hid (fun i hi => by
    rcases (show i = 0 ∨ i = 1 ∨ i = 2 ∨ i = 3 by omega) with rfl | rfl | rfl | rfl <;> exact ⟨by decide, by decide⟩)
  go_enter Tryd.func58, Tryd.ntmps58
  go_upto_region 1 with fail
  refine Code.at (fun W hW => ?_)
  have n0 : Hid (New w W) := Lib.hid (by subst hW; (repeat (first | (with_reducible exact New.refl _) | (with_reducible assumption) | ((with_reducible refine New.setB ?_ ?_ _); focus (first | omega | (simp; omega) | (simp; done))) | (with_reducible refine New.alloc ?_ _) | (with_reducible refine New.drew ?_) | (with_reducible refine New.drewN ?_ _) | (with_reducible refine New.hat ?_ _) | ((with_reducible apply New.snart); (with_reducible assumption)))))
  have HG : Hid (GnAt wd (.slice la n lc) W w.heap.size) := Lib.hid (by subst hW; exact ⟨by go_simp, by go_simp⟩)
  have HP : Hid (SpAt s W (w.heap.size + 1)) := Lib.hid (by subst hW; exact ⟨by go_simp, by go_simp⟩)
  clear hW
  obtain ⟨base, hbase⟩ : ∃ q, q = W.heap.size := ⟨_, rfl⟩
  have HB := Lib.hid hbase
  clear hbase
  go_wp2_with fail
  go_loopg [13, 5] 4 (fun gk s13 s5 wr => ∃ (i : Nat) (ra : Option Addr) (rn rc : Nat), s13 = .int .i64 i ∧ s5 = .slice ra rn rc ∧ i ≤ 4 ∧ 4 - i ≤ gk ∧ Hid (wr.ownsRow base 85 2 (.slice ra rn rc) (ar i).length ((ar i).flatMap Sp.enc)) ∧ Hid (New W wr))
  case atStart => exact ⟨0, none, 0, 0, rfl, rfl, by omega, by omega, Lib.hid (by rw [H0.out]; exact World.ownsRow_nil _ _ _ _), Lib.hid (New.refl _)⟩
  case round =>
    obtain ⟨i, ra, rn, rc, rfl, rfl, hi, hgk, hown, hnr⟩ := hrel
    by_cases hlt : i < 4
    · obtain ⟨hk1, hk2⟩ := hok.out i hlt
      have KTi := Lib.hid (KT.out i hk1)
      have KDi := Lib.hid (KD.out i (nextD i) hk1 hk2)
      have hsi := HS.out i
      have hli := HL.out i
      have hw1 : IntKind.i64.wrap ((i : Int) + 1) = i + 1 := IntWalk.i64_in _ (by omega)
      have hrem : (Int.tmod ((i : Int) + 1) 4) = nextD i := rfl
      obtain ⟨o1, ho1⟩ : ∃ o, o = tn i := ⟨_, rfl⟩
      obtain ⟨o2, ho2⟩ : ∃ o, o = dn i (nextD i) := ⟨_, rfl⟩
      rw [← ho1] at KTi hsi
      rw [← ho2] at KDi hsi
      have HSI := Lib.hid hsi
      clear ho1 ho2 hsi hk1 hk2
      obtain ⟨l0, hl0⟩ : ∃ q, q = ar i := ⟨_, rfl⟩
      rw [← hl0] at hown hli HSI
      clear hl0
      generalize nextD i = ne at *
      obtain ⟨g0, g1⟩ := HG.out.new hnr.out
      obtain ⟨p0, p1⟩ := HP.out.new hnr.out
      go_wp2_with fail
      refine (KTi.out _ (n0.out.trans hnr.out)).mono ?_
      rintro e w4 ⟨rfl, n4⟩
      have N4 := Lib.hid (hnr.out.trans n4)
      replace hown := Lib.hid (own_new hown.out n4)
      clear n4 KTi g0 g1 p0 p1
      go_upto_region 7 with fail
      refine Code.at (fun W5 hW => ?_)
      have n5 : New w4 W5 := by subst hW; (repeat (first | (with_reducible exact New.refl _) | (with_reducible assumption) | ((with_reducible refine New.setB ?_ ?_ _); focus (first | omega | (simp; omega) | (simp; done))) | (with_reducible refine New.alloc ?_ _) | (with_reducible refine New.drew ?_) | (with_reducible refine New.drewN ?_ _) | (with_reducible refine New.hat ?_ _) | ((with_reducible apply New.snart); (with_reducible assumption))))
      have HQ : Hid (SpAt (spO o1) W5 w4.heap.size) := Lib.hid (by subst hW; exact ⟨by go_simp, by go_simp⟩)
      clear hW
      replace N4 := Lib.hid (N4.out.trans n5)
      replace hown := Lib.hid (own_new hown.out n5)
      clear n5
      go_upto_if 23 with fail
      go_cut [5] (fun s5 Z => ∃ (ra : Option Addr) (rn rc : Nat), s5 = .slice ra rn rc ∧ Z.ownsRow base 85 2 (.slice ra rn rc) (l0 ++ o1.toList).length ((l0 ++ o1.toList).flatMap Sp.enc) ∧ New W Z)
      case first =>
        rcases o1 with _ | t
        · have ho : Hid (W5.ownsRow base 85 2 (.slice ra rn rc) (l0 ++ (none : Option Sp).toList).length ((l0 ++ (none : Option Sp).toList).flatMap Sp.enc)) := Lib.hid (by simpa using hown.out)
          simp only [Option.isSome_none]
          go_wp2_with fail
          go_meet
          exact ⟨ra, rn, rc, rfl, ho.out, N4.out⟩
        · obtain ⟨q0, q1⟩ := HQ.out
          have hb : base ≤ W5.heap.size := by rw [HB.out]; exact N4.out.size
          simp only [Option.isSome_some]
          go_wp2_with (at_builtin; refine wpList_append_sl rfl _ _ 96 rfl Sp.enc_len Sp.enc_one base 85 i0 _ 16 Tryd.underlying96 hi0 hz0 hz1 hz2 rfl (by decide) _ l0 rfl (own_new hown.out ((New.refl _).alloc _)) _ [t] rfl (sp_new _ t _) (by unfold maxLen; simp; omega) (by simp; omega) (by simp; omega) ?_; intro v' w1 hown' hnew _; obtain ⟨a', d', N', hN', rfl⟩ := own_shape2 hown'; clear hN'; have nw1 := hnew W (N4.out.trans ((New.refl _).alloc _)) (Nat.le_of_eq HB.out.symm))
          go_meet
          exact ⟨_, _, _, rfl, hown', nw1⟩
      case rest =>
        obtain ⟨ra', rn', rc', rfl, hown5, hN5⟩ := hcut
        have HO5 := Lib.hid hown5
        have HN5 := Lib.hid hN5
        clear hown hown5 hN5 N4 HQ hnr
        rename World => W6
        obtain ⟨l1, hl1⟩ : ∃ q, q = l0 ++ o1.toList := ⟨_, rfl⟩
        rw [← hl1] at HO5 HSI
        have hl1l : l1.length ≤ 2 * i + 1 := by rw [hl1, List.length_append]; have := optLen o1; omega
        clear hl1 hli
        obtain ⟨g0, g1⟩ := HG.out.new HN5.out
        obtain ⟨p0, p1⟩ := HP.out.new HN5.out
        have hwl := World.block_lt_of_cell? _ _ g0
        go_upto_region 9 with fail
        refine wp_region_loose_e 12 10 (dgV W6.heap.size (.agg #[.int .i64 wd, .slice la n lc]) (.agg #[.int .i64 ((s.c : Nat) : Int), .int .i64 ((s.k : Nat) : Int)]) (.agg #[.int .i64 (((spO o2).c : Nat) : Int), .int .i64 (((spO o2).k : Nat) : Int)]) 85 i ne o2.isSome) (by kernel_rfl) (by kernel_rfl) rfl rfl rfl rfl rfl (by decide) (fun _ _ h => by cases h) dgV_keep ?_ ?_ ?_
        · intro j o hj ho a' w' nn hr hd
          rcases (show j = 0 ∨ j = 1 ∨ j = 2 ∨ j = 3 ∨ j = 4 ∨ j = 5 ∨ j = 6 ∨ j = 7 ∨ j = 8 ∨ j = 9 ∨ j = 10 ∨ j = 11 by omega) with rfl | rfl | rfl | rfl | rfl | rfl | rfl | rfl | rfl | rfl | rfl | rfl <;> obtain rfl := Option.some.inj ho
          · have r : (a'.tmps[2]?).getD undef = .pointer (some ⟨w.heap.size, 0, none⟩) := (eval_get a' 2).symm.trans (hr 2 (by kernel_rfl))
            replace g0 := nn.keep g0
            replace g1 := nn.keep g1
            exact yields_value (.agg #[.int .i64 wd, .slice la n lc]) (by go_simp) ⟨New.refl _, rfl⟩
          · have r : (a'.tmps[3]?).getD undef = .pointer (some ⟨w.heap.size + 1, 0, none⟩) := (eval_get a' 3).symm.trans (hr 3 (by kernel_rfl))
            replace p0 := nn.keep p0
            replace p1 := nn.keep p1
            exact yields_value (.agg #[.int .i64 ((s.c : Nat) : Int), .int .i64 ((s.k : Nat) : Int)]) (by go_simp) ⟨New.refl _, rfl⟩
          · have r : (a'.tmps[7]?).getD undef = .int .i64 i := (eval_get a' 7).symm.trans (hr 7 (by kernel_rfl))
            exact yields_value (.int .i64 i) (by go_simp) ⟨New.refl _, rfl⟩
          · have r : (a'.tmps[7]?).getD undef = .int .i64 i := (eval_get a' 7).symm.trans (hr 7 (by kernel_rfl))
            exact yields_value (.int .i64 i) (by go_simp) ⟨New.refl _, rfl⟩
          · have e3 : a'.eval (.tmp 32) = .int .i64 i := hd 3 32 (by omega) (by kernel_rfl) (by kernel_rfl)
            have r : (a'.tmps[32]?).getD undef = _ := (eval_get a' 32).symm.trans e3
            exact yields_value (.int .i64 (i + 1)) (by go_simp) ⟨New.refl _, rfl⟩
          · have r : (a'.tmps[6]?).getD undef = .int .i64 4 := (eval_get a' 6).symm.trans (hr 6 (by kernel_rfl))
            exact yields_value (.int .i64 4) (by go_simp) ⟨New.refl _, rfl⟩
          · have e4 : a'.eval (.tmp 33) = .int .i64 (i + 1) := hd 4 33 (by omega) (by kernel_rfl) (by kernel_rfl)
            have e5 : a'.eval (.tmp 34) = .int .i64 4 := hd 5 34 (by omega) (by kernel_rfl) (by kernel_rfl)
            have r : (a'.tmps[33]?).getD undef = _ := (eval_get a' 33).symm.trans e4
            have r2 : (a'.tmps[34]?).getD undef = _ := (eval_get a' 34).symm.trans e5
            exact yields_value (.int .i64 ne) (by go_simp) ⟨New.refl _, rfl⟩
          · have e0 : a'.eval (.tmp 29) = .agg #[.int .i64 wd, .slice la n lc] := hd 0 29 (by omega) (by kernel_rfl) (by kernel_rfl)
            have e1 : a'.eval (.tmp 30) = .agg #[.int .i64 ((s.c : Nat) : Int), .int .i64 ((s.k : Nat) : Int)] := hd 1 30 (by omega) (by kernel_rfl) (by kernel_rfl)
            have e2 : a'.eval (.tmp 31) = .int .i64 i := hd 2 31 (by omega) (by kernel_rfl) (by kernel_rfl)
            have e6 : a'.eval (.tmp 35) = .int .i64 ne := hd 6 35 (by omega) (by kernel_rfl) (by kernel_rfl)
            have r0 : (a'.tmps[29]?).getD undef = _ := (eval_get a' 29).symm.trans e0
            have r1 : (a'.tmps[30]?).getD undef = _ := (eval_get a' 30).symm.trans e1
            have r2 : (a'.tmps[31]?).getD undef = _ := (eval_get a' 31).symm.trans e2
            have r6 : (a'.tmps[35]?).getD undef = _ := (eval_get a' 35).symm.trans e6
            exact yields_enter 64 #[.agg #[.int .i64 wd, .slice la n lc], .agg #[.int .i64 ((s.c : Nat) : Int), .int .i64 ((s.k : Nat) : Int)], .int .i64 i, .int .i64 ne] (by go_simp) ((KDi.out w' (n0.out.trans (HN5.out.trans nn))).mono fun e w'' ⟨he, hn⟩ => ⟨_, he, hn, rfl⟩)
          · have e7 : a'.eval (.tmp 36) = .tuple #[.agg #[.int .i64 (((spO o2).c : Nat) : Int), .int .i64 (((spO o2).k : Nat) : Int)], .bool o2.isSome] := hd 7 36 (by omega) (by kernel_rfl) (by kernel_rfl)
            have r : (a'.tmps[36]?).getD undef = _ := (eval_get a' 36).symm.trans e7
            exact yields_value (.tuple #[.agg #[.int .i64 (((spO o2).c : Nat) : Int), .int .i64 (((spO o2).k : Nat) : Int)], .bool o2.isSome]) (by go_simp) ⟨New.refl _, rfl⟩
          · have e7 : a'.eval (.tmp 28) = .tuple #[.agg #[.int .i64 (((spO o2).c : Nat) : Int), .int .i64 (((spO o2).k : Nat) : Int)], .bool o2.isSome] := hd 8 28 (by omega) (by kernel_rfl) (by kernel_rfl)
            have r : (a'.tmps[28]?).getD undef = _ := (eval_get a' 28).symm.trans e7
            exact yields_value (.agg #[.int .i64 (((spO o2).c : Nat) : Int), .int .i64 (((spO o2).k : Nat) : Int)]) (by go_simp) ⟨New.refl _, rfl⟩
          · have e7 : a'.eval (.tmp 28) = .tuple #[.agg #[.int .i64 (((spO o2).c : Nat) : Int), .int .i64 (((spO o2).k : Nat) : Int)], .bool o2.isSome] := hd 8 28 (by omega) (by kernel_rfl) (by kernel_rfl)
            have r : (a'.tmps[28]?).getD undef = _ := (eval_get a' 28).symm.trans e7
            exact yields_value (.bool o2.isSome) (by go_simp) ⟨New.refl _, rfl⟩
          · exact yields_value (w' := w'.alloc (.cells #[.int .i64 0, .int .i64 0] 85)) (.pointer (some ⟨w'.heap.size, 0, none⟩)) (by go_simp) ⟨(New.refl _).alloc _, _, _, rfl, heap_new _ _, rfl, nn.size⟩
        · intro a' w' nn hd
          have e7 : a'.eval (.tmp 28) = .tuple #[.agg #[.int .i64 (((spO o2).c : Nat) : Int), .int .i64 (((spO o2).k : Nat) : Int)], .bool o2.isSome] := hd 8 28 (by omega) (by kernel_rfl) (by kernel_rfl)
          have r : (a'.tmps[28]?).getD undef = _ := (eval_get a' 28).symm.trans e7
          exact ⟨.bool o2.isSome, fun W => by go_simp⟩
        · intro vs w' nn hv
          have e0 : vs 0 = .agg #[.int .i64 wd, .slice la n lc] := hv 0 (by omega)
          have e1 : vs 1 = .agg #[.int .i64 ((s.c : Nat) : Int), .int .i64 ((s.k : Nat) : Int)] := hv 1 (by omega)
          have e2 : vs 2 = .int .i64 i := hv 2 (by omega)
          have e3 : vs 3 = .int .i64 i := hv 3 (by omega)
          have e4 : vs 4 = .int .i64 (i + 1) := hv 4 (by omega)
          have e5 : vs 5 = .int .i64 4 := hv 5 (by omega)
          have e6 : vs 6 = .int .i64 ne := hv 6 (by omega)
          have e7 : vs 7 = .tuple #[.agg #[.int .i64 (((spO o2).c : Nat) : Int), .int .i64 (((spO o2).k : Nat) : Int)], .bool o2.isSome] := hv 7 (by omega)
          have e8 : vs 8 = .tuple #[.agg #[.int .i64 (((spO o2).c : Nat) : Int), .int .i64 (((spO o2).k : Nat) : Int)], .bool o2.isSome] := hv 8 (by omega)
          have e9 : vs 9 = .agg #[.int .i64 (((spO o2).c : Nat) : Int), .int .i64 (((spO o2).k : Nat) : Int)] := hv 9 (by omega)
          have e10 : vs 10 = .bool o2.isSome := hv 10 (by omega)
          obtain ⟨g, cs, e11, hg, hcs, hgZ⟩ : ∃ g cs, vs 11 = .pointer (some ⟨g, 0, none⟩) ∧ w'.heap[g]? = some (.cells cs 85 (0, 0)) ∧ cs.size = 2 ∧ W6.heap.size ≤ g := hv 11 (by omega)
          simp only [List.take_succ_cons, List.take_zero, List.drop_succ_cons, List.drop_zero, putL, Act.put, List.setIfInBounds_toArray, List.set_cons_zero, List.set_cons_succ, Nat.reduceAdd, Nat.zero_add]
          rw [e0, e1, e2, e3, e4, e5, e6, e7, e8, e9, e10, e11]
          have key : ∀ (op : Oper) (x : Act), op.op = .store 85 (.tmp 10) (.tmp 37) → x.eval (.tmp 10) = .pointer (some ⟨g, 0, none⟩) → x.eval (.tmp 37) = .agg #[.int .i64 (((spO o2).c : Nat) : Int), .int .i64 (((spO o2).k : Nat) : Int)] → ∃ W, (execOp x.eval op).run Tryd.prog w' = .ok .skip W ∧ New W6 W ∧ CellsAt W g 0 #[.int .i64 (((spO o2).c : Nat) : Int), .int .i64 (((spO o2).k : Nat) : Int)].toList := by
            intro op x ho hx hy
            obtain ⟨Y, hrun, nY, kY, cY⟩ := store_blk_run (P := Tryd.prog) (w := w') 85 _ _ ho g #[.int .i64 (((spO o2).c : Nat) : Int), .int .i64 (((spO o2).k : Nat) : Int)] hx hy (thr_of hg hcs) (by kernel_rfl) (by intro v hv; simp at hv; rcases hv with rfl | rfl <;> rfl)
            exact ⟨Y, hrun, nY _ nn hgZ, cY⟩
          refine Exists.elim (key _ _ ?_ ?_ ?_) (fun Y hY => ⟨Y, hY.1, ?_⟩)
          · rfl
          · rfl
          · rfl
          obtain ⟨-, nY, hcY⟩ := hY
          have y0 : Y.cell? ⟨g, 0, none⟩ = some (.int .i64 (((spO o2).c : Nat) : Int)) := hcY 0 (by show 0 < 2; omega)
          have y1 : Y.cell? ⟨g, 1, none⟩ = some (.int .i64 (((spO o2).k : Nat) : Int)) := hcY 1 (by show 1 < 2; omega)
          have HNY := Lib.hid (HN5.out.trans nY)
          have HOY := Lib.hid (own_new HO5.out nY)
          have hb : base ≤ Y.heap.size := by rw [HB.out]; exact HNY.out.size
          clear hv e0 e1 e2 e3 e4 e5 e6 e7 e8 e9 e10 e11 hg hcs hgZ nn key hcY nY g0 g1 p0 p1 HO5 HN5 KDi
          rcases o2 with _ | t
          · have hnx : Hid (Y.ownsRow base 85 2 (.slice ra' rn' rc') (ar (i + 1)).length ((ar (i + 1)).flatMap Sp.enc)) := Lib.hid (by
              rw [HSI.out]
              simpa using HOY.out)
            simp only [Option.isSome_none]
            go_wp2_with fail
            go_roundg (4 - (i + 1))
            case measure => omega
            case rel => exact ⟨i + 1, ra', rn', rc', by go_num, rfl, by omega, by omega, hnx, HNY⟩
          · have ht : spO (some t) = t := rfl
            rw [ht] at y0 y1
            simp only [Option.isSome_some]
            rw [ht]
            clear ht
            go_wp2_with (at_builtin; refine wpList_append_sl rfl _ _ 96 rfl Sp.enc_len Sp.enc_one base 85 i0 _ 16 Tryd.underlying96 hi0 hz0 hz1 hz2 rfl (by decide) _ l1 rfl (own_new HOY.out ((New.refl _).alloc _)) _ [t] rfl (sp_new _ t _) (by unfold maxLen; simp; omega) (by simp; omega) (by simp; omega) ?_; intro v' w1 hown' hnew _; obtain ⟨a', d', N', hN', rfl⟩ := own_shape2 hown'; clear hN'; have nw1 := hnew W (HNY.out.trans ((New.refl _).alloc _)) (Nat.le_of_eq HB.out.symm))
            have hnx : Hid (w1.ownsRow base 85 2 (.slice a' N' d') (ar (i + 1)).length ((ar (i + 1)).flatMap Sp.enc)) := Lib.hid (by
              rw [HSI.out]
              exact hown')
            go_roundg (4 - (i + 1))
            case measure => omega
            case rel => exact ⟨i + 1, a', N', d', by go_num, rfl, by omega, by omega, hnx, Lib.hid nw1⟩
    · obtain rfl : i = 4 := by omega
      have hsl := own_sl Sp.enc_len hown.out
      have hnn := n0.out.trans hnr.out
      obtain ⟨a1, c1, e1, -⟩ := id hsl
      injection e1 with e1 e2 e3
      subst e1 e2 e3
      have hob : ∀ g, (Value.slice ra (ar 4).length rc).ownBlock = some g → w.heap.size ≤ g := fun g e => by
        have h1 := own_block hown.out g e
        have h2 := HB.out
        have h3 := n0.out.size
        omega
      have HSL := Lib.hid (And.intro hsl (And.intro hob hnn))
      clear hown hsl hnn hob
      go_wp2_with fail
      go_ret
      exact ⟨_, _, rfl, HSL.out.1, HSL.out.2.1, HSL.out.2.2⟩

end Go.Proofs.YtgoggogcbjfofaaDoor
