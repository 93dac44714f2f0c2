import Derived.Test.YtgoggogcbjfofaaDoorFdEY14
import Derived.Test.YtgoggogcbjfofaaDoorLkCY14
import Derived.Deep.DeepCutAuto

/- The document's Step, Eight. -/
namespace Go.Proofs.YtgoggogcbjfofaaDoor
open Go.RowKit
set_option linter.unusedVariables false

/-- Where a floor leads, or anything beside a false. -/
def StepV (o : Option Sp) (w : World) (e : Ending) (w' : World) : Prop := ∃ v0 v1 : Int, e = .returned (.tuple #[.agg #[.int .i64 v0, .int .i64 v1], .bool o.isSome]) ∧ (∀ t, o = some t → v0 = ((t.c : Nat) : Int) ∧ v1 = ((t.k : Nat) : Int)) ∧ New w w'

set_option maxHeartbeats 8000000 in
set_option maxRecDepth 100000 in
theorem fr_Step (N : Net) (G : Gd) (hw : G.w = ((N.W : Nat) : Int)) (la : Option Addr) (lc : Nat) (s : Sp) (hs : SpIn N.M s) (d : Int) (hd : okD d = true) (w0 w : World) (hn0 : New w0 w) (h : RowsK Lk.enc 4 w0 (.slice la N.M.length lc) N.M) : Calls Tryd.prog 41 #[.agg #[.int .i64 G.x, .int .i64 G.z, .int .i64 G.w, .int .i64 G.d, .slice G.ga G.L.length G.gc], .slice la N.M.length lc, .agg #[.int .i64 ((s.c : Nat) : Int), .int .i64 ((s.k : Nat) : Int)], .int .i64 d] w (StepV (N.go s d) w) := by
  have KS := Lib.hid (fun W => lr_Step d W)
  unfold stV at KS
  rw [hd] at KS
  have hs1 : s.c < N.M.length := hs.1
  obtain ⟨b, off, a, c, rfl, hc, hsl⟩ := (h.keep hn0).at s.c hs.1
  obtain ⟨-, -, -, -, hrow⟩ := hsl.row'
  have hcol := colM_at hs.1
  have hk : s.k < N.M[s.c].length := by rw [← hcol]; exact hs.2
  obtain ⟨b2, o2, rfl, hA⟩ := hrow (by omega)
  obtain ⟨e0, e1, e2, e3⟩ := Lk.cells hA s.k hk
  have hx := N.is s hs d hd
  have hat := Lib.hid (fun t q => N.lead s hs d t q)
  have hsm := N.small hs
  have hx2 : N.M[s.c][s.k] = (colM N.M s.c)[s.k]'hs.2 := by simp only [hcol]
  rw [hx2] at e0 e1 e2 e3
  clear hx2 hA hrow
  generalize (colM N.M s.c)[s.k]'hs.2 = x at *
  obtain ⟨m, hm⟩ : ∃ m, m = N.M[s.c].length := ⟨_, rfl⟩
  rw [← hm] at hc hk
  have hN1 : N.W ≤ 64 := N.wle
  have hN2 := N.len
  have hN3 := hs.1
  obtain ⟨o, ho⟩ : ∃ o, o = N.go s d := ⟨_, rfl⟩
  rw [← ho] at hx hat ⊢
  obtain ⟨W, hW⟩ : ∃ W, W = N.W := ⟨_, rfl⟩
  rw [← hW] at hat hN1 hw
  obtain ⟨n, hn⟩ : ∃ n, n = N.M.length := ⟨_, rfl⟩
  rw [← hn] at hN2 hN3 ⊢
  obtain ⟨gn, hgn⟩ : ∃ n, n = G.L.length := ⟨_, rfl⟩
  rw [← hgn]
  rw [hw]
  clear ho hW hn hm hsl h hn0 hs hcol hs1 hgn hw
  obtain ⟨sc, sk⟩ := s
  simp only at *
  have hd1 := dxD_small d
  have hd2 := dzD_small d
  obtain ⟨l, hl⟩ : ∃ l, l = lkD x d := ⟨_, rfl⟩
  have hcell : w.cell? ⟨b2, o2 + sk * 4 + d.toNat, none⟩ = some (.int .i64 l) := by
    rcases okD_cases hd with rfl | rfl | rfl | rfl <;> rw [hl] <;> first | exact e0 | exact e1 | exact e2 | exact e3
  rw [← hl] at hx
  clear hl e0 e1 e2 e3
  have hdr : 0 ≤ d ∧ d ≤ 3 := wiB_iff.1 hd
  obtain ⟨dn, rfl⟩ : ∃ dn : Nat, d = dn := ⟨d.toNat, by omega⟩
  simp only [Int.toNat_natCast] at hcell
  obtain ⟨Q, hQ⟩ : ∃ Q, Q = StepV o w := ⟨_, rfl⟩
  rw [← hQ]
  have HQ := Lib.hid hQ
  clear hQ
  go_enter Tryd.func41, Tryd.ntmps41
  go_upto_region 1 with fail
  refine Code.at (fun W1 hW => ?_)
  have n0 : New w W1 := by subst hW; (repeat (first | (with_reducible exact New.refl _) | (with_reducible assumption) | ((with_reducible refine New.setB ?_ ?_ _); focus (first | omega | (simp; omega) | (simp; done))) | (with_reducible refine New.alloc ?_ _) | (with_reducible refine New.drew ?_) | (with_reducible refine New.drewN ?_ _) | (with_reducible refine New.hat ?_ _) | ((with_reducible apply New.snart); (with_reducible assumption))))
  have HG : Hid (W1.cell? ⟨w.heap.size, 2, none⟩ = some (.int .i64 ((W : Nat) : Int))) := Lib.hid (by subst hW; go_simp)
  have HS : Hid (SpAt ⟨sc, sk⟩ W1 (w.heap.size + 1)) := Lib.hid (by subst hW; exact ⟨by go_simp, by go_simp⟩)
  have HZ : Hid (Res2 W1 (w.heap.size + 1 + 1)) := Lib.hid (by subst hW; exact ⟨by go_simp, by go_simp, by go_simp, by go_simp⟩)
  clear hW
  replace hc := n0.keep hc
  replace hcell := n0.keep hcell
  obtain ⟨s0, s1⟩ := HS.out
  simp only at s0 s1
  (refine wp_region_hat (by kernel_rfl) (by kernel_rfl) ?_; intro hatc hatf; (repeat (go_big_quiet_step ((fail)))); refine wpQuiet_nil ?_; rintro _ ⟨q, rfl⟩)
  replace HG := Lib.hid (New.keep q.h HG.out)
  replace HS := Lib.hid (HS.out.new q.h)
  replace HZ := Lib.hid (HZ.out.new q.h)
  have N1 := Lib.hid (n0.trans q.h)
  clear hatc hatf s0 s1 hc hcell n0
  generalize q.w = w4 at *
  clear q
  rcases o with _ | t
  · simp only at hx
    subst hx
    go_wp2_with fail
    refine (KS.out _).mono ?_
    rintro e w5 ⟨rfl, n5⟩
    have g2 := n5.keep HG.out
    replace HS := HS.out.new n5
    replace HZ := HZ.out.new n5
    replace N1 := N1.out.trans n5
    clear n5 KS HG
    obtain ⟨s0, s1⟩ := HS
    obtain ⟨z0, z1, f0, f1⟩ := HZ
    simp only at s0 s1
    obtain ⟨dx, hdx⟩ : ∃ q, q = dxD ((dn : Nat) : Int) := ⟨_, rfl⟩
    obtain ⟨dz, hdz⟩ : ∃ q, q = dzD ((dn : Nat) : Int) := ⟨_, rfl⟩
    rw [← hdx] at hd1 hat
    rw [← hdz] at hd2 hat
    rw [← hdx, ← hdz]
    have hm1 : -64 ≤ dz * W ∧ dz * W ≤ 64 := by
      rcases (show dz = -1 ∨ dz = 0 ∨ dz = 1 by omega) with rfl | rfl | rfl <;> omega
    have hw1 : IntKind.i64.wrap (dz * (W : Nat)) = dz * W := IntWalk.i64_in _ (by omega)
    have hw2 : IntKind.i64.wrap ((sc : Nat) + dz * (W : Nat)) = sc + dz * W := IntWalk.i64_in _ (by omega)
    have hw3 : IntKind.i64.wrap ((sc : Nat) + dz * (W : Nat) + dx) = sc + dz * W + dx := IntWalk.i64_in _ (by omega)
    clear hdx hdz hd1 hd2 hm1
    have HW1 := Lib.hid hw1
    have HN1 := N1
    clear hat
    go_wp2_with fail
    generalize hW5 : World.setCell _ _ _ = W5
    have n5 : New w W5 := by subst hW5; (repeat (first | (with_reducible exact New.refl _) | (with_reducible assumption) | ((with_reducible refine New.setB ?_ ?_ _); focus (first | omega | (simp; omega) | (simp; done))) | (with_reducible refine New.alloc ?_ _) | (with_reducible refine New.drew ?_) | (with_reducible refine New.drewN ?_ _) | (with_reducible refine New.hat ?_ _) | ((with_reducible apply New.snart); (with_reducible assumption))))
    have k0 : W5.cell? ⟨w.heap.size + 1 + 1, 0, none⟩ = some (.int .i64 ((sc : Nat) + dz * W + dx)) := by subst hW5; go_simp
    have k1 : W5.cell? ⟨w.heap.size + 1 + 1, 1, none⟩ = some (.int .i64 (-1)) := by subst hW5; go_simp
    clear hW5 z0 z1 f0 f1
    refine bodyPost_ret (v := .tuple #[.agg #[.int .i64 ((sc : Nat) + dz * W + dx), .int .i64 (-1)], .bool false]) (by simp [results, Tryd.results41, go_sem, *]) rfl ?_
    rw [HQ.out]
    exact ⟨_, _, rfl, fun t h => (by cases h), n5⟩
  · simp only at hx
    subst hx
    go_wp2_with fail
    refine (KS.out _).mono ?_
    rintro e w5 ⟨rfl, n5⟩
    have g2 := n5.keep HG.out
    replace HS := HS.out.new n5
    replace HZ := HZ.out.new n5
    replace N1 := N1.out.trans n5
    clear n5 KS HG
    obtain ⟨s0, s1⟩ := HS
    obtain ⟨z0, z1, f0, f1⟩ := HZ
    simp only at s0 s1
    obtain ⟨dx, hdx⟩ : ∃ q, q = dxD ((dn : Nat) : Int) := ⟨_, rfl⟩
    obtain ⟨dz, hdz⟩ : ∃ q, q = dzD ((dn : Nat) : Int) := ⟨_, rfl⟩
    rw [← hdx] at hd1 hat
    rw [← hdz] at hd2 hat
    rw [← hdx, ← hdz]
    have hm1 : -64 ≤ dz * W ∧ dz * W ≤ 64 := by
      rcases (show dz = -1 ∨ dz = 0 ∨ dz = 1 by omega) with rfl | rfl | rfl <;> omega
    have hw1 : IntKind.i64.wrap (dz * (W : Nat)) = dz * W := IntWalk.i64_in _ (by omega)
    have hw2 : IntKind.i64.wrap ((sc : Nat) + dz * (W : Nat)) = sc + dz * W := IntWalk.i64_in _ (by omega)
    have hw3 : IntKind.i64.wrap ((sc : Nat) + dz * (W : Nat) + dx) = sc + dz * W + dx := IntWalk.i64_in _ (by omega)
    clear hdx hdz hd1 hd2 hm1
    have htc := (hat.out t rfl).2
    have e : ((sc : Nat) : Int) + dz * W + dx = ((t.c : Nat) : Int) := by rw [htc]; omega
    have hge : decide (0 ≤ ((t.k : Nat) : Int)) = true := decide_eq_true (by omega)
    replace hw3 : IntKind.i64.wrap ((sc : Nat) + dz * (W : Nat) + dx) = ((t.c : Nat) : Int) := by rw [hw3, e]
    clear hat e htc
    go_wp2_with fail
    generalize hW5 : World.setCell _ _ _ = W5
    have n5 : New w W5 := by subst hW5; (repeat (first | (with_reducible exact New.refl _) | (with_reducible assumption) | ((with_reducible refine New.setB ?_ ?_ _); focus (first | omega | (simp; omega) | (simp; done))) | (with_reducible refine New.alloc ?_ _) | (with_reducible refine New.drew ?_) | (with_reducible refine New.drewN ?_ _) | (with_reducible refine New.hat ?_ _) | ((with_reducible apply New.snart); (with_reducible assumption))))
    have k0 : W5.cell? ⟨w.heap.size + 1 + 1, 0, none⟩ = some (.int .i64 ((t.c : Nat) : Int)) := by subst hW5; go_simp
    have k1 : W5.cell? ⟨w.heap.size + 1 + 1, 1, none⟩ = some (.int .i64 ((t.k : Nat) : Int)) := by subst hW5; go_simp
    clear hW5 z0 z1 f0 f1
    refine bodyPost_ret (v := .tuple #[.agg #[.int .i64 ((t.c : Nat) : Int), .int .i64 ((t.k : Nat) : Int)], .bool true]) (by simp [results, Tryd.results41, go_sem, *]) rfl ?_
    rw [HQ.out]
    exact ⟨_, _, rfl, fun u h => (by injection h with h; subst h; exact ⟨rfl, rfl⟩), n5⟩

end Go.Proofs.YtgoggogcbjfofaaDoor

/- The document's Eight. -/
namespace Go.Proofs.YtgoggogcbjfofaaDoor
open Go.RowKit
set_option linter.unusedVariables false

theorem sr_info : (Tryd.prog.info? 49).map (fun i => (i.zero, i.size, i.bytes)) = some (some (.agg #[.int .i64 0, .int .i64 0]), 2, 16) := by kernel_rfl
theorem sr_neq (w : World) (a b : Sp) : (binOp .neq 49 (.agg #[.int .i64 ((a.c : Nat) : Int), .int .i64 ((a.k : Nat) : Int)]) (.agg #[.int .i64 ((b.c : Nat) : Int), .int .i64 ((b.k : Nat) : Int)])).run Tryd.prog w = .ok (.bool (!a.eqB b)) w := by
  unfold Sp.eqB
  cases h1 : ((a.c : Int) == (b.c : Int)) <;> cases h2 : ((a.k : Int) == (b.k : Int)) <;> (go_simp)
/-- What Eight tells. -/
def EightV (b : Bool) (l : List Sp) (w : World) (e : Ending) (w' : World) : Prop := ∃ v, e = .returned (.tuple #[v, .bool b]) ∧ Sl Sp.enc 2 w' v (if b = true then l else []) ∧ New w w'

set_option maxHeartbeats 16000000 in
set_option maxRecDepth 100000 in
theorem fr_Eight (N : Net) (G : Gd) (hw : G.w = ((N.W : Nat) : Int)) (la : Option Addr) (lc : Nat) (s : Sp) (hs : SpIn N.M s) (w0 w : World) (hn0 : New w0 w) (h : RowsK Lk.enc 4 w0 (.slice la N.M.length lc) N.M) : Calls Tryd.prog 23 #[.agg #[.int .i64 G.x, .int .i64 G.z, .int .i64 G.w, .int .i64 G.d, .slice G.ga G.L.length G.gc], .slice la N.M.length lc, .agg #[.int .i64 ((s.c : Nat) : Int), .int .i64 ((s.k : Nat) : Int)]] w (EightV (fulP N.go s) (arP N.go s) w) := by
  obtain ⟨i0, hi0, hz0, hz1, hz2⟩ := info_parts sr_info
  have KT := Lib.hid (fun s hs d hd W (q : New w W) => fr_Step N G hw la lc s hs d hd w0 W (hn0.trans q) h)
  have HI := Lib.hid (fun d t (q : N.go s d = some t) => (N.lead s hs d t q).1)
  have HS : Hid (∀ n : Nat, arN N.go s (n + 1) = (arN N.go s n ++ (N.go s n).toList) ++ (diaP N.go s n (nextD n)).toList) := Lib.hid (fun n => rfl)
  have HL := Lib.hid (fun n => arN_len (go := N.go) s n)
  have HDI : Hid (∀ d e, diaP N.go s d e = bothP (rndP N.go s d e) (rndP N.go s e d)) := Lib.hid (fun d e => rfl)
  have HFU := Lib.hid (fulP_iff (go := N.go) (s := s))
  have HR1 : Hid (∀ d e m, N.go s d = some m → rndP N.go s d e = N.go m e) := Lib.hid (fun d e m q => by unfold rndP; rw [q])
  have HR0 : Hid (∀ d e, N.go s d = none → diaP N.go s d e = none ∧ diaP N.go s e d = none) := Lib.hid (fun d e q => by
    have h0 : rndP N.go s d e = none := by unfold rndP; rw [q]
    unfold diaP
    rw [h0]
    refine ⟨by unfold bothP; rfl, ?_⟩
    rw [bothP_comm]
    unfold bothP
    rfl)
  unfold StepV at KT
  obtain ⟨n, hn⟩ : ∃ n, n = N.M.length := ⟨_, rfl⟩
  rw [← hn] at KT ⊢
  obtain ⟨gn, hgn⟩ : ∃ q, q = G.L.length := ⟨_, rfl⟩
  rw [← hgn] at KT ⊢
  have hok : Hid (∀ i : Nat, i < 4 → okD i = true ∧ okD (nextD i) = true ∧ ∃ j : Nat, nextD i = j ∧ j < 4) := Lib.hid (fun i hi => by
    rcases (show i = 0 ∨ i = 1 ∨ i = 2 ∨ i = 3 by omega) with rfl | rfl | rfl | rfl
    · exact ⟨by decide, by decide, 1, rfl, by omega⟩
    · exact ⟨by decide, by decide, 2, rfl, by omega⟩
    · exact ⟨by decide, by decide, 3, rfl, by omega⟩
    · exact ⟨by decide, by decide, 0, rfl, by omega⟩)
  obtain ⟨fb, hfb⟩ : ∃ q, q = fulP N.go s := ⟨_, rfl⟩
  rw [← hfb] at HFU ⊢
  have HF : Hid (fb = true ↔ 8 ≤ (arN N.go s 4).length) := Lib.hid (by rw [hfb]; unfold fulP arP; rw [decide_eq_true_eq])
  obtain ⟨Q, hQ⟩ : ∃ Q, Q = EightV fb (arP N.go s) w := ⟨_, rfl⟩
  rw [← hQ]
  have HQ := Lib.hid hQ
  unfold arP EightV at HQ
  clear hn hgn h hn0 hfb hQ hw
  have H0 : Hid (arN N.go s 0 = []) := Lib.hid rfl
  generalize arN N.go s = ar at *
  generalize diaP N.go s = dn at *
  generalize rndP N.go s = rn at *
  have KT0 := Lib.hid (fun d hd W q => KT.out s hs d hd W q)
  clear hs
  generalize N.go s = tn at *
  go_enter Tryd.func23, Tryd.ntmps23
  go_upto_region 1 with fail
  refine Code.at (fun W hW => ?_)
  have n0 : Hid (New w W) := Lib.hid (by subst hW; (repeat (first | (with_reducible exact New.refl _) | (with_reducible assumption) | ((with_reducible refine New.setB ?_ ?_ _); focus (first | omega | (simp; omega) | (simp; done))) | (with_reducible refine New.alloc ?_ _) | (with_reducible refine New.drew ?_) | (with_reducible refine New.drewN ?_ _) | (with_reducible refine New.hat ?_ _) | ((with_reducible apply New.snart); (with_reducible assumption)))))
  have g0 : W.cell? ⟨w.heap.size, 0, none⟩ = some (.int .i64 G.x) := by subst hW; go_simp
  have g1 : W.cell? ⟨w.heap.size, 1, none⟩ = some (.int .i64 G.z) := by subst hW; go_simp
  have g2 : W.cell? ⟨w.heap.size, 2, none⟩ = some (.int .i64 G.w) := by subst hW; go_simp
  have g3 : W.cell? ⟨w.heap.size, 3, none⟩ = some (.int .i64 G.d) := by subst hW; go_simp
  have g4 : W.cell? ⟨w.heap.size, 4, none⟩ = some (.slice G.ga gn G.gc) := by subst hW; go_simp
  have p0 : W.cell? ⟨w.heap.size + 1, 0, none⟩ = some (.int .i64 ((s.c : Nat) : Int)) := by subst hW; go_simp
  have p1 : W.cell? ⟨w.heap.size + 1, 1, none⟩ = some (.int .i64 ((s.k : Nat) : Int)) := by subst hW; go_simp
  clear hW
  have HG := Lib.hid (fun W2 (q : New W W2) => And.intro (q.keep g0) (And.intro (q.keep g1) (And.intro (q.keep g2) (And.intro (q.keep g3) (And.intro (q.keep g4) (And.intro (q.keep p0) (q.keep p1)))))))
  clear g0 g1 g2 g3 g4 p0 p1
  obtain ⟨base, hbase⟩ : ∃ q, q = W.heap.size := ⟨_, rfl⟩
  have HB := Lib.hid hbase
  clear hbase
  go_wp2_with fail
  go_loopg [9, 8] 4 (fun gk s9 s8 wr => ∃ (i : Nat) (ra : Option Addr) (rn rc : Nat), s9 = .int .i64 i ∧ s8 = .slice ra rn rc ∧ i ≤ 4 ∧ 4 - i ≤ gk ∧ Hid (wr.ownsRow base 49 2 (.slice ra rn rc) (ar i).length ((ar i).flatMap Sp.enc) ∧ (ar i).length = 2 * i) ∧ Hid (New W wr))
  case atStart => exact ⟨0, none, 0, 0, rfl, rfl, by omega, by omega, Lib.hid (by rw [H0.out]; exact ⟨World.ownsRow_nil _ _ _ _, rfl⟩), Lib.hid (New.refl _)⟩
  case round =>
    obtain ⟨i, ra, rn', rc, rfl, rfl, hi, hgk, hown, hnr⟩ := hrel
    by_cases hlt : i < 4
    · obtain ⟨hk1, hk2, j, hj, hj4⟩ := hok.out i hlt
      have K1 := Lib.hid (KT0.out i hk1)
      have K2 := Lib.hid (KT0.out (nextD i) hk2)
      have K3 := Lib.hid (fun m hm => KT.out m hm (nextD i) hk2)
      have K4 := Lib.hid (fun m hm => KT.out m hm i hk1)
      have HSI := Lib.hid (HS.out i)
      have HDD := Lib.hid (HDI.out i (nextD i))
      have HRA := Lib.hid (HR1.out i (nextD i))
      have HRB := Lib.hid (HR1.out (nextD i) i)
      have HRC := Lib.hid (HR0.out i (nextD i))
      have HRD := Lib.hid (HR0.out (nextD i) i)
      have HIA := Lib.hid (HI.out i)
      have HIB := Lib.hid (HI.out (nextD i))
      have HBAD : Hid (tn i = none ∨ dn i (nextD i) = none → fb = false) := Lib.hid (fun q => by
        cases e : fb
        · rfl
        · obtain ⟨⟨t, ht⟩, u, hu⟩ := HFU.out.1 e i hlt
          rcases q with q | q
          · rw [q] at ht; cases ht
          · rw [q] at hu; cases hu)
      have hw1 : IntKind.i64.wrap ((i : Int) + 1) = i + 1 := IntWalk.i64_in _ (by omega)
      have hrem : (Int.tmod ((i : Int) + 1) 4) = nextD i := rfl
      generalize nextD i = ne at *
      obtain ⟨oa, hoa⟩ : ∃ o, o = tn i := ⟨_, rfl⟩
      rw [← hoa] at K1 HSI HRA HRC HIA HBAD
      obtain ⟨ob, hob⟩ : ∃ o, o = tn ne := ⟨_, rfl⟩
      rw [← hob] at K2 HRB HRD HIB
      obtain ⟨od, hod⟩ : ∃ o, o = dn i ne := ⟨_, rfl⟩
      rw [← hod] at HSI HDD HRC HRD HBAD
      clear hk1 hk2 hoa hob hod hj hj4 j
      obtain ⟨g0, g1, g2, g3, g4, p0, p1⟩ := HG.out _ hnr.out
      go_wp2_with fail
      refine (K1.out _ (n0.out.trans hnr.out)).mono ?_
      rintro e w4 ⟨a0, a1, rfl, hA, n4⟩
      have N4 := Lib.hid (hnr.out.trans n4)
      have HA := Lib.hid hA
      have HO4 := Lib.hid (own_new hown.out.1 n4)
      have HLI := Lib.hid hown.out.2
      clear n4 K1 g0 g1 g2 g3 g4 p0 p1 hown hA hnr
      go_upto_region 6 with fail
      refine Code.at (fun W5 hW => ?_)
      have n5 : New w4 W5 := by subst hW; (repeat (first | (with_reducible exact New.refl _) | (with_reducible assumption) | ((with_reducible refine New.setB ?_ ?_ _); focus (first | omega | (simp; omega) | (simp; done))) | (with_reducible refine New.alloc ?_ _) | (with_reducible refine New.drew ?_) | (with_reducible refine New.drewN ?_ _) | (with_reducible refine New.hat ?_ _) | ((with_reducible apply New.snart); (with_reducible assumption))))
      have q0 : W5.cell? ⟨w4.heap.size, 0, none⟩ = some (.int .i64 a0) := by subst hW; go_simp
      have q1 : W5.cell? ⟨w4.heap.size, 1, none⟩ = some (.int .i64 a1) := by subst hW; go_simp
      clear hW
      replace N4 := Lib.hid (N4.out.trans n5)
      replace HO4 := Lib.hid (own_new HO4.out n5)
      have HQA := Lib.hid (fun W2 (q : New W5 W2) => And.intro (q.keep q0) (q.keep q1))
      clear n5 q0 q1
      obtain ⟨g0, g1, g2, g3, g4, p0, p1⟩ := HG.out _ N4.out
      go_wp2_with fail
      refine (K2.out _ (n0.out.trans N4.out)).mono ?_
      rintro e w6 ⟨b0, b1, rfl, hB, n6⟩
      have N6 := Lib.hid (N4.out.trans n6)
      have HBB := Lib.hid hB
      have HO6 := Lib.hid (own_new HO4.out n6)
      have HN56 := Lib.hid n6
      clear n6 K2 g0 g1 g2 g3 g4 p0 p1 HO4 hB N4
      go_upto_region 7 with fail
      refine Code.at (fun W7 hW => ?_)
      have n7 : New w6 W7 := by subst hW; (repeat (first | (with_reducible exact New.refl _) | (with_reducible assumption) | ((with_reducible refine New.setB ?_ ?_ _); focus (first | omega | (simp; omega) | (simp; done))) | (with_reducible refine New.alloc ?_ _) | (with_reducible refine New.drew ?_) | (with_reducible refine New.drewN ?_ _) | (with_reducible refine New.hat ?_ _) | ((with_reducible apply New.snart); (with_reducible assumption))))
      have q0 : W7.cell? ⟨w6.heap.size, 0, none⟩ = some (.int .i64 b0) := by subst hW; go_simp
      have q1 : W7.cell? ⟨w6.heap.size, 1, none⟩ = some (.int .i64 b1) := by subst hW; go_simp
      clear hW
      have N7 := Lib.hid (N6.out.trans n7)
      have HO7 := Lib.hid (own_new HO6.out n7)
      have HN57 := Lib.hid (HN56.out.trans n7)
      have HQB := Lib.hid (fun W2 (q : New W7 W2) => And.intro (q.keep q0) (q.keep q1))
      clear n7 q0 q1 N6 HO6 HN56
      rcases oa with _ | ta
      · have hbad := Lib.hid (HBAD.out (.inl rfl))
        simp only [Option.isSome_none]
        clear HA HBB HQA HQB HO7 HSI HRA HRB HRC HRD HIA HIB HBAD K3 K4
        go_wp2_with fail
        rw [HQ.out]
        exact ⟨_, by rw [hbad.out]; rfl, by rw [hbad.out]; exact Sl.nil, n0.out.trans N7.out⟩
      rcases ob with _ | tb
      · have hbad := Lib.hid (HBAD.out (.inr (HRD.out rfl).2))
        simp only [Option.isSome_none, Option.isSome_some]
        clear HA HBB HQA HQB HO7 HSI HRA HRB HRC HRD HIA HIB HBAD K3 K4
        go_wp2_with fail
        rw [HQ.out]
        exact ⟨_, by rw [hbad.out]; rfl, by rw [hbad.out]; exact Sl.nil, n0.out.trans N7.out⟩
      obtain ⟨rfl, rfl⟩ := HA.out ta rfl
      obtain ⟨rfl, rfl⟩ := HBB.out tb rfl
      have hra := HRA.out ta rfl
      have hrb := HRB.out tb rfl
      have K3a := Lib.hid (K3.out ta (HIA.out ta rfl))
      have K4b := Lib.hid (K4.out tb (HIB.out tb rfl))
      simp only [Option.isSome_some]
      obtain ⟨ox, hox⟩ : ∃ o, o = N.go ta ne := ⟨_, rfl⟩
      obtain ⟨oy, hoy⟩ : ∃ o, o = N.go tb i := ⟨_, rfl⟩
      rw [← hox] at K3a hra
      rw [← hoy] at K4b hrb
      rw [hra, hrb] at HDD
      clear hra hrb hox hoy HRA HRB HRC HRD HIA HIB K3 K4 HA HBB
      obtain ⟨g0, g1, g2, g3, g4, -, -⟩ := HG.out _ N7.out
      obtain ⟨q0, q1⟩ := HQA.out _ HN57.out
      go_wp2_with fail
      refine (K3a.out _ (n0.out.trans N7.out)).mono ?_
      rintro e w8 ⟨x0, x1, rfl, hX, n8⟩
      have N8 := Lib.hid (N7.out.trans n8)
      have HX := Lib.hid hX
      have HO8 := Lib.hid (own_new HO7.out n8)
      have HN58 := Lib.hid (HN57.out.trans n8)
      have HN78 := Lib.hid n8
      clear n8 K3a g0 g1 g2 g3 g4 q0 q1 hX N7 HO7 HN57
      go_upto_region 10 with fail
      refine Code.at (fun W9 hW => ?_)
      have n9 : New w8 W9 := by subst hW; (repeat (first | (with_reducible exact New.refl _) | (with_reducible assumption) | ((with_reducible refine New.setB ?_ ?_ _); focus (first | omega | (simp; omega) | (simp; done))) | (with_reducible refine New.alloc ?_ _) | (with_reducible refine New.drew ?_) | (with_reducible refine New.drewN ?_ _) | (with_reducible refine New.hat ?_ _) | ((with_reducible apply New.snart); (with_reducible assumption))))
      have q0 : W9.cell? ⟨w8.heap.size, 0, none⟩ = some (.int .i64 x0) := by subst hW; go_simp
      have q1 : W9.cell? ⟨w8.heap.size, 1, none⟩ = some (.int .i64 x1) := by subst hW; go_simp
      clear hW
      have N9 := Lib.hid (N8.out.trans n9)
      have HO9 := Lib.hid (own_new HO8.out n9)
      have HN59 := Lib.hid (HN58.out.trans n9)
      have HN79 := Lib.hid (HN78.out.trans n9)
      have HQX := Lib.hid (fun W2 (q : New W9 W2) => And.intro (q.keep q0) (q.keep q1))
      clear n9 q0 q1 N8 HO8 HN58 HN78
      obtain ⟨g0, g1, g2, g3, g4, -, -⟩ := HG.out _ N9.out
      obtain ⟨q0, q1⟩ := HQB.out _ HN79.out
      go_wp2_with fail
      refine (K4b.out _ (n0.out.trans N9.out)).mono ?_
      rintro e w10 ⟨y0, y1, rfl, hY, n10⟩
      have N10 := Lib.hid (N9.out.trans n10)
      have HY := Lib.hid hY
      have HO10 := Lib.hid (own_new HO9.out n10)
      have HN510 := Lib.hid (HN59.out.trans n10)
      have HN910 := Lib.hid n10
      clear n10 K4b g0 g1 g2 g3 g4 q0 q1 hY N9 HO9 HN59 HQB HN79
      go_upto_region 11 with fail
      refine Code.at (fun W11 hW => ?_)
      have n11 : New w10 W11 := by subst hW; (repeat (first | (with_reducible exact New.refl _) | (with_reducible assumption) | ((with_reducible refine New.setB ?_ ?_ _); focus (first | omega | (simp; omega) | (simp; done))) | (with_reducible refine New.alloc ?_ _) | (with_reducible refine New.drew ?_) | (with_reducible refine New.drewN ?_ _) | (with_reducible refine New.hat ?_ _) | ((with_reducible apply New.snart); (with_reducible assumption))))
      have y0c : W11.cell? ⟨w10.heap.size, 0, none⟩ = some (.int .i64 y0) := by subst hW; go_simp
      have y1c : W11.cell? ⟨w10.heap.size, 1, none⟩ = some (.int .i64 y1) := by subst hW; go_simp
      clear hW
      have N11 := Lib.hid (N10.out.trans n11)
      have HO11 := Lib.hid (own_new HO10.out n11)
      obtain ⟨x0c, x1c⟩ := HQX.out _ (HN910.out.trans n11)
      obtain ⟨q0, q1⟩ := HQA.out _ (HN510.out.trans n11)
      clear n11 N10 HO10 HN510 HN910 HQA HQX
      have hnone : Hid (od = none → fb = false) := Lib.hid (fun q => HBAD.out (.inr q))
      rcases ox with _ | tx
      · have hbad := Lib.hid (hnone.out (by rw [HDD.out]; unfold bothP; rfl))
        simp only [Option.isSome_none]
        clear HX HY HO11 HSI HBAD HDD
        go_wp2_with fail
        rw [HQ.out]
        exact ⟨_, by rw [hbad.out]; rfl, by rw [hbad.out]; exact Sl.nil, n0.out.trans N11.out⟩
      rcases oy with _ | ty
      · have hbad := Lib.hid (hnone.out (by rw [HDD.out]; unfold bothP; rfl))
        simp only [Option.isSome_none, Option.isSome_some]
        clear HX HY HO11 HSI HBAD HDD
        go_wp2_with fail
        rw [HQ.out]
        exact ⟨_, by rw [hbad.out]; rfl, by rw [hbad.out]; exact Sl.nil, n0.out.trans N11.out⟩
      obtain ⟨rfl, rfl⟩ := HX.out tx rfl
      obtain ⟨rfl, rfl⟩ := HY.out ty rfl
      simp only [Option.isSome_some]
      clear HX HY
      by_cases hxy : tx = ty
      rotate_left
      · have hbad := Lib.hid (hnone.out (by rw [HDD.out]; unfold bothP; simp only; rw [if_neg hxy]))
        have hneq : Hid (tx.eqB ty = false) := Lib.hid (by
          cases q : tx.eqB ty
          · rfl
          · exact absurd ((Sp.eqB_iff tx ty).1 q) hxy)
        unfold Sp.eqB at hneq
        clear HO11 HSI HBAD HDD hxy
        cases e1 : ((tx.c : Int) == (ty.c : Int))
        · go_wp2_with fail
          rw [HQ.out]
          exact ⟨_, by rw [hbad.out]; rfl, by rw [hbad.out]; exact Sl.nil, n0.out.trans N11.out⟩
        · cases e2 : ((tx.k : Int) == (ty.k : Int))
          · go_wp2_with fail
            rw [HQ.out]
            exact ⟨_, by rw [hbad.out]; rfl, by rw [hbad.out]; exact Sl.nil, n0.out.trans N11.out⟩
          · have := hneq.out
            rw [e1, e2] at this
            cases this
      subst hxy
      have hod : od = some tx := by rw [HDD.out]; exact bothP_of tx
      have HSX : Hid (ar (i + 1) = ar i ++ [ta, tx]) := Lib.hid (by rw [HSI.out, hod]; simp)
      have hb : base ≤ W11.heap.size := by rw [HB.out]; exact N11.out.size
      have e1 : ((tx.c : Int) == (tx.c : Int)) = true := by simp
      have e2 : ((tx.k : Int) == (tx.k : Int)) = true := by simp
      obtain ⟨l0, hl0⟩ : ∃ q, q = ar i := ⟨_, rfl⟩
      rw [← hl0] at HSX HO11 HLI
      have hli := HLI.out
      clear hl0 HSI HBAD HDD hod hnone
      go_wp2_with (at_builtin; refine wpList_append_sl rfl _ _ 45 rfl Sp.enc_len Sp.enc_one base 49 i0 _ 16 Tryd.underlying45 hi0 hz0 hz1 hz2 rfl (by decide) _ l0 rfl (own_new HO11.out ((New.refl _).alloc _)) _ [ta, tx] rfl (sp_new2 _ ta tx _) (by unfold maxLen; simp; omega) (by simp; omega) (by simp; omega) ?_; intro v' w1 hown' hnew _; obtain ⟨a', d', N', hN', rfl⟩ := own_shape2 hown'; clear hN'; have nw1 := hnew W (N11.out.trans ((New.refl _).alloc _)) (Nat.le_of_eq HB.out.symm))
      go_roundg (4 - (i + 1))
      case measure => omega
      case rel => exact ⟨i + 1, a', N', d', by go_num, rfl, by omega, by omega, Lib.hid (by rw [HSX.out]; exact ⟨hown', by simp; omega⟩), Lib.hid nw1⟩
    · obtain rfl : i = 4 := by omega
      have hsl := own_sl Sp.enc_len hown.out.1
      have hfb : fb = true := HF.out.2 (by have := hown.out.2; omega)
      have HSL := Lib.hid (And.intro hsl (n0.out.trans hnr.out))
      have HFB := Lib.hid hfb
      clear hown hsl hfb
      go_wp2_with fail
      rw [HQ.out]
      exact ⟨_, by rw [HFB.out]; rfl, by rw [HFB.out]; exact HSL.out.1, HSL.out.2⟩

end Go.Proofs.YtgoggogcbjfofaaDoor
