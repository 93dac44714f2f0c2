import Derived.Test.YtmpkciidhopckaaRefB
import Derived.Test.YtmpkciidhopckaaTurnB
import Derived.Outline
import Derived.Test.YtmpkciidhopckaaRefA
import Derived.Test.YtmpkciidhopckaaCellsK
import Derived.Test.YtmpkciidhopckaaCellsR
import Derived.Deep.LoopGhost
import Derived.Test.YtmpkciidhopckaaCellsU

/- The document's cell, Meets, Share, walked. -/
namespace Go.Proofs.Ytmpkciidhopckaa
open Go.RowKit
set_option linter.unusedVariables false

theorem q_within (fn fd ln ld a d lo hi : Int) (w : World) (u1 : -100 ≤ fn ∧ fn ≤ 100) (u2 : 1 ≤ fd ∧ fd ≤ 100) (u3 : -100 ≤ ln ∧ ln ≤ 100) (u4 : 1 ≤ ld ∧ ld ≤ 100) (u5 : 0 ≤ a ∧ a ≤ 64) (u6 : -64 ≤ d ∧ d ≤ 64) (u7 : -2 ≤ lo ∧ lo ≤ 66) (u8 : -2 ≤ hi ∧ hi ≤ 68) :
    Calls Try.prog 66 #[.agg #[.int .i64 fn, .int .i64 fd], .agg #[.int .i64 ln, .int .i64 ld], .int .i64 a, .int .i64 d, .int .i64 lo, .int .i64 hi] w fun e w' => e = .returned (.tuple #[.agg #[.int .i64 (cutI fn fd ln ld a d lo hi).fn, .int .i64 (cutI fn fd ln ld a d lo hi).fd], .agg #[.int .i64 (cutI fn fd ln ld a d lo hi).ln, .int .i64 (cutI fn fd ln ld a d lo hi).ld], .bool (cutI fn fd ln ld a d lo hi).ok]) ∧ New w w' := by
  by_cases hd : d = 0
  · exact q_within0 fn fd ln ld a d lo hi w hd
  · exact q_within1 fn fd ln ld a d lo hi w hd u1 u2 u3 u4 u5 u6 u7 u8

theorem cutI_bd {fn fd ln ld a d lo hi : Int} (u1 : -100 ≤ fn ∧ fn ≤ 100) (u2 : 1 ≤ fd ∧ fd ≤ 100) (u3 : -100 ≤ ln ∧ ln ≤ 100) (u4 : 1 ≤ ld ∧ ld ≤ 100) (u5 : 0 ≤ a ∧ a ≤ 64) (u6 : -64 ≤ d ∧ d ≤ 64) (u7 : -2 ≤ lo ∧ lo ≤ 66) (u8 : -2 ≤ hi ∧ hi ≤ 68) :
    (-100 ≤ (cutI fn fd ln ld a d lo hi).fn ∧ (cutI fn fd ln ld a d lo hi).fn ≤ 100) ∧ (1 ≤ (cutI fn fd ln ld a d lo hi).fd ∧ (cutI fn fd ln ld a d lo hi).fd ≤ 100) ∧ (-100 ≤ (cutI fn fd ln ld a d lo hi).ln ∧ (cutI fn fd ln ld a d lo hi).ln ≤ 100) ∧ (1 ≤ (cutI fn fd ln ld a d lo hi).ld ∧ (cutI fn fd ln ld a d lo hi).ld ≤ 100) := by
  unfold cutI
  by_cases hd : d = 0
  · rw [if_pos hd]; exact ⟨u1, u2, u3, u4⟩
  · rw [if_neg hd]
    obtain ⟨c1, c2⟩ := low_bd (n := lo - a) hd (by omega) (by omega)
    obtain ⟨c3, c4⟩ := low_bd (n := hi - a) hd (by omega) (by omega)
    generalize lowN (lo - a) d = xn at *
    generalize lowD (lo - a) d = xd at *
    generalize lowN (hi - a) d = yn at *
    generalize lowD (hi - a) d = yd at *
    have key : ∀ pn pd qn qd : Int, (-100 ≤ pn ∧ pn ≤ 100) → (1 ≤ pd ∧ pd ≤ 100) → (-100 ≤ qn ∧ qn ≤ 100) → (1 ≤ qd ∧ qd ≤ 100) →
        (-100 ≤ (cutP fn fd ln ld pn pd qn qd).fn ∧ (cutP fn fd ln ld pn pd qn qd).fn ≤ 100) ∧ (1 ≤ (cutP fn fd ln ld pn pd qn qd).fd ∧ (cutP fn fd ln ld pn pd qn qd).fd ≤ 100) ∧ (-100 ≤ (cutP fn fd ln ld pn pd qn qd).ln ∧ (cutP fn fd ln ld pn pd qn qd).ln ≤ 100) ∧ (1 ≤ (cutP fn fd ln ld pn pd qn qd).ld ∧ (cutP fn fd ln ld pn pd qn qd).ld ≤ 100) := by
      intro pn pd qn qd h1 h2 h3 h4
      unfold cutP
      simp only []
      refine ⟨?_, ?_, ?_, ?_⟩ <;> split <;> assumption
    split
    · exact key _ _ _ _ c3 c4 c1 c2
    · exact key _ _ _ _ c1 c2 c3 c4

set_option maxHeartbeats 2000000 in
set_option maxRecDepth 100000 in
theorem q_cell (ax az bx bz x z : Int) (w : World) (hv : validB ax az bx bz x z = true) :
    Calls Try.prog 40 #[.agg #[.int .i64 ax, .int .i64 az], .agg #[.int .i64 bx, .int .i64 bz], .int .i64 x, .int .i64 z] w fun e w' =>
      (∃ c0 c1 c2 c3 c4 c5 : Int, e = .returned (.tuple #[.agg #[.int .i64 c0, .int .i64 c1, .int .i64 c2, .int .i64 c3, .int .i64 c4, .int .i64 c5], .bool (meetO ax az bx bz x z).isSome]) ∧
        ∀ m, meetO ax az bx bz x z = some m → c0 = x ∧ c1 = z ∧ c2 = m.fn ∧ c3 = m.fd ∧ c4 = m.ln ∧ c5 = m.ld) ∧ New w w' := by
  have hv' := hv
  unfold validB at hv'
  simp only [Bool.and_eq_true] at hv'
  obtain ⟨⟨⟨e1, e2⟩, e3⟩, e4⟩ := hv'
  obtain ⟨pa1, pa2⟩ := ptB_iff.1 e1
  obtain ⟨pb1, pb2⟩ := ptB_iff.1 e2
  have px := witB_iff.1 e3
  have pz := witB_iff.1 e4
  clear e1 e2 e3 e4
  have W1 := fun W => q_within 0 1 1 1 ax (bx - ax) (2 * x) (2 * x + 2) W (by omega) (by omega) (by omega) (by omega) (by omega) (by omega) (by omega) (by omega)
  obtain ⟨v1, v2, v3, v4⟩ := cutI_bd (fn := 0) (fd := 1) (ln := 1) (ld := 1) (a := ax) (d := bx - ax) (lo := 2 * x) (hi := 2 * x + 2) (by omega) (by omega) (by omega) (by omega) (by omega) (by omega) (by omega) (by omega)
  have W2 := fun W => q_within _ _ _ _ az (bz - az) (2 * z) (2 * z + 2) W v1 v2 v3 v4 (by omega) (by omega) (by omega) (by omega)
  have hsome := fun m (h : meetO ax az bx bz x z = some m) => cell_some h
  have hnone := fun (h : meetO ax az bx bz x z = none) => cell_none hv h
  rw [show cutI 0 1 1 1 ax (bx - ax) (2 * x) (2 * x + 2) = cutX ax bx x from rfl] at W1 W2
  rw [show cutI (cutX ax bx x).fn (cutX ax bx x).fd (cutX ax bx x).ln (cutX ax bx x).ld az (bz - az) (2 * z) (2 * z + 2) = cutZ ax az bx bz x z from rfl] at W2
  clear v1 v2 v3 v4 hv
  generalize cutZ ax az bx bz x z = cZ at *
  generalize cutX ax bx x = cX at *
  obtain ⟨xf, xg, xl, xk, xo⟩ := cX
  obtain ⟨zf, zg, zl, zk, zo⟩ := cZ
  (try simp only [] at W1); (try simp only [] at W2); (try simp only [] at hsome); (try simp only [] at hnone)
  generalize hM : meetO ax az bx bz x z = M at *
  cases xo
  · have hMn : M = none := by
      cases M with
      | none => rfl
      | some m => have := (hsome m rfl).1; cases this
    subst hMn
    replace W1 := Lib.hid W1
    clear W2 hsome hnone hM
    go_enter Try.func40, Try.ntmps40
    go_wp2_with fail
    generalize hW : World.alloc _ _ = W
    have hn : New w W := by subst hW; (repeat (first | (with_reducible exact New.refl _) | (with_reducible assumption) | ((with_reducible refine New.setB ?_ ?_ _); focus (first | omega | (simp; omega) | (simp; done))) | (with_reducible refine New.alloc ?_ _) | (with_reducible refine New.drew ?_) | (with_reducible refine New.drewN ?_ _) | (with_reducible refine New.hat ?_ _) | ((with_reducible apply New.snart); (with_reducible assumption))))
    have r0 : W.cell? ⟨w.heap.size + 1 + 1, 0, none⟩ = some (.int .i64 0) := by subst hW; go_simp
    have r1 : W.cell? ⟨w.heap.size + 1 + 1, 1, none⟩ = some (.int .i64 0) := by subst hW; go_simp
    have r2 : W.cell? ⟨w.heap.size + 1 + 1, 2, none⟩ = some (.int .i64 0) := by subst hW; go_simp
    have r3 : W.cell? ⟨w.heap.size + 1 + 1, 3, none⟩ = some (.int .i64 0) := by subst hW; go_simp
    have r4 : W.cell? ⟨w.heap.size + 1 + 1, 4, none⟩ = some (.int .i64 0) := by subst hW; go_simp
    have r5 : W.cell? ⟨w.heap.size + 1 + 1, 5, none⟩ = some (.int .i64 0) := by subst hW; go_simp
    have fr : ∀ o, W.frozen? ⟨w.heap.size + 1 + 1, o, none⟩ = false := fun o => by subst hW; go_simp
    clear hW
    refine (W1.out _).mono ?_
    rintro e w1 ⟨rfl, n1⟩
    have f0 := n1.keepF r0 (fr 0)
    have f1 := n1.keepF r1 (fr 1)
    have f2 := n1.keepF r2 (fr 2)
    have f3 := n1.keepF r3 (fr 3)
    have f4 := n1.keepF r4 (fr 4)
    have f5 := n1.keepF r5 (fr 5)
    ((replace r0 := New.keep n1 r0); (replace r1 := New.keep n1 r1); (replace r2 := New.keep n1 r2); (replace r3 := New.keep n1 r3); (replace r4 := New.keep n1 r4); (replace r5 := New.keep n1 r5))
    have hlt : w.heap.size + 1 + 1 < w1.heap.size := World.block_lt_of_cell? _ _ r0
    replace hn := hn.trans n1
    clear n1 fr
    go_upto_region 3 with fail
    refine Code.at (fun V hV => ?_)
    have n2 : New w1 V := by subst hV; (repeat (first | (with_reducible exact New.refl _) | (with_reducible assumption) | ((with_reducible refine New.setB ?_ ?_ _); focus (first | omega | (simp; omega) | (simp; done))) | (with_reducible refine New.alloc ?_ _) | (with_reducible refine New.drew ?_) | (with_reducible refine New.drewN ?_ _) | (with_reducible refine New.hat ?_ _) | ((with_reducible apply New.snart); (with_reducible assumption))))
    replace f0 := n2.keepF r0 f0
    replace f1 := n2.keepF r1 f1
    replace f2 := n2.keepF r2 f2
    replace f3 := n2.keepF r3 f3
    replace f4 := n2.keepF r4 f4
    replace f5 := n2.keepF r5 f5
    ((replace r0 := New.keep n2 r0); (replace r1 := New.keep n2 r1); (replace r2 := New.keep n2 r2); (replace r3 := New.keep n2 r3); (replace r4 := New.keep n2 r4); (replace r5 := New.keep n2 r5))
    replace hn := hn.trans n2
    clear hV n2 hlt
    go_wp2_with fail
    refine bodyPost_ret (v := .tuple #[.agg #[.int .i64 0, .int .i64 0, .int .i64 0, .int .i64 0, .int .i64 0, .int .i64 0], .bool false]) (by simp [results, Try.results40, go_sem, *]) rfl ?_
    exact ⟨⟨0, 0, 0, 0, 0, 0, rfl, fun m h => by cases h⟩, by (repeat (first | (with_reducible exact New.refl _) | (with_reducible assumption) | ((with_reducible refine New.setB ?_ ?_ _); focus (first | omega | (simp; omega) | (simp; done))) | (with_reducible refine New.alloc ?_ _) | (with_reducible refine New.drew ?_) | (with_reducible refine New.drewN ?_ _) | (with_reducible refine New.hat ?_ _) | ((with_reducible apply New.snart); (with_reducible assumption))))⟩
  · have hz : M.isSome = zo ∧ ∀ m, M = some m → x = x ∧ z = z ∧ zf = m.fn ∧ zg = m.fd ∧ zl = m.ln ∧ zk = m.ld := by
      cases M with
      | none =>
        refine ⟨?_, fun m h => by cases h⟩
        cases zo
        · rfl
        · exact absurd ⟨rfl, rfl⟩ (hnone rfl)
      | some m =>
        obtain ⟨-, h2, h3⟩ := hsome m rfl
        exact ⟨h2.symm, fun m' h => by injection h with h; subst h; exact ⟨rfl, rfl, h3⟩⟩
    obtain ⟨hz1, hz2⟩ := hz
    rw [hz1]
    have HZ : Hid _ := hz2
    clear hz1 hz2 hM hsome hnone
    replace W1 := Lib.hid W1
    replace W2 := Lib.hid W2
    go_enter Try.func40, Try.ntmps40
    go_wp2_with fail
    generalize hW : World.alloc _ _ = W
    have hn : New w W := by subst hW; (repeat (first | (with_reducible exact New.refl _) | (with_reducible assumption) | ((with_reducible refine New.setB ?_ ?_ _); focus (first | omega | (simp; omega) | (simp; done))) | (with_reducible refine New.alloc ?_ _) | (with_reducible refine New.drew ?_) | (with_reducible refine New.drewN ?_ _) | (with_reducible refine New.hat ?_ _) | ((with_reducible apply New.snart); (with_reducible assumption))))
    have a1 : W.cell? ⟨w.heap.size, 1, none⟩ = some (.int .i64 az) := by subst hW; go_simp
    have b1 : W.cell? ⟨w.heap.size + 1, 1, none⟩ = some (.int .i64 bz) := by subst hW; go_simp
    have r0 : W.cell? ⟨w.heap.size + 1 + 1, 0, none⟩ = some (.int .i64 0) := by subst hW; go_simp
    have r1 : W.cell? ⟨w.heap.size + 1 + 1, 1, none⟩ = some (.int .i64 0) := by subst hW; go_simp
    have r2 : W.cell? ⟨w.heap.size + 1 + 1, 2, none⟩ = some (.int .i64 0) := by subst hW; go_simp
    have r3 : W.cell? ⟨w.heap.size + 1 + 1, 3, none⟩ = some (.int .i64 0) := by subst hW; go_simp
    have r4 : W.cell? ⟨w.heap.size + 1 + 1, 4, none⟩ = some (.int .i64 0) := by subst hW; go_simp
    have r5 : W.cell? ⟨w.heap.size + 1 + 1, 5, none⟩ = some (.int .i64 0) := by subst hW; go_simp
    have fr : ∀ o, W.frozen? ⟨w.heap.size + 1 + 1, o, none⟩ = false := fun o => by subst hW; go_simp
    clear hW
    refine (W1.out _).mono ?_
    rintro e w1 ⟨rfl, n1⟩
    have f0 := n1.keepF r0 (fr 0)
    have f1 := n1.keepF r1 (fr 1)
    have f2 := n1.keepF r2 (fr 2)
    have f3 := n1.keepF r3 (fr 3)
    have f4 := n1.keepF r4 (fr 4)
    have f5 := n1.keepF r5 (fr 5)
    ((replace r0 := New.keep n1 r0); (replace r1 := New.keep n1 r1); (replace r2 := New.keep n1 r2); (replace r3 := New.keep n1 r3); (replace r4 := New.keep n1 r4); (replace r5 := New.keep n1 r5))
    replace a1 := New.keep n1 a1
    replace b1 := New.keep n1 b1
    have hlt : w.heap.size + 1 + 1 < w1.heap.size := World.block_lt_of_cell? _ _ r0
    have hlt1 : w.heap.size + 1 < w1.heap.size := by omega
    have hlt0 : w.heap.size < w1.heap.size := by omega
    replace hn := hn.trans n1
    clear n1 fr
    go_upto_region 4 with fail
    refine Code.at (fun V hV => ?_)
    obtain ⟨P, hP⟩ : ∃ P, P = w1.heap.size := ⟨_, rfl⟩
    rw [← hP]
    have n2 : New w1 V := by subst hV; (repeat (first | (with_reducible exact New.refl _) | (with_reducible assumption) | ((with_reducible refine New.setB ?_ ?_ _); focus (first | omega | (simp; omega) | (simp; done))) | (with_reducible refine New.alloc ?_ _) | (with_reducible refine New.drew ?_) | (with_reducible refine New.drewN ?_ _) | (with_reducible refine New.hat ?_ _) | ((with_reducible apply New.snart); (with_reducible assumption))))
    have p0 : V.cell? ⟨P, 0, none⟩ = some (.int .i64 xf) := by subst hP; subst hV; go_simp
    have p1 : V.cell? ⟨P, 1, none⟩ = some (.int .i64 xg) := by subst hP; subst hV; go_simp
    have q0 : V.cell? ⟨P + 1, 0, none⟩ = some (.int .i64 xl) := by subst hP; subst hV; go_simp
    have q1 : V.cell? ⟨P + 1, 1, none⟩ = some (.int .i64 xk) := by subst hP; subst hV; go_simp
    have fp0 : V.frozen? ⟨P, 0, none⟩ = false := by subst hP; subst hV; go_simp
    have fp1 : V.frozen? ⟨P, 1, none⟩ = false := by subst hP; subst hV; go_simp
    have fq0 : V.frozen? ⟨P + 1, 0, none⟩ = false := by subst hP; subst hV; go_simp
    have fq1 : V.frozen? ⟨P + 1, 1, none⟩ = false := by subst hP; subst hV; go_simp
    have gP : w.heap.size + 1 + 1 < P := by omega
    replace f0 := n2.keepF r0 f0
    replace f1 := n2.keepF r1 f1
    replace f2 := n2.keepF r2 f2
    replace f3 := n2.keepF r3 f3
    replace f4 := n2.keepF r4 f4
    replace f5 := n2.keepF r5 f5
    ((replace r0 := New.keep n2 r0); (replace r1 := New.keep n2 r1); (replace r2 := New.keep n2 r2); (replace r3 := New.keep n2 r3); (replace r4 := New.keep n2 r4); (replace r5 := New.keep n2 r5))
    replace a1 := New.keep n2 a1
    replace b1 := New.keep n2 b1
    replace hn := hn.trans n2
    clear hV hP n2 hlt hlt1 hlt0
    go_wp2_with fail
    refine (W2.out _).mono ?_
    rintro e w2 ⟨rfl, n1⟩
    replace f0 := n1.keepF r0 f0
    replace f1 := n1.keepF r1 f1
    replace f2 := n1.keepF r2 f2
    replace f3 := n1.keepF r3 f3
    replace f4 := n1.keepF r4 f4
    replace f5 := n1.keepF r5 f5
    ((replace r0 := New.keep n1 r0); (replace r1 := New.keep n1 r1); (replace r2 := New.keep n1 r2); (replace r3 := New.keep n1 r3); (replace r4 := New.keep n1 r4); (replace r5 := New.keep n1 r5))
    replace fp0 := n1.keepF p0 fp0
    replace fp1 := n1.keepF p1 fp1
    replace fq0 := n1.keepF q0 fq0
    replace fq1 := n1.keepF q1 fq1
    replace p0 := New.keep n1 p0
    replace p1 := New.keep n1 p1
    replace q0 := New.keep n1 q0
    replace q1 := New.keep n1 q1
    replace hn := hn.trans n1
    clear n1 a1 b1
    have gP1 : w.heap.size ≤ P := by omega
    have gP2 : w.heap.size ≤ P + 1 := by omega
    have gP3 : w.heap.size + 1 + 1 < P + 1 := by omega
    go_wp2_with fail
    refine bodyPost_ret (v := .tuple #[.agg #[.int .i64 x, .int .i64 z, .int .i64 zf, .int .i64 zg, .int .i64 zl, .int .i64 zk], .bool zo]) (by simp [results, Try.results40, go_sem, *]) rfl ?_
    exact ⟨⟨x, z, zf, zg, zl, zk, rfl, fun m h => ⟨rfl, rfl, (HZ.out m h).2.2⟩⟩, by (repeat (first | (with_reducible exact New.refl _) | (with_reducible assumption) | ((with_reducible refine New.setB ?_ ?_ _); focus (first | omega | (simp; omega) | (simp; done))) | (with_reducible refine New.alloc ?_ _) | (with_reducible refine New.drew ?_) | (with_reducible refine New.drewN ?_ _) | (with_reducible refine New.hat ?_ _) | ((with_reducible apply New.snart); (with_reducible assumption))))⟩

theorem valid_no {ax az bx bz x z : Int} (h : validB ax az bx bz x z = false) : meetO ax az bx bz x z = none := by
  unfold meetO; rw [if_neg (by simp [h])]

set_option maxHeartbeats 2000000 in
set_option maxRecDepth 100000 in
theorem q_meets (ax az bx bz x z : Int) (w : World) :
    Calls Try.prog 14 #[.agg #[.int .i64 ax, .int .i64 az], .agg #[.int .i64 bx, .int .i64 bz], .int .i64 x, .int .i64 z] w fun e w' => e = .returned (.bool (meetO ax az bx bz x z).isSome) ∧ New w w' := by
  have h1 := fun w => q_point ax az w
  have h2 := fun w => q_point bx bz w
  cases e1 : ptB ax az
  · have hv : validB ax az bx bz x z = false := by unfold validB; rw [e1]; rfl
    rw [valid_no hv]
    rw [e1] at h1
    replace h1 := Lib.hid h1
    clear hv h2
    go_enter Try.func14, Try.ntmps14
    go_wp2_with fail
    refine (h1.out _).mono ?_
    rintro e w1 ⟨rfl, n1⟩
    have hn : New w w1 := New.trans (by (repeat (first | (with_reducible exact New.refl _) | (with_reducible assumption) | ((with_reducible refine New.setB ?_ ?_ _); focus (first | omega | (simp; omega) | (simp; done))) | (with_reducible refine New.alloc ?_ _) | (with_reducible refine New.drew ?_) | (with_reducible refine New.drewN ?_ _) | (with_reducible refine New.hat ?_ _) | ((with_reducible apply New.snart); (with_reducible assumption))))) n1
    clear n1
    go_wp2_with fail
    go_ret
    exact ⟨rfl, hn⟩
  rw [e1] at h1
  cases e2 : ptB bx bz
  · have hv : validB ax az bx bz x z = false := by unfold validB; rw [e1, e2]; rfl
    rw [valid_no hv]
    rw [e2] at h2
    replace h1 := Lib.hid h1
    replace h2 := Lib.hid h2
    clear hv
    go_enter Try.func14, Try.ntmps14
    go_wp2_with fail
    generalize hW : World.alloc _ _ = W
    have b0 : W.cell? ⟨w.heap.size + 1, 0, none⟩ = some (.int .i64 bx) := by subst hW; go_simp
    have b1 : W.cell? ⟨w.heap.size + 1, 1, none⟩ = some (.int .i64 bz) := by subst hW; go_simp
    have hn : New w W := by subst hW; (repeat (first | (with_reducible exact New.refl _) | (with_reducible assumption) | ((with_reducible refine New.setB ?_ ?_ _); focus (first | omega | (simp; omega) | (simp; done))) | (with_reducible refine New.alloc ?_ _) | (with_reducible refine New.drew ?_) | (with_reducible refine New.drewN ?_ _) | (with_reducible refine New.hat ?_ _) | ((with_reducible apply New.snart); (with_reducible assumption))))
    clear hW
    refine (h1.out _).mono ?_
    rintro e w1 ⟨rfl, n1⟩
    replace b0 := New.keep n1 b0
    replace b1 := New.keep n1 b1
    replace hn := hn.trans n1
    clear n1
    go_wp2_with fail
    refine (h2.out _).mono ?_
    rintro e w2 ⟨rfl, n1⟩
    replace hn := hn.trans n1
    clear n1
    go_wp2_with fail
    go_ret
    exact ⟨rfl, hn⟩
  rw [e2] at h2
  by_cases hxz : (-1 ≤ x ∧ x ≤ 32) ∧ (-1 ≤ z ∧ z ≤ 32)
  · have hv : validB ax az bx bz x z = true := by unfold validB; rw [e1, e2, witB_iff.2 hxz.1, witB_iff.2 hxz.2]; rfl
    have hc := fun w => q_cell ax az bx bz x z w hv
    generalize meetO ax az bx bz x z = M at *
    generalize hb : M.isSome = b at *
    clear hb hv
    replace h1 := Lib.hid h1
    replace h2 := Lib.hid h2
    replace hc := Lib.hid hc
    obtain ⟨⟨k1, k2⟩, k3, k4⟩ := hxz
    go_enter Try.func14, Try.ntmps14
    go_wp2_with fail
    generalize hW : World.alloc _ _ = W
    have a0 : W.cell? ⟨w.heap.size, 0, none⟩ = some (.int .i64 ax) := by subst hW; go_simp
    have a1 : W.cell? ⟨w.heap.size, 1, none⟩ = some (.int .i64 az) := by subst hW; go_simp
    have b0 : W.cell? ⟨w.heap.size + 1, 0, none⟩ = some (.int .i64 bx) := by subst hW; go_simp
    have b1 : W.cell? ⟨w.heap.size + 1, 1, none⟩ = some (.int .i64 bz) := by subst hW; go_simp
    have hn : New w W := by subst hW; (repeat (first | (with_reducible exact New.refl _) | (with_reducible assumption) | ((with_reducible refine New.setB ?_ ?_ _); focus (first | omega | (simp; omega) | (simp; done))) | (with_reducible refine New.alloc ?_ _) | (with_reducible refine New.drew ?_) | (with_reducible refine New.drewN ?_ _) | (with_reducible refine New.hat ?_ _) | ((with_reducible apply New.snart); (with_reducible assumption))))
    clear hW
    refine (h1.out _).mono ?_
    rintro e w1 ⟨rfl, n1⟩
    ((replace a0 := New.keep n1 a0); (replace a1 := New.keep n1 a1); (replace b0 := New.keep n1 b0); (replace b1 := New.keep n1 b1))
    replace hn := hn.trans n1
    clear n1
    go_wp2_with fail
    refine (h2.out _).mono ?_
    rintro e w2 ⟨rfl, n1⟩
    ((replace a0 := New.keep n1 a0); (replace a1 := New.keep n1 a1); (replace b0 := New.keep n1 b0); (replace b1 := New.keep n1 b1))
    replace hn := hn.trans n1
    clear n1
    go_wp2_with fail
    refine (hc.out _).mono ?_
    rintro e w3 ⟨⟨d0, d1, d2, d3, d4, d5, rfl, -⟩, n1⟩
    replace hn := hn.trans n1
    clear n1 a0 a1 b0 b1
    go_wp2_with fail
    go_ret
    exact ⟨rfl, by (repeat (first | (with_reducible exact New.refl _) | (with_reducible assumption) | ((with_reducible refine New.setB ?_ ?_ _); focus (first | omega | (simp; omega) | (simp; done))) | (with_reducible refine New.alloc ?_ _) | (with_reducible refine New.drew ?_) | (with_reducible refine New.drewN ?_ _) | (with_reducible refine New.hat ?_ _) | ((with_reducible apply New.snart); (with_reducible assumption))))⟩
  · have hv : validB ax az bx bz x z = false := by
      unfold validB
      rw [e1, e2]
      cases h : witB x (-1) 32
      · rfl
      · cases h' : witB z (-1) 32
        · rfl
        · exact absurd ⟨witB_iff.1 h, witB_iff.1 h'⟩ hxz
    rw [valid_no hv]
    have HX : Hid _ := hxz
    replace h1 := Lib.hid h1
    replace h2 := Lib.hid h2
    clear hv hxz
    go_enter Try.func14, Try.ntmps14
    go_wp2_with fail
    generalize hW : World.alloc _ _ = W
    have b0 : W.cell? ⟨w.heap.size + 1, 0, none⟩ = some (.int .i64 bx) := by subst hW; go_simp
    have b1 : W.cell? ⟨w.heap.size + 1, 1, none⟩ = some (.int .i64 bz) := by subst hW; go_simp
    have hn : New w W := by subst hW; (repeat (first | (with_reducible exact New.refl _) | (with_reducible assumption) | ((with_reducible refine New.setB ?_ ?_ _); focus (first | omega | (simp; omega) | (simp; done))) | (with_reducible refine New.alloc ?_ _) | (with_reducible refine New.drew ?_) | (with_reducible refine New.drewN ?_ _) | (with_reducible refine New.hat ?_ _) | ((with_reducible apply New.snart); (with_reducible assumption))))
    clear hW
    refine (h1.out _).mono ?_
    rintro e w1 ⟨rfl, n1⟩
    replace b0 := New.keep n1 b0
    replace b1 := New.keep n1 b1
    replace hn := hn.trans n1
    clear n1
    go_wp2_with fail
    refine (h2.out _).mono ?_
    rintro e w2 ⟨rfl, n1⟩
    replace hn := hn.trans n1
    clear n1 b0 b1
    by_cases q1 : x < -1
    · go_wp2_with fail
      go_ret
      exact ⟨rfl, hn⟩
    by_cases q2 : 32 < x
    · go_wp2_with fail
      go_ret
      exact ⟨rfl, hn⟩
    by_cases q3 : z < -1
    · go_wp2_with fail
      go_ret
      exact ⟨rfl, hn⟩
    by_cases q4 : 32 < z
    · go_wp2_with fail
      go_ret
      exact ⟨rfl, hn⟩
    exact absurd ⟨⟨by omega, by omega⟩, ⟨by omega, by omega⟩⟩ HX.out

end Go.Proofs.Ytmpkciidhopckaa

/- The document's Share, walked. -/
namespace Go.Proofs.Ytmpkciidhopckaa
open Go.RowKit Go.Sort
set_option linter.unusedVariables false

/-- Columns that share a point are the same or next to one another. -/
theorem share_near {ax az bx bz x z x' z' : Int} {p q : Met} (hp : meetO ax az bx bz x z = some p) (hq : meetO ax az bx bz x' z' = some q) (h1 : q.fn * p.ld ≤ p.ln * q.fd) (h2 : p.fn * q.ld ≤ q.ln * p.fd) :
    (-1 ≤ x - x' ∧ x - x' ≤ 1) ∧ (-1 ≤ z - z' ∧ z - z' ≤ 1) := by
  obtain ⟨v1, _, _⟩ := meet_ok hp
  obtain ⟨v2, _, _⟩ := meet_ok hq
  obtain ⟨a1, a2, a3, a4, a5, a6, a7⟩ := met_le hp
  obtain ⟨b1, b2, b3, b4, b5, b6, b7⟩ := met_le hq
  have near : ∀ (n n' P M : Int), 0 < M → (2 * n * M ≤ P ∧ P ≤ (2 * n + 2) * M) → (2 * n' * M ≤ P ∧ P ≤ (2 * n' + 2) * M) → -1 ≤ n - n' ∧ n - n' ≤ 1 := fun n n' P M hM i1 i2 => by
    have e1 := Int.le_of_mul_le_mul_right (Int.le_trans i1.1 i2.2) hM
    have e2 := Int.le_of_mul_le_mul_right (Int.le_trans i2.1 i1.2) hM
    omega
  rcases Nat.le_total (p.fn * q.fd) (q.fn * p.fd) with h | h
  · have s1 := (meet_spec v1 b2 b1).2 ⟨p, hp, h, h1⟩
    have s2 := (meet_spec v2 b2 b1).2 ⟨q, hq, Nat.le_refl _, b4⟩
    unfold InAx at s1 s2
    exact ⟨near _ _ _ _ (by omega) s1.1 s2.1, near _ _ _ _ (by omega) s1.2 s2.2⟩
  · have s1 := (meet_spec v1 a2 a1).2 ⟨p, hp, Nat.le_refl _, a4⟩
    have s2 := (meet_spec v2 a2 a1).2 ⟨q, hq, h, h2⟩
    unfold InAx at s1 s2
    exact ⟨near _ _ _ _ (by omega) s1.1 s2.1, near _ _ _ _ (by omega) s1.2 s2.2⟩

theorem share_far {ax az bx bz x z x' z' : Int} (h : ¬ ((-1 ≤ x - x' ∧ x - x' ≤ 1) ∧ (-1 ≤ z - z' ∧ z - z' ≤ 1))) : shareB ax az bx bz x z x' z' = false := by
  cases hs : shareB ax az bx bz x z x' z' with
  | false => rfl
  | true =>
    exfalso
    unfold shareB at hs
    split at hs
    · rename_i p q hp hq
      have g1 := meetO_good hp
      have g2 := meetO_good hq
      unfold Good at g1 g2
      rw [lessN (by omega) (by omega) (by omega) (by omega), lessN (by omega) (by omega) (by omega) (by omega)] at hs
      simp only [Bool.and_eq_true, Bool.not_eq_true', decide_eq_false_iff_not] at hs
      exact h (share_near hp hq (by omega) (by omega))
    · cases hs

set_option maxHeartbeats 4000000 in
set_option maxRecDepth 100000 in
theorem q_share (ax az bx bz x z f1 g1 l1 k1 x' z' f2 g2 l2 k2 : Int) (w : World) :
    Calls Try.prog 16 #[.agg #[.int .i64 ax, .int .i64 az], .agg #[.int .i64 bx, .int .i64 bz], .agg #[.int .i64 x, .int .i64 z, .int .i64 f1, .int .i64 g1, .int .i64 l1, .int .i64 k1], .agg #[.int .i64 x', .int .i64 z', .int .i64 f2, .int .i64 g2, .int .i64 l2, .int .i64 k2]] w fun e w' => e = .returned (.bool (shareB ax az bx bz x z x' z')) ∧ New w w' := by
  obtain ⟨v, hv⟩ : ∃ v, v = shareB ax az bx bz x z x' z' := ⟨_, rfl⟩
  rw [← hv]
  have hfar := fun h => share_far (ax := ax) (az := az) (bx := bx) (bz := bz) (x := x) (z := z) (x' := x') (z' := z') h
  rw [← hv] at hfar
  unfold shareB at hv
  have hm1 := fun w => q_meets ax az bx bz x z w
  have hm2 := fun w => q_meets ax az bx bz x' z' w
  cases h1 : meetO ax az bx bz x z with
  | none =>
    rw [h1] at hm1 hv
    have hv1 : Hid (v = false) := hv
    replace hm1 := Lib.hid hm1
    clear hv h1 hfar hm2
    go_enter Try.func16, Try.ntmps16
    go_wp2_with fail
    generalize hW : World.alloc _ _ = W
    ((have a0 : W.cell? ⟨w.heap.size, 0, none⟩ = some (.int .i64 ax) := (by subst hW; go_simp)); (have a1 : W.cell? ⟨w.heap.size, 1, none⟩ = some (.int .i64 az) := (by subst hW; go_simp)); (have b0 : W.cell? ⟨w.heap.size + 1, 0, none⟩ = some (.int .i64 bx) := (by subst hW; go_simp)); (have b1 : W.cell? ⟨w.heap.size + 1, 1, none⟩ = some (.int .i64 bz) := (by subst hW; go_simp)); (have e0 : W.cell? ⟨w.heap.size + 1 + 1, 0, none⟩ = some (.int .i64 x) := (by subst hW; go_simp)); (have e1 : W.cell? ⟨w.heap.size + 1 + 1, 1, none⟩ = some (.int .i64 z) := (by subst hW; go_simp)); (have d0 : W.cell? ⟨w.heap.size + 1 + 1 + 1, 0, none⟩ = some (.int .i64 x') := (by subst hW; go_simp)); (have d1 : W.cell? ⟨w.heap.size + 1 + 1 + 1, 1, none⟩ = some (.int .i64 z') := (by subst hW; go_simp)))
    have hn : New w W := by subst hW; (repeat (first | (with_reducible exact New.refl _) | (with_reducible assumption) | ((with_reducible refine New.setB ?_ ?_ _); focus (first | omega | (simp; omega) | (simp; done))) | (with_reducible refine New.alloc ?_ _) | (with_reducible refine New.drew ?_) | (with_reducible refine New.drewN ?_ _) | (with_reducible refine New.hat ?_ _) | ((with_reducible apply New.snart); (with_reducible assumption))))
    clear hW
    refine (hm1.out _).mono ?_
    rintro e w1 ⟨rfl, n1⟩
    replace hn := hn.trans n1
    clear n1
    simp only [Option.isSome_none]
    go_wp2_with fail
    go_ret
    rw [hv1.out]
    exact ⟨rfl, hn⟩
  | some p =>
    rw [h1] at hm1 hv
    cases h2 : meetO ax az bx bz x' z' with
    | none =>
      rw [h2] at hm2 hv
      have hv1 : Hid (v = false) := hv
      replace hm1 := Lib.hid hm1
      replace hm2 := Lib.hid hm2
      clear hv h1 h2 hfar
      go_enter Try.func16, Try.ntmps16
      go_wp2_with fail
      generalize hW : World.alloc _ _ = W
      ((have a0 : W.cell? ⟨w.heap.size, 0, none⟩ = some (.int .i64 ax) := (by subst hW; go_simp)); (have a1 : W.cell? ⟨w.heap.size, 1, none⟩ = some (.int .i64 az) := (by subst hW; go_simp)); (have b0 : W.cell? ⟨w.heap.size + 1, 0, none⟩ = some (.int .i64 bx) := (by subst hW; go_simp)); (have b1 : W.cell? ⟨w.heap.size + 1, 1, none⟩ = some (.int .i64 bz) := (by subst hW; go_simp)); (have e0 : W.cell? ⟨w.heap.size + 1 + 1, 0, none⟩ = some (.int .i64 x) := (by subst hW; go_simp)); (have e1 : W.cell? ⟨w.heap.size + 1 + 1, 1, none⟩ = some (.int .i64 z) := (by subst hW; go_simp)); (have d0 : W.cell? ⟨w.heap.size + 1 + 1 + 1, 0, none⟩ = some (.int .i64 x') := (by subst hW; go_simp)); (have d1 : W.cell? ⟨w.heap.size + 1 + 1 + 1, 1, none⟩ = some (.int .i64 z') := (by subst hW; go_simp)))
      have hn : New w W := by subst hW; (repeat (first | (with_reducible exact New.refl _) | (with_reducible assumption) | ((with_reducible refine New.setB ?_ ?_ _); focus (first | omega | (simp; omega) | (simp; done))) | (with_reducible refine New.alloc ?_ _) | (with_reducible refine New.drew ?_) | (with_reducible refine New.drewN ?_ _) | (with_reducible refine New.hat ?_ _) | ((with_reducible apply New.snart); (with_reducible assumption))))
      clear hW
      refine (hm1.out _).mono ?_
      rintro e w1 ⟨rfl, n1⟩
      ((replace a0 := New.keep n1 a0); (replace a1 := New.keep n1 a1); (replace b0 := New.keep n1 b0); (replace b1 := New.keep n1 b1); (replace e0 := New.keep n1 e0); (replace e1 := New.keep n1 e1); (replace d0 := New.keep n1 d0); (replace d1 := New.keep n1 d1))
      replace hn := hn.trans n1
      clear n1
      simp only [Option.isSome_some]
      go_wp2_with fail
      refine (hm2.out _).mono ?_
      rintro e w2 ⟨rfl, n1⟩
      replace hn := hn.trans n1
      clear n1
      simp only [Option.isSome_none]
      go_wp2_with fail
      go_ret
      rw [hv1.out]
      exact ⟨rfl, hn⟩
    | some q =>
      rw [h2] at hm2 hv
      simp only [] at hv
      obtain ⟨v1, _, _⟩ := meet_ok h1
      obtain ⟨v2, _, _⟩ := meet_ok h2
      have gp := meetO_good h1
      have gq := meetO_good h2
      unfold Good at gp gq
      have bb1 : -33 ≤ x - x' ∧ x - x' ≤ 33 := by omega
      have bb2 : -33 ≤ z - z' ∧ z - z' ≤ 33 := by omega
      have c1 := fun W => q_cell ax az bx bz x z W v1
      have c2 := fun W => q_cell ax az bx bz x' z' W v2
      rw [h1] at c1
      rw [h2] at c2
      have A1 := fun W => r_abs (x - x') W (by omega)
      have A2 := fun W => r_abs (z - z') W (by omega)
      obtain ⟨dx, hdx⟩ : ∃ d : Int, ((x - x').natAbs : Int) = d := ⟨_, rfl⟩
      obtain ⟨dz, hdz⟩ : ∃ d : Int, ((z - z').natAbs : Int) = d := ⟨_, rfl⟩
      rw [hdx] at A1
      rw [hdz] at A2
      replace hm1 := Lib.hid hm1
      replace hm2 := Lib.hid hm2
      replace A1 := Lib.hid A1
      replace A2 := Lib.hid A2
      replace c1 := Lib.hid c1
      replace c2 := Lib.hid c2
      by_cases hx : -1 ≤ x - x' ∧ x - x' ≤ 1
      rotate_left
      · have hv1 : Hid (v = false) := hfar (fun h => hx h.1)
        have hd1 : decide ((1 : Int) < dx) = true := decide_eq_true (by omega)
        clear hv h1 h2 hfar gp gq v1 v2 c1 c2 A2 hx hdx hdz
        go_enter Try.func16, Try.ntmps16
        go_wp2_with fail
        generalize hW : World.alloc _ _ = W
        ((have a0 : W.cell? ⟨w.heap.size, 0, none⟩ = some (.int .i64 ax) := (by subst hW; go_simp)); (have a1 : W.cell? ⟨w.heap.size, 1, none⟩ = some (.int .i64 az) := (by subst hW; go_simp)); (have b0 : W.cell? ⟨w.heap.size + 1, 0, none⟩ = some (.int .i64 bx) := (by subst hW; go_simp)); (have b1 : W.cell? ⟨w.heap.size + 1, 1, none⟩ = some (.int .i64 bz) := (by subst hW; go_simp)); (have e0 : W.cell? ⟨w.heap.size + 1 + 1, 0, none⟩ = some (.int .i64 x) := (by subst hW; go_simp)); (have e1 : W.cell? ⟨w.heap.size + 1 + 1, 1, none⟩ = some (.int .i64 z) := (by subst hW; go_simp)); (have d0 : W.cell? ⟨w.heap.size + 1 + 1 + 1, 0, none⟩ = some (.int .i64 x') := (by subst hW; go_simp)); (have d1 : W.cell? ⟨w.heap.size + 1 + 1 + 1, 1, none⟩ = some (.int .i64 z') := (by subst hW; go_simp)))
        have hn : New w W := by subst hW; (repeat (first | (with_reducible exact New.refl _) | (with_reducible assumption) | ((with_reducible refine New.setB ?_ ?_ _); focus (first | omega | (simp; omega) | (simp; done))) | (with_reducible refine New.alloc ?_ _) | (with_reducible refine New.drew ?_) | (with_reducible refine New.drewN ?_ _) | (with_reducible refine New.hat ?_ _) | ((with_reducible apply New.snart); (with_reducible assumption))))
        clear hW
        refine (hm1.out _).mono ?_
        rintro e w1 ⟨rfl, n1⟩
        ((replace a0 := New.keep n1 a0); (replace a1 := New.keep n1 a1); (replace b0 := New.keep n1 b0); (replace b1 := New.keep n1 b1); (replace e0 := New.keep n1 e0); (replace e1 := New.keep n1 e1); (replace d0 := New.keep n1 d0); (replace d1 := New.keep n1 d1))
        replace hn := hn.trans n1
        clear n1
        simp only [Option.isSome_some]
        go_wp2_with fail
        refine (hm2.out _).mono ?_
        rintro e w2 ⟨rfl, n1⟩
        ((replace a0 := New.keep n1 a0); (replace a1 := New.keep n1 a1); (replace b0 := New.keep n1 b0); (replace b1 := New.keep n1 b1); (replace e0 := New.keep n1 e0); (replace e1 := New.keep n1 e1); (replace d0 := New.keep n1 d0); (replace d1 := New.keep n1 d1))
        replace hn := hn.trans n1
        clear n1
        simp only [Option.isSome_some]
        go_wp2_with fail
        refine (A1.out _).mono ?_
        rintro e w3 ⟨rfl, rfl⟩
        go_wp2_with fail
        go_ret
        rw [hv1.out]
        exact ⟨rfl, hn⟩
      by_cases hz : -1 ≤ z - z' ∧ z - z' ≤ 1
      rotate_left
      · have hv1 : Hid (v = false) := hfar (fun h => hz h.2)
        have hd1 : decide ((1 : Int) < dx) = false := decide_eq_false (by omega)
        have hd2 : decide ((1 : Int) < dz) = true := decide_eq_true (by omega)
        clear hv h1 h2 hfar gp gq v1 v2 c1 c2 hx hz hdx hdz
        go_enter Try.func16, Try.ntmps16
        go_wp2_with fail
        generalize hW : World.alloc _ _ = W
        ((have a0 : W.cell? ⟨w.heap.size, 0, none⟩ = some (.int .i64 ax) := (by subst hW; go_simp)); (have a1 : W.cell? ⟨w.heap.size, 1, none⟩ = some (.int .i64 az) := (by subst hW; go_simp)); (have b0 : W.cell? ⟨w.heap.size + 1, 0, none⟩ = some (.int .i64 bx) := (by subst hW; go_simp)); (have b1 : W.cell? ⟨w.heap.size + 1, 1, none⟩ = some (.int .i64 bz) := (by subst hW; go_simp)); (have e0 : W.cell? ⟨w.heap.size + 1 + 1, 0, none⟩ = some (.int .i64 x) := (by subst hW; go_simp)); (have e1 : W.cell? ⟨w.heap.size + 1 + 1, 1, none⟩ = some (.int .i64 z) := (by subst hW; go_simp)); (have d0 : W.cell? ⟨w.heap.size + 1 + 1 + 1, 0, none⟩ = some (.int .i64 x') := (by subst hW; go_simp)); (have d1 : W.cell? ⟨w.heap.size + 1 + 1 + 1, 1, none⟩ = some (.int .i64 z') := (by subst hW; go_simp)))
        have hn : New w W := by subst hW; (repeat (first | (with_reducible exact New.refl _) | (with_reducible assumption) | ((with_reducible refine New.setB ?_ ?_ _); focus (first | omega | (simp; omega) | (simp; done))) | (with_reducible refine New.alloc ?_ _) | (with_reducible refine New.drew ?_) | (with_reducible refine New.drewN ?_ _) | (with_reducible refine New.hat ?_ _) | ((with_reducible apply New.snart); (with_reducible assumption))))
        clear hW
        refine (hm1.out _).mono ?_
        rintro e w1 ⟨rfl, n1⟩
        ((replace a0 := New.keep n1 a0); (replace a1 := New.keep n1 a1); (replace b0 := New.keep n1 b0); (replace b1 := New.keep n1 b1); (replace e0 := New.keep n1 e0); (replace e1 := New.keep n1 e1); (replace d0 := New.keep n1 d0); (replace d1 := New.keep n1 d1))
        replace hn := hn.trans n1
        clear n1
        simp only [Option.isSome_some]
        go_wp2_with fail
        refine (hm2.out _).mono ?_
        rintro e w2 ⟨rfl, n1⟩
        ((replace a0 := New.keep n1 a0); (replace a1 := New.keep n1 a1); (replace b0 := New.keep n1 b0); (replace b1 := New.keep n1 b1); (replace e0 := New.keep n1 e0); (replace e1 := New.keep n1 e1); (replace d0 := New.keep n1 d0); (replace d1 := New.keep n1 d1))
        replace hn := hn.trans n1
        clear n1
        simp only [Option.isSome_some]
        go_wp2_with fail
        refine (A1.out _).mono ?_
        rintro e w3 ⟨rfl, rfl⟩
        go_wp2_with fail
        refine (A2.out _).mono ?_
        rintro e w4 ⟨rfl, rfl⟩
        go_wp2_with fail
        go_ret
        rw [hv1.out]
        exact ⟨rfl, hn⟩
      · have hd1 : decide ((1 : Int) < dx) = false := decide_eq_false (by omega)
        have hd2 : decide ((1 : Int) < dz) = false := decide_eq_false (by omega)
        obtain ⟨pn, pd, pl, pk⟩ := p
        obtain ⟨qn, qd, ql, qk⟩ := q
        simp only [] at gp gq hv
        have L1 := fun W => q_less pl pk qn qd W (by omega) (by omega) (by omega) (by omega)
        have L2 := fun W => q_less ql qk pn pd W (by omega) (by omega) (by omega) (by omega)
        have lr1 : lessB pl pk qn qd = ltR pl pk qn qd := by unfold lessB; rw [ratB_iff.2 (by omega), ratB_iff.2 (by omega)]; rfl
        have lr2 : lessB ql qk pn pd = ltR ql qk pn pd := by unfold lessB; rw [ratB_iff.2 (by omega), ratB_iff.2 (by omega)]; rfl
        rw [lr1, lr2] at hv
        generalize ltR pl pk qn qd = u1 at *
        generalize ltR ql qk pn pd = u2 at *
        have hv1 : Hid (v = (!u1 && !u2)) := hv
        replace L1 := Lib.hid L1
        replace L2 := Lib.hid L2
        clear hv h1 h2 hfar gp gq v1 v2 hx hz hdx hdz lr1 lr2
        go_enter Try.func16, Try.ntmps16
        go_wp2_with fail
        generalize hW : World.alloc _ _ = W
        ((have a0 : W.cell? ⟨w.heap.size, 0, none⟩ = some (.int .i64 ax) := (by subst hW; go_simp)); (have a1 : W.cell? ⟨w.heap.size, 1, none⟩ = some (.int .i64 az) := (by subst hW; go_simp)); (have b0 : W.cell? ⟨w.heap.size + 1, 0, none⟩ = some (.int .i64 bx) := (by subst hW; go_simp)); (have b1 : W.cell? ⟨w.heap.size + 1, 1, none⟩ = some (.int .i64 bz) := (by subst hW; go_simp)); (have e0 : W.cell? ⟨w.heap.size + 1 + 1, 0, none⟩ = some (.int .i64 x) := (by subst hW; go_simp)); (have e1 : W.cell? ⟨w.heap.size + 1 + 1, 1, none⟩ = some (.int .i64 z) := (by subst hW; go_simp)); (have d0 : W.cell? ⟨w.heap.size + 1 + 1 + 1, 0, none⟩ = some (.int .i64 x') := (by subst hW; go_simp)); (have d1 : W.cell? ⟨w.heap.size + 1 + 1 + 1, 1, none⟩ = some (.int .i64 z') := (by subst hW; go_simp)))
        have hn : New w W := by subst hW; (repeat (first | (with_reducible exact New.refl _) | (with_reducible assumption) | ((with_reducible refine New.setB ?_ ?_ _); focus (first | omega | (simp; omega) | (simp; done))) | (with_reducible refine New.alloc ?_ _) | (with_reducible refine New.drew ?_) | (with_reducible refine New.drewN ?_ _) | (with_reducible refine New.hat ?_ _) | ((with_reducible apply New.snart); (with_reducible assumption))))
        clear hW
        refine (hm1.out _).mono ?_
        rintro e w1 ⟨rfl, n1⟩
        ((replace a0 := New.keep n1 a0); (replace a1 := New.keep n1 a1); (replace b0 := New.keep n1 b0); (replace b1 := New.keep n1 b1); (replace e0 := New.keep n1 e0); (replace e1 := New.keep n1 e1); (replace d0 := New.keep n1 d0); (replace d1 := New.keep n1 d1))
        replace hn := hn.trans n1
        clear n1
        simp only [Option.isSome_some]
        go_wp2_with fail
        refine (hm2.out _).mono ?_
        rintro e w2 ⟨rfl, n1⟩
        ((replace a0 := New.keep n1 a0); (replace a1 := New.keep n1 a1); (replace b0 := New.keep n1 b0); (replace b1 := New.keep n1 b1); (replace e0 := New.keep n1 e0); (replace e1 := New.keep n1 e1); (replace d0 := New.keep n1 d0); (replace d1 := New.keep n1 d1))
        replace hn := hn.trans n1
        clear n1
        simp only [Option.isSome_some]
        go_wp2_with fail
        refine (A1.out _).mono ?_
        rintro e w3 ⟨rfl, rfl⟩
        go_wp2_with fail
        refine (A2.out _).mono ?_
        rintro e w4 ⟨rfl, rfl⟩
        go_wp2_with fail
        refine (c1.out _).mono ?_
        rintro e w1 ⟨⟨i0, i1, i2, i3, i4, i5, rfl, hi⟩, n1⟩
        obtain ⟨rfl, rfl, rfl, rfl, rfl, rfl⟩ := hi _ rfl
        simp only [Option.isSome_some]
        ((replace a0 := New.keep n1 a0); (replace a1 := New.keep n1 a1); (replace b0 := New.keep n1 b0); (replace b1 := New.keep n1 b1); (replace e0 := New.keep n1 e0); (replace e1 := New.keep n1 e1); (replace d0 := New.keep n1 d0); (replace d1 := New.keep n1 d1))
        replace hn := hn.trans n1
        clear n1 hi
        ((have lz0 : w.heap.size < w1.heap.size := World.block_lt_of_cell? _ _ a0); (have lz1 : w.heap.size + 1 < w1.heap.size := World.block_lt_of_cell? _ _ b0); (have lz2 : w.heap.size + 1 + 1 < w1.heap.size := World.block_lt_of_cell? _ _ e0); (have lz3 : w.heap.size + 1 + 1 + 1 < w1.heap.size := World.block_lt_of_cell? _ _ d0))
        go_upto_region 4 with fail
        refine Code.at (fun V hV => ?_)
        obtain ⟨B, hB⟩ : ∃ B, B = w1.heap.size := ⟨_, rfl⟩
        rw [← hB]
        have n2 : New w1 V := by subst hV; (repeat (first | (with_reducible exact New.refl _) | (with_reducible assumption) | ((with_reducible refine New.setB ?_ ?_ _); focus (first | omega | (simp; omega) | (simp; done))) | (with_reducible refine New.alloc ?_ _) | (with_reducible refine New.drew ?_) | (with_reducible refine New.drewN ?_ _) | (with_reducible refine New.hat ?_ _) | ((with_reducible apply New.snart); (with_reducible assumption))))
        have p2 : V.cell? ⟨B, 2, none⟩ = some (.int .i64 pn) := by subst hB; subst hV; go_simp
        have p3 : V.cell? ⟨B, 3, none⟩ = some (.int .i64 pd) := by subst hB; subst hV; go_simp
        have p4 : V.cell? ⟨B, 4, none⟩ = some (.int .i64 pl) := by subst hB; subst hV; go_simp
        have p5 : V.cell? ⟨B, 5, none⟩ = some (.int .i64 pk) := by subst hB; subst hV; go_simp
        ((replace a0 := New.keep n2 a0); (replace a1 := New.keep n2 a1); (replace b0 := New.keep n2 b0); (replace b1 := New.keep n2 b1); (replace e0 := New.keep n2 e0); (replace e1 := New.keep n2 e1); (replace d0 := New.keep n2 d0); (replace d1 := New.keep n2 d1))
        replace hn := hn.trans n2
        clear hV hB n2 lz0 lz1 lz2 lz3
        go_wp2_with fail
        refine (c2.out _).mono ?_
        rintro e w2 ⟨⟨i0, i1, i2, i3, i4, i5, rfl, hi⟩, n2⟩
        obtain ⟨rfl, rfl, rfl, rfl, rfl, rfl⟩ := hi _ rfl
        simp only [Option.isSome_some]
        replace p2 := New.keep n2 p2
        replace p3 := New.keep n2 p3
        replace p4 := New.keep n2 p4
        replace p5 := New.keep n2 p5
        replace hn := hn.trans n2
        have lB : B < w2.heap.size := World.block_lt_of_cell? _ _ p2
        clear n2 a0 a1 b0 b1 e0 e1 d0 d1 hi
        go_upto_region 5 with fail
        refine Code.at (fun V2 hV => ?_)
        obtain ⟨B2, hB⟩ : ∃ B, B = w2.heap.size := ⟨_, rfl⟩
        rw [← hB]
        have n2 : New w2 V2 := by subst hV; (repeat (first | (with_reducible exact New.refl _) | (with_reducible assumption) | ((with_reducible refine New.setB ?_ ?_ _); focus (first | omega | (simp; omega) | (simp; done))) | (with_reducible refine New.alloc ?_ _) | (with_reducible refine New.drew ?_) | (with_reducible refine New.drewN ?_ _) | (with_reducible refine New.hat ?_ _) | ((with_reducible apply New.snart); (with_reducible assumption))))
        have q2 : V2.cell? ⟨B2, 2, none⟩ = some (.int .i64 qn) := by subst hB; subst hV; go_simp
        have q3 : V2.cell? ⟨B2, 3, none⟩ = some (.int .i64 qd) := by subst hB; subst hV; go_simp
        have q4 : V2.cell? ⟨B2, 4, none⟩ = some (.int .i64 ql) := by subst hB; subst hV; go_simp
        have q5 : V2.cell? ⟨B2, 5, none⟩ = some (.int .i64 qk) := by subst hB; subst hV; go_simp
        replace p2 := New.keep n2 p2
        replace p3 := New.keep n2 p3
        replace p4 := New.keep n2 p4
        replace p5 := New.keep n2 p5
        replace hn := hn.trans n2
        clear hV hB n2 lB
        go_wp2_with fail
        refine (L1.out _).mono ?_
        rintro e w3 ⟨rfl, n3⟩
        replace p2 := New.keep n3 p2
        replace p3 := New.keep n3 p3
        replace q4 := New.keep n3 q4
        replace q5 := New.keep n3 q5
        replace hn := hn.trans n3
        clear n3 p4 p5 q2 q3
        cases u1
        · go_wp2_with fail
          refine (L2.out _).mono ?_
          rintro e w4 ⟨rfl, n4⟩
          go_wp2_with fail
          go_ret
          rw [hv1.out]
          exact ⟨rfl, hn.trans n4⟩
        · go_wp2_with fail
          go_ret
          rw [hv1.out]
          exact ⟨rfl, hn⟩

end Go.Proofs.Ytmpkciidhopckaa

/- The document's order of columns, walked; Same. -/
namespace Go.Proofs.Ytmpkciidhopckaa
open Go.RowKit Go.Sort
set_option linter.unusedVariables false

set_option maxHeartbeats 2000000 in
set_option maxRecDepth 100000 in
theorem q_ahead (P Q : Col) (w : World) :
    Calls Try.prog 67 #[.agg #[.int .i64 P.x, .int .i64 P.z, .int .i64 P.m.fn, .int .i64 P.m.fd, .int .i64 P.m.ln, .int .i64 P.m.ld], .agg #[.int .i64 Q.x, .int .i64 Q.z, .int .i64 Q.m.fn, .int .i64 Q.m.fd, .int .i64 Q.m.ln, .int .i64 Q.m.ld]] w fun e w' => e = .returned (.bool (colLt P Q)) ∧ New w w' := by
  have gp := P.ok
  have gq := Q.ok
  have hl := fun W => q_less P.m.fn P.m.fd Q.m.fn Q.m.fd W (by unfold Good at gp; omega) (by unfold Good at gp; omega) (by unfold Good at gq; omega) (by unfold Good at gq; omega)
  obtain ⟨v, hv⟩ : ∃ v, v = colLt P Q := ⟨_, rfl⟩
  rw [← hv]
  have HV : Hid _ := hv
  clear hv
  obtain ⟨px, pz, ⟨pn, pd, pl, pk⟩, _⟩ := P
  obtain ⟨qx, qz, ⟨qn, qd, ql, qk⟩, _⟩ := Q
  simp only [] at *
  have PN := fun w => pt_neq' w pn pd qn qd
  by_cases hf : (pn : Int) = qn ∧ (pd : Int) = qd
  · have e0 : ptEq pn pd qn qd = true := ptEq_iff.2 hf
    simp only [e0] at PN
    by_cases hz : pz = qz
    · have hvv : Hid (v = decide (px < qx)) := by
        show v = _
        rw [HV.out]; unfold colLt; simp only []
        rw [if_pos ⟨by omega, by omega⟩, if_pos hz]
      have hz1 : decide (pz < qz) = false := decide_eq_false (by omega)
      have hz2 : (pz == qz) = true := by simp [hz]
      clear HV hz hl
      go_enter Try.func67, Try.ntmps67
      go_wp2_with fail
      go_ret
      rw [hvv.out]
      exact ⟨rfl, by (repeat (first | (with_reducible exact New.refl _) | (with_reducible assumption) | ((with_reducible refine New.setB ?_ ?_ _); focus (first | omega | (simp; omega) | (simp; done))) | (with_reducible refine New.alloc ?_ _) | (with_reducible refine New.drew ?_) | (with_reducible refine New.drewN ?_ _) | (with_reducible refine New.hat ?_ _) | ((with_reducible apply New.snart); (with_reducible assumption))))⟩
    · have hvv : Hid (v = decide (pz < qz)) := by
        show v = _
        rw [HV.out]; unfold colLt; simp only []
        rw [if_pos ⟨by omega, by omega⟩, if_neg hz]
      have hz2 : (pz == qz) = false := by simp [hz]
      clear HV hz hl
      cases hz1 : decide (pz < qz)
      · rw [hz1] at hvv
        go_enter Try.func67, Try.ntmps67
        go_wp2_with fail
        go_ret
        rw [hvv.out]
        exact ⟨rfl, by (repeat (first | (with_reducible exact New.refl _) | (with_reducible assumption) | ((with_reducible refine New.setB ?_ ?_ _); focus (first | omega | (simp; omega) | (simp; done))) | (with_reducible refine New.alloc ?_ _) | (with_reducible refine New.drew ?_) | (with_reducible refine New.drewN ?_ _) | (with_reducible refine New.hat ?_ _) | ((with_reducible apply New.snart); (with_reducible assumption))))⟩
      · rw [hz1] at hvv
        go_enter Try.func67, Try.ntmps67
        go_wp2_with fail
        go_ret
        rw [hvv.out]
        exact ⟨rfl, by (repeat (first | (with_reducible exact New.refl _) | (with_reducible assumption) | ((with_reducible refine New.setB ?_ ?_ _); focus (first | omega | (simp; omega) | (simp; done))) | (with_reducible refine New.alloc ?_ _) | (with_reducible refine New.drew ?_) | (with_reducible refine New.drewN ?_ _) | (with_reducible refine New.hat ?_ _) | ((with_reducible apply New.snart); (with_reducible assumption))))⟩
  · have e0 : ptEq pn pd qn qd = false := by rw [← Bool.not_eq_true, ptEq_iff]; exact hf
    simp only [e0] at PN
    have hvv : Hid (v = ltR pn pd qn qd) := by
      show v = _
      rw [HV.out]; unfold colLt ltR; simp only []
      rw [if_neg (by omega)]
      exact decide_eq_decide.2 (by rw [← Int.natCast_mul, ← Int.natCast_mul]; omega)
    replace hl := Lib.hid hl
    clear HV hf
    go_enter Try.func67, Try.ntmps67
    go_wp2_with fail
    refine (hl.out _).mono ?_
    rintro e w1 ⟨rfl, n1⟩
    have hn : New w w1 := New.trans (by (repeat (first | (with_reducible exact New.refl _) | (with_reducible assumption) | ((with_reducible refine New.setB ?_ ?_ _); focus (first | omega | (simp; omega) | (simp; done))) | (with_reducible refine New.alloc ?_ _) | (with_reducible refine New.drew ?_) | (with_reducible refine New.drewN ?_ _) | (with_reducible refine New.hat ?_ _) | ((with_reducible apply New.snart); (with_reducible assumption))))) n1
    clear n1
    go_wp2_with fail
    go_ret
    rw [hvv.out]
    exact ⟨rfl, hn⟩

end Go.Proofs.Ytmpkciidhopckaa

/- The document's put, walked: a column into its place. -/
namespace Go.Proofs.Ytmpkciidhopckaa
open Go.RowKit Go.Sort Go.Shelf
set_option linter.unusedVariables false

/-- A column into its place. -/
def insC (c : Col) : List Col → List Col
  | [] => [c]
  | d :: l => if colLt c d = true then c :: d :: l else d :: insC c l

theorem new_grown {a w w' : World} {row : Option Nat} (h : New a w) (hg : w.grownBy w' row) (hr : ∀ k, row = some k → a.heap.size ≤ k) : New a w' := Below.grown h hg h.size hr

theorem drop_at {α : Type} {l : List α} {j : Nat} (h : j < l.length) : l.drop j = l[j] :: l.drop (j + 1) := List.drop_eq_getElem_cons h

theorem row_block {w : World} {base : Nat} {e : TypeId} {k n : Nat} {v : Value} {xs : List Value} (h : w.ownsRow base e k v n xs) : ∀ g, v.ownBlock = some g → base ≤ g := by
  intro g hg
  rcases h.2 with ⟨rfl, _⟩ | ⟨g', cap, cur, rfl, hb, _⟩
  · simp [Value.ownBlock] at hg
  · have : g' = g := by simpa [Value.ownBlock] using hg
    omega

theorem enc_len (L : List Col) : (L.flatMap Col.enc).length = L.length * 6 := by
  induction L with
  | nil => rfl
  | cons c L ih => rw [List.flatMap_cons, List.length_append, ih]; show 6 + _ = _; simp; omega

theorem own_is {w : World} {base : Nat} {v : Value} {L : List Col} (h : w.ownsRow base 27 6 v L.length (L.flatMap Col.enc)) : RowIs w v L := by
  rcases h.2 with ⟨rfl, h0⟩ | ⟨g, cap, cur, rfl, hb, hg, hl, _⟩
  · exact Or.inl ⟨rfl, List.eq_nil_of_length_eq_zero h0⟩
  · exact Or.inr ⟨g, cap, rfl, hl, row_holds h rfl⟩

theorem row_new {w w' : World} {base : Nat} {e : TypeId} {k n : Nat} {v : Value} {xs : List Value} (h : w.ownsRow base e k v n xs) (hn : New w w') : w'.ownsRow base e k v n xs := by
  obtain ⟨h1, h2⟩ := h
  refine ⟨h1, h2.imp id ?_⟩
  rintro ⟨g, cap, cur, rfl, hb, hg, r⟩
  refine ⟨g, cap, cur, rfl, hb, ?_, r⟩
  rw [hn.block g (by rcases Nat.lt_or_ge g w.heap.size with q | q; exact q; rw [Array.getElem?_eq_none q] at hg; cases hg)]; exact hg

theorem rowIs_new {w w' : World} {v : Value} {L : List Col} (h : RowIs w v L) (hn : New w w') : RowIs w' v L := by
  rcases h with h | ⟨g, cap, rfl, hcap, hH⟩
  · exact Or.inl h
  · refine Or.inr ⟨g, cap, rfl, hcap, fun j hj => ?_⟩
    obtain ⟨p, q⟩ := hH j hj
    exact ⟨New.keep hn p, New.keepF hn p q⟩

theorem enc_one (c : Col) : ∀ u ∈ c.enc, u.oneCell' = true := by
  intro u hu
  simp [Col.enc] at hu
  rcases hu with rfl | rfl | rfl | rfl | rfl | rfl <;> rfl

set_option maxHeartbeats 4000000 in
set_option maxRecDepth 100000 in
theorem q_put (v : Value) (L : List Col) (c : Col) (w : World) (hL : L.length ≤ 1200) (hr : RowIs w v L) :
    Calls Try.prog 41 #[v, .agg #[.int .i64 c.x, .int .i64 c.z, .int .i64 c.m.fn, .int .i64 c.m.fd, .int .i64 c.m.ln, .int .i64 c.m.ld]] w fun e w' =>
      ∃ v', e = .returned v' ∧ RowIs w' v' (insC c L) ∧ New w w' := by
  obtain ⟨i0, hi, hz0, hz1, hz2⟩ := info_parts cell_info
  obtain ⟨at0, cap, rfl⟩ := hr.len
  have HR := Lib.hid hr
  have HC0 : ∀ j (hj : j < L.length), ∃ g, at0 = some ⟨g, 0, none⟩ ∧ w.cell? ⟨g, j * 6, none⟩ = some (.int .i64 L[j].x) ∧ w.cell? ⟨g, j * 6 + 1, none⟩ = some (.int .i64 L[j].z) ∧ w.cell? ⟨g, j * 6 + 2, none⟩ = some (.int .i64 L[j].m.fn) ∧
      w.cell? ⟨g, j * 6 + 3, none⟩ = some (.int .i64 L[j].m.fd) ∧ w.cell? ⟨g, j * 6 + 4, none⟩ = some (.int .i64 L[j].m.ln) ∧ w.cell? ⟨g, j * 6 + 5, none⟩ = some (.int .i64 L[j].m.ld) := fun j hj => by
    obtain ⟨g, cap', e, _, hc⟩ := hr.at (by omega : 0 < L.length)
    injection e with e1 e2 e3
    exact ⟨g, e1, hc j hj⟩
  have HC := Lib.hid HC0
  clear HC0
  have HI := Lib.hid hi
  clear hr hi
  go_enter Try.func41, Try.ntmps41
  go_wp2_with fail
  generalize hW : World.alloc _ _ = W
  have x0 : W.cell? ⟨w.heap.size, 0, none⟩ = some (.int .i64 c.x) := by subst hW; go_simp
  have x1 : W.cell? ⟨w.heap.size, 1, none⟩ = some (.int .i64 c.z) := by subst hW; go_simp
  have x2 : W.cell? ⟨w.heap.size, 2, none⟩ = some (.int .i64 c.m.fn) := by subst hW; go_simp
  have x3 : W.cell? ⟨w.heap.size, 3, none⟩ = some (.int .i64 c.m.fd) := by subst hW; go_simp
  have x4 : W.cell? ⟨w.heap.size, 4, none⟩ = some (.int .i64 c.m.ln) := by subst hW; go_simp
  have x5 : W.cell? ⟨w.heap.size, 5, none⟩ = some (.int .i64 c.m.ld) := by subst hW; go_simp
  have hn : New w W := by subst hW; (repeat (first | (with_reducible exact New.refl _) | (with_reducible assumption) | ((with_reducible refine New.setB ?_ ?_ _); focus (first | omega | (simp; omega) | (simp; done))) | (with_reducible refine New.alloc ?_ _) | (with_reducible refine New.drew ?_) | (with_reducible refine New.drewN ?_ _) | (with_reducible refine New.hat ?_ _) | ((with_reducible apply New.snart); (with_reducible assumption))))
  have hB : w.heap.size < W.heap.size := World.block_lt_of_cell? _ _ x0
  have hWs : W.heap.size = w.heap.size + 1 := by subst hW; simp
  clear hW
  go_loopg [5, 6, 7] L.length (fun k s5 s6 s7 wr => ∃ (j : Nat) (K : List Col) (b : Bool), j + k = L.length ∧ s7 = .int .i64 j ∧ s6 = .bool b ∧
    ((b = false ∧ K.length = j ∧ insC c L = K ++ insC c (L.drop j)) ∨ (b = true ∧ K.length = j + 1 ∧ insC c L = K ++ L.drop j)) ∧ wr.ownsRow (w.heap.size + 1) 27 6 s5 K.length (K.flatMap Col.enc) ∧ New W wr)
  case atStart => exact ⟨0, [], false, by omega, rfl, rfl, Or.inl ⟨rfl, rfl, rfl⟩, World.ownsRow_nil _ _ _ _, New.refl _⟩
  case round =>
    obtain ⟨j, K, b, hj, rfl, rfl, hins, hown, hw⟩ := hrel
    ((replace x0 := hw.keep x0); (replace x1 := hw.keep x1); (replace x2 := hw.keep x2); (replace x3 := hw.keep x3); (replace x4 := hw.keep x4); (replace x5 := hw.keep x5))
    have HO := Lib.hid hown
    have hS := hw.size
    clear hown
    by_cases hlt : j < L.length
    · obtain ⟨g, rfl, c0, c1, c2, c3, c4, c5⟩ := HC.out j hlt
      have hjz : (j : Int) < (L.length : Int) := by omega
      have QA := Lib.hid (fun W => q_ahead c L[j] W)
      have hd := drop_at hlt
      have hnext : j < L.length := hlt
      rw [hd] at hins
      have hcons : insC c (L[j] :: L.drop (j + 1)) = if colLt c L[j] = true then c :: L[j] :: L.drop (j + 1) else L[j] :: insC c (L.drop (j + 1)) := rfl
      rw [hcons] at hins
      clear hcons hd
      generalize hQ : L[j] = Q at *
      clear hQ
      have RC := Lib.hid (And.intro c0 (And.intro c1 (And.intro c2 (And.intro c3 (And.intro c4 c5)))))
      clear c0 c1 c2 c3 c4 c5
      have hwr := hn.trans hw
      obtain ⟨c0, c1, c2, c3, c4, c5⟩ := RC.out
      replace c0 := hwr.keep c0
      replace c1 := hwr.keep c1
      replace c2 := hwr.keep c2
      replace c3 := hwr.keep c3
      replace c4 := hwr.keep c4
      replace c5 := hwr.keep c5
      rcases hins with ⟨rfl, hK, hins⟩ | ⟨rfl, hK, hins⟩
      · cases hlt2 : colLt c Q
        · rw [hlt2, if_neg (by simp)] at hins
          rw [hlt2] at QA
          have HIN := Lib.hid hins
          clear hins hlt2
          go_wp2_with fail
          (refine wp_region_hat (by kernel_rfl) (by kernel_rfl) ?_; intro hatc hatf; (repeat (go_big_quiet_step ((go_at_call 67; exact Calls.hat (QA.out _))))); refine wpQuiet_nil ?_; rintro _ ⟨y, rfl⟩)
          have n1 : New wr y.w := y.h
          replace HO := Lib.hid (row_new HO.out n1)
          have hwV := hw.trans n1
          clear n1 hatc hatf c0 c1 c2 c3 c4 c5 x0 x1 x2 x3 x4 x5
          generalize y.w = V at *
          have hSV := hwV.size
          have hnV := hn.trans hwV
          obtain ⟨c0, c1, c2, c3, c4, c5⟩ := RC.out
          replace c0 := hnV.keep c0
          replace c1 := hnV.keep c1
          replace c2 := hnV.keep c2
          replace c3 := hnV.keep c3
          replace c4 := hnV.keep c4
          replace c5 := hnV.keep c5
          go_wp2_with (at_builtin; refine wpList_append_own _ rfl _ _ 28 rfl (w.heap.size + 1) 27 i0 (.agg #[.int .i64 0, .int .i64 0, .int .i64 0, .int .i64 0, .int .i64 0, .int .i64 0]) 6 48 Try.underlying28 HI.out hz0 hz1 hz2 rfl (by decide) _ _ _ rfl (World.ownsRow.alloc HO.out _) ⟨V.heap.size, 0, none⟩ 1 1 Q.enc rfl rfl (cells_new6 _ _ _) (enc_one Q) (by unfold maxLen; omega) (by omega) (by simp; omega) ?_)
          intro v1 w1 own1 gr1 _
          have hn1 : New W w1 := new_grown (New.alloc hwV _) gr1 (fun k hk => by rw [hWs]; exact row_block HO.out k hk)
          clear c0 c1 c2 c3 c4 c5 gr1 hwV hnV HO
          have OW := Lib.hid own1
          clear own1
          go_wp2_with fail
          go_roundg (gk - 1)
          case measure => omega
          case rel => exact ⟨j + 1, K ++ [Q], false, by omega, by go_num, rfl, Or.inl ⟨rfl, by simp; omega, by rw [HIN.out]; simp⟩, by have := OW.out; rw [List.flatMap_append, List.length_append]; simpa [hK] using this, hn1⟩
        · rw [hlt2, if_pos rfl] at hins
          rw [hlt2] at QA
          have HIN := Lib.hid hins
          clear hins hlt2
          go_wp2_with fail
          (refine wp_region_hat (by kernel_rfl) (by kernel_rfl) ?_; intro hatc hatf; (repeat (go_big_quiet_step ((go_at_call 67; exact Calls.hat (QA.out _))))); refine wpQuiet_nil ?_; rintro _ ⟨y, rfl⟩)
          have n1 : New wr y.w := y.h
          replace HO := Lib.hid (row_new HO.out n1)
          ((replace x0 := n1.keep x0); (replace x1 := n1.keep x1); (replace x2 := n1.keep x2); (replace x3 := n1.keep x3); (replace x4 := n1.keep x4); (replace x5 := n1.keep x5))
          have hwV := hw.trans n1
          clear n1 hatc hatf c0 c1 c2 c3 c4 c5
          generalize y.w = V at *
          have hSV := hwV.size
          go_wp2_with (at_builtin; refine wpList_append_own _ rfl _ _ 28 rfl (w.heap.size + 1) 27 i0 (.agg #[.int .i64 0, .int .i64 0, .int .i64 0, .int .i64 0, .int .i64 0, .int .i64 0]) 6 48 Try.underlying28 HI.out hz0 hz1 hz2 rfl (by decide) _ _ _ rfl (World.ownsRow.alloc HO.out _) ⟨V.heap.size, 0, none⟩ 1 1 c.enc rfl rfl (cells_new6 _ _ _) (enc_one c) (by unfold maxLen; omega) (by omega) (by simp; omega) ?_)
          intro v1 w1 own1 gr1 _
          have hn1 : New W w1 := new_grown (New.alloc hwV _) gr1 (fun k hk => by rw [hWs]; exact row_block HO.out k hk)
          have hS1 := hn1.size
          have hnV := hn.trans hn1
          clear gr1 hwV HO x0 x1 x2 x3 x4 x5
          have OW := Lib.hid own1
          clear own1
          obtain ⟨c0, c1, c2, c3, c4, c5⟩ := RC.out
          replace c0 := hnV.keep c0
          replace c1 := hnV.keep c1
          replace c2 := hnV.keep c2
          replace c3 := hnV.keep c3
          replace c4 := hnV.keep c4
          replace c5 := hnV.keep c5
          go_wp2_with (at_builtin; refine wpList_append_own _ rfl _ _ 28 rfl (w.heap.size + 1) 27 i0 (.agg #[.int .i64 0, .int .i64 0, .int .i64 0, .int .i64 0, .int .i64 0, .int .i64 0]) 6 48 Try.underlying28 HI.out hz0 hz1 hz2 rfl (by decide) _ _ _ rfl (World.ownsRow.alloc OW.out _) ⟨w1.heap.size, 0, none⟩ 1 1 Q.enc rfl rfl (cells_new6 _ _ _) (enc_one Q) (by unfold maxLen; omega) (by omega) (by simp; omega) ?_)
          intro v2 w2 own2 gr2 _
          have hn2 : New W w2 := new_grown (New.alloc hn1 _) gr2 (fun k hk => by rw [hWs]; exact row_block OW.out k hk)
          have OW2 := Lib.hid own2
          clear c0 c1 c2 c3 c4 c5 gr2 own2 hn1 hnV OW
          go_wp2_with fail
          go_roundg (gk - 1)
          case measure => omega
          case rel => exact ⟨j + 1, K ++ [c] ++ [Q], true, by omega, by go_num, rfl, Or.inr ⟨rfl, by simp; omega, by rw [HIN.out]; simp⟩, by have := OW2.out; rw [List.flatMap_append, List.flatMap_append, List.length_append, List.length_append]; simpa [hK] using this, hn2⟩
      · have HIN := Lib.hid hins
        clear hins
        go_wp2_with fail
        (refine wp_region_hat (by kernel_rfl) (by kernel_rfl) ?_; intro hatc hatf; (repeat (go_big_quiet_step ((fail)))); refine wpQuiet_nil ?_; rintro _ ⟨y, rfl⟩)
        have n1 : New wr y.w := y.h
        replace HO := Lib.hid (row_new HO.out n1)
        have hwV := hw.trans n1
        clear n1 hatc hatf c0 c1 c2 c3 c4 c5 x0 x1 x2 x3 x4 x5
        generalize y.w = V at *
        have hSV := hwV.size
        have hnV := hn.trans hwV
        obtain ⟨c0, c1, c2, c3, c4, c5⟩ := RC.out
        replace c0 := hnV.keep c0
        replace c1 := hnV.keep c1
        replace c2 := hnV.keep c2
        replace c3 := hnV.keep c3
        replace c4 := hnV.keep c4
        replace c5 := hnV.keep c5
        go_wp2_with (at_builtin; refine wpList_append_own _ rfl _ _ 28 rfl (w.heap.size + 1) 27 i0 (.agg #[.int .i64 0, .int .i64 0, .int .i64 0, .int .i64 0, .int .i64 0, .int .i64 0]) 6 48 Try.underlying28 HI.out hz0 hz1 hz2 rfl (by decide) _ _ _ rfl (World.ownsRow.alloc HO.out _) ⟨V.heap.size, 0, none⟩ 1 1 Q.enc rfl rfl (cells_new6 _ _ _) (enc_one Q) (by unfold maxLen; omega) (by omega) (by simp; omega) ?_)
        intro v1 w1 own1 gr1 _
        have hn1 : New W w1 := new_grown (New.alloc hwV _) gr1 (fun k hk => by rw [hWs]; exact row_block HO.out k hk)
        clear c0 c1 c2 c3 c4 c5 gr1 hwV hnV HO
        have OW := Lib.hid own1
        clear own1
        go_wp2_with fail
        go_roundg (gk - 1)
        case measure => omega
        case rel => exact ⟨j + 1, K ++ [Q], true, by omega, by go_num, rfl, Or.inr ⟨rfl, by simp; omega, by rw [HIN.out]; simp⟩, by have := OW.out; rw [List.flatMap_append, List.length_append]; simpa [hK] using this, hn1⟩
    · obtain rfl : j = L.length := by omega
      rw [List.drop_length] at hins
      have hdf : decide ((L.length : Int) < (L.length : Int)) = false := by simp
      rcases hins with ⟨rfl, hK, hins⟩ | ⟨rfl, hK, hins⟩
      · have HIN := Lib.hid hins
        clear hins
        go_wp2_with (at_builtin; refine wpList_append_own _ rfl _ _ 28 rfl (w.heap.size + 1) 27 i0 (.agg #[.int .i64 0, .int .i64 0, .int .i64 0, .int .i64 0, .int .i64 0, .int .i64 0]) 6 48 Try.underlying28 HI.out hz0 hz1 hz2 rfl (by decide) _ _ _ rfl (World.ownsRow.alloc HO.out _) ⟨wr.heap.size, 0, none⟩ 1 1 c.enc rfl rfl (cells_new6 _ _ _) (enc_one c) (by unfold maxLen; omega) (by omega) (by simp; omega) ?_)
        intro v1 w1 own1 gr1 _
        have hn1 : New W w1 := new_grown (New.alloc hw _) gr1 (fun k hk => by rw [hWs]; exact row_block HO.out k hk)
        have OW := Lib.hid own1
        clear own1 gr1 HO
        go_wp2_with fail
        go_ret
        refine ⟨_, rfl, ?_, hn.trans hn1⟩
        rw [HIN.out]
        refine own_is (base := w.heap.size + 1) ?_
        have := OW.out
        rw [List.flatMap_append, List.length_append]
        simpa [insC, hK] using this
      · have HIN := Lib.hid hins
        clear hins
        go_wp2_with fail
        go_ret
        refine ⟨_, rfl, ?_, hn.trans hw⟩
        rw [HIN.out, List.append_nil]
        exact own_is HO.out

end Go.Proofs.Ytmpkciidhopckaa

/- Columns put into their places one by one come to the one row in order. No walk. -/
namespace Go.Proofs.Ytmpkciidhopckaa
open Go.RowKit Go.Sort
set_option linter.unusedVariables false

theorem insC_len (c : Col) : ∀ L : List Col, (insC c L).length = L.length + 1
  | [] => rfl
  | d :: l => by
    unfold insC
    split
    · rfl
    · simp [insC_len c l]
theorem insC_mem {c e : Col} : ∀ {L : List Col}, e ∈ insC c L ↔ e = c ∨ e ∈ L
  | [] => by simp [insC]
  | d :: l => by
    unfold insC
    split
    · simp
    · simp only [List.mem_cons, insC_mem (L := l)]
      constructor
      · rintro (h | h | h) <;> simp [h]
      · rintro (h | h | h) <;> simp [h]

theorem colLt_apart {c d : Col} (h : Apart c d) (hn : colLt c d = false) : colLt d c = true := by
  rw [colLt_not] at hn
  rw [colLt_iff]
  unfold Apart at h
  omega
theorem colLt_trans {a b c : Col} (h1 : colLt a b = true) (h2 : colLt b c = true) : colLt a c = true := by
  have ga := a.ok
  have gb := b.ok
  have gc := c.ok
  unfold Good at ga gb gc
  rw [colLt_iff] at *
  rcases h1 with h1 | ⟨e1, h1⟩
  · rcases h2 with h2 | ⟨e2, h2⟩
    · exact Or.inl (cross_trans_lt (by omega) (by omega) (by omega) h1 (Nat.le_of_lt h2))
    · exact Or.inl (cross_trans_lt (by omega) (by omega) (by omega) h1 (Nat.le_of_eq e2))
  · rcases h2 with h2 | ⟨e2, h2⟩
    · exact Or.inl (cross_trans_lt' (by omega) (by omega) (by omega) (Nat.le_of_eq e1) h2)
    · refine Or.inr ⟨Nat.le_antisymm (cross_trans (by omega) (by omega) (by omega) (Nat.le_of_eq e1) (Nat.le_of_eq e2)) (cross_trans (by omega) (by omega) (by omega) (Nat.le_of_eq e2.symm) (Nat.le_of_eq e1.symm)), ?_⟩
      omega
theorem colLt_irrefl (c : Col) : colLt c c = false := by rw [colLt_not]; omega

/-- In order, each ahead of all behind it. -/
def Strict (L : List Col) : Prop := L.Pairwise (fun c d => colLt c d = true)

theorem insC_strict {c : Col} : ∀ {L : List Col}, Strict L → (∀ d ∈ L, Apart c d) → Strict (insC c L)
  | [], _, _ => by simp [insC, Strict]
  | d :: l, hs, ha => by
    unfold Strict at hs
    rw [List.pairwise_cons] at hs
    unfold insC
    split
    · rename_i h
      unfold Strict
      rw [List.pairwise_cons, List.pairwise_cons]
      refine ⟨fun e he => ?_, hs⟩
      rcases List.mem_cons.1 he with rfl | he
      · exact h
      · exact colLt_trans h (hs.1 e he)
    · rename_i h
      have hdc := colLt_apart (ha d (by simp)) (by simpa using h)
      unfold Strict
      rw [List.pairwise_cons]
      refine ⟨fun e he => ?_, insC_strict (L := l) hs.2 (fun e he => ha e (by simp [he]))⟩
      rcases insC_mem.1 he with rfl | he
      · exact hdc
      · exact hs.1 e he

def insAll (l : List Col) : List Col := l.foldl (fun L c => insC c L) []
theorem insAll_snoc (l : List Col) (c : Col) : insAll (l ++ [c]) = insC c (insAll l) := by unfold insAll; simp

theorem foldl_mem {e : Col} : ∀ (l M : List Col), e ∈ l.foldl (fun L c => insC c L) M ↔ e ∈ l ∨ e ∈ M
  | [], M => by simp
  | c :: l, M => by
    rw [List.foldl_cons, foldl_mem l, insC_mem, List.mem_cons]
    constructor
    · rintro (h | h | h) <;> simp [h]
    · rintro ((h | h) | h) <;> simp [h]
theorem foldl_len : ∀ (l M : List Col), (l.foldl (fun L c => insC c L) M).length = l.length + M.length
  | [], M => by simp
  | c :: l, M => by rw [List.foldl_cons, foldl_len l, insC_len]; simp; omega
theorem foldl_strict : ∀ (l M : List Col), Strict M → l.Pairwise Apart → (∀ c ∈ l, ∀ d ∈ M, Apart c d) → Strict (l.foldl (fun L c => insC c L) M)
  | [], M, h, _, _ => h
  | c :: l, M, h, hp, ha => by
    rw [List.foldl_cons]
    rw [List.pairwise_cons] at hp
    refine foldl_strict l _ (insC_strict h (fun d hd => ha c (by simp) d hd)) hp.2 fun e he d hd => ?_
    rcases insC_mem.1 hd with rfl | hd
    · exact fun k => hp.1 e he ⟨k.1.symm, k.2.symm⟩
    · exact ha e (by simp [he]) d hd

theorem strict_unique : ∀ {L M : List Col}, Strict L → Strict M → (∀ e, e ∈ L ↔ e ∈ M) → L = M
  | [], [], _, _, _ => rfl
  | [], d :: M, _, _, h => by have := (h d).2 (by simp); cases this
  | c :: L, [], _, _, h => by have := (h c).1 (by simp); cases this
  | c :: L, d :: M, h1, h2, h => by
    unfold Strict at h1 h2
    rw [List.pairwise_cons] at h1 h2
    have hcd : c = d := by
      rcases List.mem_cons.1 ((h c).1 (by simp)) with e | hc
      · exact e
      · rcases List.mem_cons.1 ((h d).2 (by simp)) with e | hd
        · exact e.symm
        · have a := h2.1 c hc
          have b := h1.1 d hd
          have := colLt_trans a b
          rw [colLt_irrefl] at this
          cases this
    subst hcd
    refine congrArg (c :: ·) (strict_unique h1.2 h2.2 fun e => ?_)
    constructor
    · intro he
      rcases List.mem_cons.1 ((h e).1 (by simp [he])) with rfl | k
      · have := h1.1 e he; rw [colLt_irrefl] at this; cases this
      · exact k
    · intro he
      rcases List.mem_cons.1 ((h e).2 (by simp [he])) with rfl | k
      · have := h2.1 e he; rw [colLt_irrefl] at this; cases this
      · exact k

theorem cells_strict (ax az bx bz : Nat) : Strict (cellsL ax az bx bz) := by
  have h1 := cellsL_apart ax az bx bz
  have h2 := cellsL_order ax az bx bz
  unfold InOrder at h2
  unfold Strict
  exact (h1.and h2).imp fun {c d} ⟨a, b⟩ => colLt_apart (fun k => a ⟨k.1.symm, k.2.symm⟩) b

theorem grid_all {ax az bx bz : Nat} {c : Col} : c ∈ gridL ax az bx bz (-1) (-1) 34 34 ↔ c ∈ cellsL ax az bx bz := by
  constructor
  · intro h
    obtain ⟨j, _, i, _, hc⟩ := mem_grid.1 h
    exact met_mem hc
  · intro h
    have hc := cellsL_mem h
    have g := c.ok
    unfold Good at g
    refine mem_grid.2 ⟨(c.z + 1).toNat, by omega, (c.x + 1).toNat, by omega, ?_⟩
    rw [show (-1 : Int) + ((c.x + 1).toNat : Int) = c.x by omega, show (-1 : Int) + ((c.z + 1).toNat : Int) = c.z by omega]
    exact hc

theorem all_cells (ax az bx bz : Nat) : insAll (gridL ax az bx bz (-1) (-1) 34 34) = cellsL ax az bx bz :=
  strict_unique (foldl_strict _ [] List.Pairwise.nil (grid_apart _ _ _ _ _ _ _ _) (fun c _ d hd => by cases hd)) (cells_strict _ _ _ _)
    (fun e => by unfold insAll; rw [foldl_mem, ← grid_all]; simp)

end Go.Proofs.Ytmpkciidhopckaa

/- The document's Cells, walked. -/
namespace Go.Proofs.Ytmpkciidhopckaa
open Go.RowKit Go.Sort
set_option linter.unusedVariables false

theorem ins_len {ax az bx bz : Int} {i j : Nat} (hi : i ≤ 34) (hj : j < 34) : (insAll (gridL ax az bx bz (-1) (-1) 34 j ++ rowL ax az bx bz (-1) (-1 + (j : Int)) i)).length ≤ 1200 := by
  unfold insAll
  rw [foldl_len, List.length_append]
  have l1 := gridL_len ax az bx bz (-1) (-1) 34 j
  have l2 := rowL_len ax az bx bz (-1) (-1 + (j : Int)) i
  simp only [List.length_nil]
  omega

set_option maxHeartbeats 4000000 in
set_option maxRecDepth 100000 in
theorem q_cells_yes (ax az bx bz : Nat) (ha : ax ≤ 64 ∧ az ≤ 64) (hb : bx ≤ 64 ∧ bz ≤ 64) (w : World) :
    Calls Try.prog 11 #[.agg #[.int .i64 ax, .int .i64 az], .agg #[.int .i64 bx, .int .i64 bz]] w fun e w' =>
      ∃ v, e = .returned (.tuple #[v, .int .i64 0]) ∧ RowIs w' v (cellsL ax az bx bz) ∧ New w w' := by
  have h1 := fun w => q_point ax az w
  have h2 := fun w => q_point bx bz w
  rw [ptB_iff.2 (by omega)] at h1
  rw [ptB_iff.2 (by omega)] at h2
  have HV := Lib.hid (fun (x z : Int) (hx : -1 ≤ x ∧ x ≤ 32) (hz : -1 ≤ z ∧ z ≤ 32) => by
    unfold validB
    rw [ptB_iff.2 (by omega), ptB_iff.2 (by omega), witB_iff.2 hx, witB_iff.2 hz]
    rfl : ∀ x z : Int, (-1 ≤ x ∧ x ≤ 32) → (-1 ≤ z ∧ z ≤ 32) → validB ax az bx bz x z = true)
  replace h1 := Lib.hid h1
  replace h2 := Lib.hid h2
  clear ha hb
  go_enter Try.func11, Try.ntmps11
  go_wp2_with fail
  generalize hW : World.alloc _ _ = W
  have a0 : W.cell? ⟨w.heap.size, 0, none⟩ = some (.int .i64 ax) := by subst hW; go_simp
  have a1 : W.cell? ⟨w.heap.size, 1, none⟩ = some (.int .i64 az) := by subst hW; go_simp
  have b0 : W.cell? ⟨w.heap.size + 1, 0, none⟩ = some (.int .i64 bx) := by subst hW; go_simp
  have b1 : W.cell? ⟨w.heap.size + 1, 1, none⟩ = some (.int .i64 bz) := by subst hW; go_simp
  have hn : New w W := by subst hW; (repeat (first | (with_reducible exact New.refl _) | (with_reducible assumption) | ((with_reducible refine New.setB ?_ ?_ _); focus (first | omega | (simp; omega) | (simp; done))) | (with_reducible refine New.alloc ?_ _) | (with_reducible refine New.drew ?_) | (with_reducible refine New.drewN ?_ _) | (with_reducible refine New.hat ?_ _) | ((with_reducible apply New.snart); (with_reducible assumption))))
  clear hW
  refine (h1.out _).mono ?_
  rintro e w1 ⟨rfl, n1⟩
  ((replace a0 := New.keep n1 a0); (replace a1 := New.keep n1 a1); (replace b0 := New.keep n1 b0); (replace b1 := New.keep n1 b1))
  replace hn := hn.trans n1
  clear n1
  go_wp2_with fail
  refine (h2.out _).mono ?_
  rintro e w2 ⟨rfl, n1⟩
  ((replace a0 := New.keep n1 a0); (replace a1 := New.keep n1 a1); (replace b0 := New.keep n1 b0); (replace b1 := New.keep n1 b1))
  replace hn := hn.trans n1
  clear n1 h1 h2
  go_wp2_with fail
  go_loopg [6, 7] 34 (fun k s6 s7 wr => ∃ j : Nat, j + k = 34 ∧ s7 = .int .i64 (-1 + (j : Int)) ∧ RowIs wr s6 (insAll (gridL ax az bx bz (-1) (-1) 34 j)) ∧ New w2 wr)
  case atStart => exact ⟨0, by omega, rfl, Or.inl ⟨rfl, rfl⟩, New.refl _⟩
  case round =>
    obtain ⟨j, hj, rfl, hrow, hw⟩ := hrel
    have HR := Lib.hid hrow
    clear hrow
    ((replace a0 := New.keep hw a0); (replace a1 := New.keep hw a1); (replace b0 := New.keep hw b0); (replace b1 := New.keep hw b1))
    by_cases hlt : j < 34
    · have hdj : decide (-1 + (j : Int) ≤ 32) = true := decide_eq_true (by omega)
      go_wp2_with fail
      rename World => wa
      go_loopg [6, 8] 34 (fun k s6 s8 wr2 => ∃ i : Nat, i + k = 34 ∧ s8 = .int .i64 (-1 + (i : Int)) ∧ RowIs wr2 s6 (insAll (gridL ax az bx bz (-1) (-1) 34 j ++ rowL ax az bx bz (-1) (-1 + (j : Int)) i)) ∧ New wa wr2)
      case atStart => exact ⟨0, by omega, rfl, by have := HR.out; simpa [rowL] using this, New.refl _⟩
      case round =>
        clear HR
        obtain ⟨i, hi, rfl, hrow, hu⟩ := hrel
        have HR := Lib.hid hrow
        clear hrow
        ((replace a0 := New.keep hu a0); (replace a1 := New.keep hu a1); (replace b0 := New.keep hu b0); (replace b1 := New.keep hu b1))
        by_cases hlt2 : i < 34
        · have hdi : decide (-1 + (i : Int) ≤ 32) = true := decide_eq_true (by omega)
          have QC := Lib.hid (fun W => q_cell ax az bx bz (-1 + (i : Int)) (-1 + (j : Int)) W (HV.out _ _ (by omega) (by omega)))
          have hsucc := rowL_succ (ax : Int) az bx bz (-1) (-1 + (j : Int)) i
          have hlen := ins_len (ax := (ax : Int)) (az := az) (bx := bx) (bz := bz) (i := i) (j := j) (by omega) hlt
          cases hm : meetO ax az bx bz (-1 + (i : Int)) (-1 + (j : Int)) with
          | none =>
            rw [colO_none hm] at hsucc
            rw [hm] at QC
            have HS : Hid (rowL (ax : Int) az bx bz (-1) (-1 + (j : Int)) (i + 1) = rowL (ax : Int) az bx bz (-1) (-1 + (j : Int)) i) := by show _ = _; rw [hsucc]; simp
            clear hsucc hm hlen
            go_wp2_with fail
            refine (QC.out _).mono ?_
            rintro e w4 ⟨⟨d0, d1, d2, d3, d4, d5, rfl, -⟩, n1⟩
            simp only [Option.isSome_none]
            have hu4 := hu.trans n1
            replace HR := Lib.hid (rowIs_new HR.out n1)
            clear n1 a0 a1 b0 b1
            go_wp2_with fail
            go_roundg (gk - 1)
            case measure => omega
            case rel => exact ⟨i + 1, by omega, by congr 1; omega, by rw [HS.out]; exact rowIs_new HR.out (by (repeat (first | (with_reducible exact New.refl _) | (with_reducible assumption) | ((with_reducible refine New.setB ?_ ?_ _); focus (first | omega | (simp; omega) | (simp; done))) | (with_reducible refine New.alloc ?_ _) | (with_reducible refine New.drew ?_) | (with_reducible refine New.drewN ?_ _) | (with_reducible refine New.hat ?_ _) | ((with_reducible apply New.snart); (with_reducible assumption))))), by (repeat (first | (with_reducible exact New.refl _) | (with_reducible assumption) | ((with_reducible refine New.setB ?_ ?_ _); focus (first | omega | (simp; omega) | (simp; done))) | (with_reducible refine New.alloc ?_ _) | (with_reducible refine New.drew ?_) | (with_reducible refine New.drewN ?_ _) | (with_reducible refine New.hat ?_ _) | ((with_reducible apply New.snart); (with_reducible assumption))))⟩
          | some m =>
            rw [colO_some hm] at hsucc
            rw [hm] at QC
            obtain ⟨c, hcx, hcz, hcm, hce⟩ : ∃ c : Col, c.x = -1 + (i : Int) ∧ c.z = -1 + (j : Int) ∧ c.m = m ∧ c = ⟨-1 + (i : Int), -1 + (j : Int), m, meetO_good hm⟩ := ⟨_, rfl, rfl, rfl, rfl⟩
            rw [← hce] at hsucc
            have HS : Hid (insAll (gridL (ax : Int) az bx bz (-1) (-1) 34 j ++ rowL (ax : Int) az bx bz (-1) (-1 + (j : Int)) (i + 1)) = insC c (insAll (gridL (ax : Int) az bx bz (-1) (-1) 34 j ++ rowL (ax : Int) az bx bz (-1) (-1 + (j : Int)) i))) := by
              show _ = _; rw [hsucc, Option.toList_some, ← List.append_assoc, insAll_snoc]
            generalize insAll (gridL (ax : Int) az bx bz (-1) (-1) 34 j ++ rowL (ax : Int) az bx bz (-1) (-1 + (j : Int)) i) = K at *
            have QP := Lib.hid (fun v W hr => q_put v K c W hlen hr)
            rw [hcx, hcz, hcm] at QP
            clear hsucc hm hlen hcx hcz hcm hce
            go_wp2_with fail
            refine (QC.out _).mono ?_
            rintro e w4 ⟨⟨d0, d1, d2, d3, d4, d5, rfl, hd⟩, n1⟩
            obtain ⟨rfl, rfl, rfl, rfl, rfl, rfl⟩ := hd _ rfl
            simp only [Option.isSome_some]
            have hu4 := hu.trans n1
            replace HR := Lib.hid (rowIs_new HR.out n1)
            clear n1 a0 a1 b0 b1 hd
            go_wp2_with fail
            refine (QP.out _ _ (rowIs_new HR.out (by (repeat (first | (with_reducible exact New.refl _) | (with_reducible assumption) | ((with_reducible refine New.setB ?_ ?_ _); focus (first | omega | (simp; omega) | (simp; done))) | (with_reducible refine New.alloc ?_ _) | (with_reducible refine New.drew ?_) | (with_reducible refine New.drewN ?_ _) | (with_reducible refine New.hat ?_ _) | ((with_reducible apply New.snart); (with_reducible assumption))))))).mono ?_
            rintro e w5 ⟨v', rfl, hr5, n5⟩
            have hu5 : New wa w5 := New.trans (by (repeat (first | (with_reducible exact New.refl _) | (with_reducible assumption) | ((with_reducible refine New.setB ?_ ?_ _); focus (first | omega | (simp; omega) | (simp; done))) | (with_reducible refine New.alloc ?_ _) | (with_reducible refine New.drew ?_) | (with_reducible refine New.drewN ?_ _) | (with_reducible refine New.hat ?_ _) | ((with_reducible apply New.snart); (with_reducible assumption))))) n5
            have HR5 := Lib.hid hr5
            clear n5 hr5 hu4 HR
            go_wp2_with fail
            go_roundg (gk - 1)
            case measure => omega
            case rel => exact ⟨i + 1, by omega, by congr 1; omega, by rw [HS.out]; exact HR5.out, hu5⟩
        · obtain rfl : i = 34 := by omega
          have hnext := gridL_succ (ax : Int) az bx bz (-1) (-1) 34 j
          have HN := Lib.hid hnext
          clear hnext
          go_wp2_with fail
          go_roundg (34 - (j + 1))
          case measure => omega
          case rel => exact ⟨j + 1, by omega, by congr 1; omega, by rw [HN.out]; exact HR.out, hw.trans hu⟩
    · obtain rfl : j = 34 := by omega
      have hfin := Lib.hid (all_cells ax az bx bz)
      go_wp2_with fail
      refine bodyPost_ret (results_tmp2 rfl _ _ _) rfl ?_
      exact ⟨_, rfl, by rw [← hfin.out]; exact HR.out, hn.trans hw⟩

end Go.Proofs.Ytmpkciidhopckaa

/- The document's Cells whatever comes in; rows of columns compared. -/
namespace Go.Proofs.Ytmpkciidhopckaa
open Go.RowKit Go.Sort
set_option linter.unusedVariables false

set_option maxHeartbeats 2000000 in
set_option maxRecDepth 100000 in
theorem q_cells_no (ax az bx bz : Int) (h : okB ax az bx bz = false) (w : World) :
    Calls Try.prog 11 #[.agg #[.int .i64 ax, .int .i64 az], .agg #[.int .i64 bx, .int .i64 bz]] w fun e w' =>
      e = .returned (.tuple #[.slice none 0 0, .int .i64 2]) ∧ New w w' := by
  have h1 := fun w => q_point ax az w
  have h2 := fun w => q_point bx bz w
  unfold okB at h
  cases e1 : ptB ax az
  · rw [e1] at h1
    replace h1 := Lib.hid h1
    clear h e1 h2
    go_enter Try.func11, Try.ntmps11
    go_wp2_with fail
    generalize hW : World.alloc _ _ = W
    have hn : New w W := by subst hW; (repeat (first | (with_reducible exact New.refl _) | (with_reducible assumption) | ((with_reducible refine New.setB ?_ ?_ _); focus (first | omega | (simp; omega) | (simp; done))) | (with_reducible refine New.alloc ?_ _) | (with_reducible refine New.drew ?_) | (with_reducible refine New.drewN ?_ _) | (with_reducible refine New.hat ?_ _) | ((with_reducible apply New.snart); (with_reducible assumption))))
    clear hW
    refine (h1.out _).mono ?_
    rintro e w1 ⟨rfl, n1⟩
    replace hn := hn.trans n1
    clear n1
    go_wp2_with fail
    refine bodyPost_ret (results_tmp2 rfl _ _ _) rfl ?_
    exact ⟨rfl, hn⟩
  · rw [e1, Bool.true_and] at h
    rw [e1] at h1
    rw [h] at h2
    replace h1 := Lib.hid h1
    replace h2 := Lib.hid h2
    clear h e1
    go_enter Try.func11, Try.ntmps11
    go_wp2_with fail
    generalize hW : World.alloc _ _ = W
    have b0 : W.cell? ⟨w.heap.size + 1, 0, none⟩ = some (.int .i64 bx) := by subst hW; go_simp
    have b1 : W.cell? ⟨w.heap.size + 1, 1, none⟩ = some (.int .i64 bz) := by subst hW; go_simp
    have hn : New w W := by subst hW; (repeat (first | (with_reducible exact New.refl _) | (with_reducible assumption) | ((with_reducible refine New.setB ?_ ?_ _); focus (first | omega | (simp; omega) | (simp; done))) | (with_reducible refine New.alloc ?_ _) | (with_reducible refine New.drew ?_) | (with_reducible refine New.drewN ?_ _) | (with_reducible refine New.hat ?_ _) | ((with_reducible apply New.snart); (with_reducible assumption))))
    clear hW
    refine (h1.out _).mono ?_
    rintro e w1 ⟨rfl, n1⟩
    replace b0 := New.keep n1 b0
    replace b1 := New.keep n1 b1
    replace hn := hn.trans n1
    clear n1
    go_wp2_with fail
    refine (h2.out _).mono ?_
    rintro e w2 ⟨rfl, n1⟩
    replace hn := hn.trans n1
    clear n1
    go_wp2_with fail
    refine bodyPost_ret (results_tmp2 rfl _ _ _) rfl ?_
    exact ⟨rfl, hn⟩

theorem q_cells (ax az bx bz : Int) (w : World) :
    Calls Try.prog 11 #[.agg #[.int .i64 ax, .int .i64 az], .agg #[.int .i64 bx, .int .i64 bz]] w fun e w' =>
      ∃ v, e = .returned (.tuple #[v, .int .i64 (errOf ax az bx bz)]) ∧ RowIs w' v (told ax az bx bz) ∧ New w w' := by
  unfold told errOf
  cases h : okB ax az bx bz with
  | false =>
    rw [if_neg (by simp), if_neg (by simp)]
    refine (q_cells_no ax az bx bz h w).mono ?_
    rintro e w' ⟨rfl, n⟩
    exact ⟨_, rfl, Or.inl ⟨rfl, rfl⟩, n⟩
  | true =>
    rw [if_pos rfl, if_pos rfl]
    unfold okB at h
    rw [Bool.and_eq_true] at h
    obtain ⟨pa1, pa2⟩ := ptB_iff.1 h.1
    obtain ⟨pb1, pb2⟩ := ptB_iff.1 h.2
    obtain ⟨ax, rfl⟩ : ∃ u : Nat, ax = u := ⟨ax.toNat, by omega⟩
    obtain ⟨az, rfl⟩ : ∃ u : Nat, az = u := ⟨az.toNat, by omega⟩
    obtain ⟨bx, rfl⟩ : ∃ u : Nat, bx = u := ⟨bx.toNat, by omega⟩
    obtain ⟨bz, rfl⟩ : ∃ u : Nat, bz = u := ⟨bz.toNat, by omega⟩
    exact q_cells_yes ax az bx bz (by omega) (by omega) w

theorem cell_neq (w : World) (a b c d e f : Int) : (binOp .neq 27 (.agg #[.int .i64 a, .int .i64 b, .int .i64 c, .int .i64 d, .int .i64 e, .int .i64 f]) (.agg #[.int .i64 a, .int .i64 b, .int .i64 c, .int .i64 d, .int .i64 e, .int .i64 f])).run Try.prog w = .ok (.bool false) w := by
  go_simp

set_option maxHeartbeats 2000000 in
set_option maxRecDepth 100000 in
theorem q_same (v v' : Value) (L : List Col) (w : World) (hL : L.length ≤ 1200) (h : RowIs w v L) (h' : RowIs w v' L) :
    Calls Try.prog 12 #[v, v'] w fun e w' => e = .returned (.bool true) ∧ New w w' := by
  have HC0 : ∀ j (hj : j < L.length), ∃ g cap g' cap', v = .slice (some ⟨g, 0, none⟩) L.length cap ∧ v' = .slice (some ⟨g', 0, none⟩) L.length cap' ∧ (w.cell? ⟨g, j * 6, none⟩ = some (.int .i64 L[j].x) ∧ w.cell? ⟨g, j * 6 + 1, none⟩ = some (.int .i64 L[j].z) ∧ w.cell? ⟨g, j * 6 + 2, none⟩ = some (.int .i64 L[j].m.fn) ∧
      w.cell? ⟨g, j * 6 + 3, none⟩ = some (.int .i64 L[j].m.fd) ∧ w.cell? ⟨g, j * 6 + 4, none⟩ = some (.int .i64 L[j].m.ln) ∧ w.cell? ⟨g, j * 6 + 5, none⟩ = some (.int .i64 L[j].m.ld)) ∧
      (w.cell? ⟨g', j * 6, none⟩ = some (.int .i64 L[j].x) ∧ w.cell? ⟨g', j * 6 + 1, none⟩ = some (.int .i64 L[j].z) ∧ w.cell? ⟨g', j * 6 + 2, none⟩ = some (.int .i64 L[j].m.fn) ∧
      w.cell? ⟨g', j * 6 + 3, none⟩ = some (.int .i64 L[j].m.fd) ∧ w.cell? ⟨g', j * 6 + 4, none⟩ = some (.int .i64 L[j].m.ln) ∧ w.cell? ⟨g', j * 6 + 5, none⟩ = some (.int .i64 L[j].m.ld)) := fun j hj => by
    obtain ⟨g, cap, e, _, hc⟩ := h.at (by omega : 0 < L.length)
    obtain ⟨g', cap', e', _, hc'⟩ := h'.at (by omega : 0 < L.length)
    exact ⟨g, cap, g', cap', e, e', hc j hj, hc' j hj⟩
  obtain ⟨at0, cap, rfl⟩ := h.len
  obtain ⟨at1, cap1, rfl⟩ := h'.len
  have HC := Lib.hid HC0
  clear HC0 h h'
  go_enter Try.func12, Try.ntmps12
  go_wp2_with fail
  go_loopg [5] L.length (fun k i wr => ∃ m : Nat, m + k = L.length ∧ i = .int .i64 m ∧ New w wr)
  case atStart => exact ⟨0, by omega, rfl, New.refl _⟩
  case round =>
    obtain ⟨m, hm, rfl, hw⟩ := hrel
    by_cases hlt : m < L.length
    · obtain ⟨g, c1, g', c2, e1, e2, ⟨c0, c1, c2, c3, c4, c5⟩, ⟨d0, d1, d2, d3, d4, d5⟩⟩ := HC.out m hlt
      injection e1 with e1 _ e1'
      injection e2 with e2 _ e2'
      subst e1 e1' e2 e2'
      have hmz : (m : Int) < (L.length : Int) := by omega
      replace c0 := hw.keep c0
      replace c1 := hw.keep c1
      replace c2 := hw.keep c2
      replace c3 := hw.keep c3
      replace c4 := hw.keep c4
      replace c5 := hw.keep c5
      replace d0 := hw.keep d0
      replace d1 := hw.keep d1
      replace d2 := hw.keep d2
      replace d3 := hw.keep d3
      replace d4 := hw.keep d4
      replace d5 := hw.keep d5
      have CN := fun w => cell_neq w L[m].x L[m].z L[m].m.fn L[m].m.fd L[m].m.ln L[m].m.ld
      generalize L[m] = P at *
      go_wp2_with fail
      (refine wp_region_hat (by kernel_rfl) (by kernel_rfl) ?_; intro hatc hatf; (repeat (go_big_quiet_step ((fail)))); refine wpQuiet_nil ?_; rintro _ ⟨y, rfl⟩)
      have n1 : New wr y.w := y.h
      replace hw := hw.trans n1
      clear n1 hatc hatf c0 c1 c2 c3 c4 c5 d0 d1 d2 d3 d4 d5 CN
      generalize y.w = V at *
      go_wp2_with fail
      go_roundg (gk - 1)
      case measure => omega
      case rel => exact ⟨m + 1, by omega, by go_num, hw⟩
    · obtain rfl : m = L.length := by omega
      go_wp2_with fail
      go_ret
      exact ⟨rfl, hw⟩

end Go.Proofs.Ytmpkciidhopckaa
