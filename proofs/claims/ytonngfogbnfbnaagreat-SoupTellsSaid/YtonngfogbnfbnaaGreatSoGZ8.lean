import Derived.Test.YtonngfogbnfbnaaGreatSoEHZ8
import Derived.Test.YtonngfogbnfbnaaGreatSoEBZ8
import Derived.Test.YtonngfogbnfbnaaGreatSoFTZ8

/- Package soup: whether a list of a kind may be. -/
namespace Go.Proofs.YtonngfogbnfbnaaGreat
open Go.RowKit
set_option linter.unusedVariables false

def HopR.okAt (C : CfgR) (l : List HopR) (i : Nat) : Bool := (l[i]!).may C && (i == 0 || decide ((l[i - 1]!).i < (l[i]!).i))
def HopR.listB (C : CfgR) (l : List HopR) : Bool := decide (l.length ≤ 16) && (List.range l.length).all (HopR.okAt C l)
theorem HopR.okAt_zero (C : CfgR) (l : List HopR) (h : 0 < l.length) : HopR.okAt C l 0 = l[0].may C := by
  unfold HopR.okAt
  rw [getElem!_pos l 0 h]
  simp
theorem HopR.okAt_succ (C : CfgR) (l : List HopR) (i : Nat) (h : i + 1 < l.length) : HopR.okAt C l (i + 1) = (l[i + 1].may C && decide (l[i].i < l[i + 1].i)) := by
  unfold HopR.okAt
  rw [getElem!_pos l (i + 1) h, Nat.add_sub_cancel, getElem!_pos l i (by omega)]
  simp
theorem HopR.listB_no {C : CfgR} {l : List HopR} {i : Nat} (h : i < l.length) (k : HopR.okAt C l i = false) : HopR.listB C l = false := by
  unfold HopR.listB
  rw [Bool.and_eq_false_iff]
  exact Or.inr (List.all_eq_false.2 ⟨i, List.mem_range.2 h, by rw [k]; simp⟩)

set_option maxHeartbeats 4000000 in
set_option maxRecDepth 100000 in
theorem h_listMay (C : CfgR) (hC : C.fine) (S : SoupV) (w : World) (hS : S.ok w) :
    Calls Tryz.prog 37 #[.agg #[.int .i64 C.cl, .int .i64 C.cb, .int .i64 C.ht, .int .i64 C.ri, .int .i64 C.ru, .int .i64 C.wd, .int .i64 C.dp], .agg #[.slice S.a0 S.ts.length S.c0, .slice S.a1 S.bs.length S.c1, .slice S.a2 S.hs.length S.c2], .agg #[.func (.func 64) #[] #[], .func (.func 65) #[] #[], .int .i64 16, .int .i64 2, .func (.func 66) #[] #[]]] w fun e w' => e = .returned (.bool (HopR.listB C S.hs)) ∧ New w w' := by
  have hL := Lib.hid (fun b W => h_list b W)
  have hM := Lib.hid (fun x W => h_may C hC x W)
  have hI := Lib.hid (fun x W => h_id x W)
  have hR := hS.h
  obtain ⟨ts, bs, hs, a0, a1, a2, c0, c1, c2⟩ := S
  simp only at hR ⊢
  obtain ⟨-, hc1, hc2, -, HR⟩ := hR.row
  unfold maxLen at hc2
  clear hR hS hC
  have hlen : hs.length ≤ 9223372036854775807 := by omega
  go_enter Tryz.func37, Tryz.ntmps37
  go_wp2_with fail
  generalize hW : World.alloc _ _ = W
  have hn : New w W := by subst hW; (repeat (first | (with_reducible exact New.refl _) | (with_reducible assumption) | ((with_reducible refine New.setB ?_ ?_ _); focus (first | omega | (simp; omega) | (simp; done))) | (with_reducible refine New.alloc ?_ _) | (with_reducible refine New.drew ?_) | (with_reducible refine New.drewN ?_ _) | (with_reducible refine New.hat ?_ _) | ((with_reducible apply New.snart); (with_reducible assumption))))
  have q2 : W.cell? ⟨w.heap.size + 1, 2, none⟩ = some (.slice a2 hs.length c2) := by subst hW; go_simp
  have k0 : W.cell? ⟨w.heap.size + 1 + 1, 0, none⟩ = some (.func (.func 64) #[] #[]) := by subst hW; go_simp
  have k1 : W.cell? ⟨w.heap.size + 1 + 1, 1, none⟩ = some (.func (.func 65) #[] #[]) := by subst hW; go_simp
  have k2 : W.cell? ⟨w.heap.size + 1 + 1, 2, none⟩ = some (.int .i64 16) := by subst hW; go_simp
  have k3 : W.cell? ⟨w.heap.size + 1 + 1, 3, none⟩ = some (.int .i64 2) := by subst hW; go_simp
  have k4 : W.cell? ⟨w.heap.size + 1 + 1, 4, none⟩ = some (.func (.func 66) #[] #[]) := by subst hW; go_simp
  ((have g0 : World.cell? (W) ⟨w.heap.size, 0, none⟩ = some (.int .i64 C.cl) := (by subst hW; go_simp)); (have g1 : World.cell? (W) ⟨w.heap.size, 1, none⟩ = some (.int .i64 C.cb) := (by subst hW; go_simp)); (have g2 : World.cell? (W) ⟨w.heap.size, 2, none⟩ = some (.int .i64 C.ht) := (by subst hW; go_simp)); (have g3 : World.cell? (W) ⟨w.heap.size, 3, none⟩ = some (.int .i64 C.ri) := (by subst hW; go_simp)); (have g4 : World.cell? (W) ⟨w.heap.size, 4, none⟩ = some (.int .i64 C.ru) := (by subst hW; go_simp)); (have g5 : World.cell? (W) ⟨w.heap.size, 5, none⟩ = some (.int .i64 C.wd) := (by subst hW; go_simp)); (have g6 : World.cell? (W) ⟨w.heap.size, 6, none⟩ = some (.int .i64 C.dp) := (by subst hW; go_simp)))
  clear hW
  refine (hL.out _ _).mono ?_
  rintro e w' ⟨rfl, rfl⟩
  clear hL
  by_cases hm : hs.length ≤ 16
  rotate_left
  · have hd : decide ((16 : Int) < (hs.length : Int)) = true := by simp; omega
    go_wp2_with fail
    go_ret
    exact ⟨retBo (by unfold HopR.listB; simp [hm]), hn⟩
  have hd : decide ((16 : Int) < (hs.length : Int)) = false := by simp; omega
  clear hlen hc1 hc2
  have HR' := Lib.hid (HR.keep hn)
  clear HR
  go_wp2_with fail
  clear hd q2
  go_loopg [22] hs.length (fun k s wr => ∃ i : Nat, s = .int .i64 i ∧ i + k = hs.length ∧ (List.range i).all (HopR.okAt C hs) = true ∧ New W wr)
  case atStart => exact ⟨0, by simp, by omega, by simp, New.refl _⟩
  case round =>
    obtain ⟨i, rfl, hik, hall, hnW⟩ := hrel
    have HA := Lib.hid hall
    clear hall
    by_cases hlt : i < hs.length
    · cases i with
      | zero =>
        have hsr := List.range_succ (n := 0)
        have HSR := Lib.hid hsr
        clear hsr
        obtain ⟨b, off, rfl, hA⟩ := HR'.out (by omega)
        have hA' := hA.keep hnW
        obtain ⟨c0, c1, c2, c3, c4, c5, c6, c7, c8, c9⟩ := HopR.cells hA' (0) hlt
        simp only [Nat.zero_mul, Nat.add_zero] at c0 c1 c2 c3 c4 c5 c6 c7 c8 c9
        (replace k0 := New.keep (hnW) k0; replace k1 := New.keep (hnW) k1; replace k2 := New.keep (hnW) k2; replace k3 := New.keep (hnW) k3; replace k4 := New.keep (hnW) k4)
        (replace g0 := New.keep (hnW) g0; replace g1 := New.keep (hnW) g1; replace g2 := New.keep (hnW) g2; replace g3 := New.keep (hnW) g3; replace g4 := New.keep (hnW) g4; replace g5 := New.keep (hnW) g5; replace g6 := New.keep (hnW) g6)
        clear hA hA'
        go_upto_region 7 with fail
        generalize hZ : World.alloc _ _ = Z
        have nZ : New wr Z := by subst hZ; (repeat (first | (with_reducible exact New.refl _) | (with_reducible assumption) | ((with_reducible refine New.setB ?_ ?_ _); focus (first | omega | (simp; omega) | (simp; done))) | (with_reducible refine New.alloc ?_ _) | (with_reducible refine New.drew ?_) | (with_reducible refine New.drewN ?_ _) | (with_reducible refine New.hat ?_ _) | ((with_reducible apply New.snart); (with_reducible assumption))))
        ((have z0 : World.cell? (Z) ⟨wr.heap.size, 0, none⟩ = some (.int .i64 hs[0].i) := (by subst hZ; go_simp)); (have z1 : World.cell? (Z) ⟨wr.heap.size, 1, none⟩ = some (.int .i64 hs[0].fx) := (by subst hZ; go_simp)); (have z2 : World.cell? (Z) ⟨wr.heap.size, 2, none⟩ = some (.int .i64 hs[0].fz) := (by subst hZ; go_simp)); (have z3 : World.cell? (Z) ⟨wr.heap.size, 3, none⟩ = some (.int .i64 hs[0].fy) := (by subst hZ; go_simp)); (have z4 : World.cell? (Z) ⟨wr.heap.size, 4, none⟩ = some (.int .i64 hs[0].tx) := (by subst hZ; go_simp)); (have z5 : World.cell? (Z) ⟨wr.heap.size, 5, none⟩ = some (.int .i64 hs[0].tz) := (by subst hZ; go_simp)); (have z6 : World.cell? (Z) ⟨wr.heap.size, 6, none⟩ = some (.int .i64 hs[0].ty) := (by subst hZ; go_simp)); (have z7 : World.cell? (Z) ⟨wr.heap.size, 7, none⟩ = some (.bool hs[0].bo) := (by subst hZ; go_simp)); (have z8 : World.cell? (Z) ⟨wr.heap.size, 8, none⟩ = some (.int .i64 hs[0].ar) := (by subst hZ; go_simp)); (have z9 : World.cell? (Z) ⟨wr.heap.size, 9, none⟩ = some (.int .i64 hs[0].co) := (by subst hZ; go_simp)))
        (replace k0 := New.keep (nZ) k0; replace k1 := New.keep (nZ) k1; replace k2 := New.keep (nZ) k2; replace k3 := New.keep (nZ) k3; replace k4 := New.keep (nZ) k4)
        (replace g0 := New.keep (nZ) g0; replace g1 := New.keep (nZ) g1; replace g2 := New.keep (nZ) g2; replace g3 := New.keep (nZ) g3; replace g4 := New.keep (nZ) g4; replace g5 := New.keep (nZ) g5; replace g6 := New.keep (nZ) g6)
        clear c0 c1 c2 c3 c4 c5 c6 c7 c8 c9
        clear hZ
        have hok := HopR.okAt_zero C hs hlt
        cases hmay : hs[0].may C
        · have HM' := Lib.hid (fun W => by have q := hM.out hs[0] W; rw [hmay] at q; exact q : ∀ W, Calls Tryz.prog 81 #[.agg #[.int .i64 C.cl, .int .i64 C.cb, .int .i64 C.ht, .int .i64 C.ri, .int .i64 C.ru, .int .i64 C.wd, .int .i64 C.dp], .agg #[.int .i64 hs[0].i, .int .i64 hs[0].fx, .int .i64 hs[0].fz, .int .i64 hs[0].fy, .int .i64 hs[0].tx, .int .i64 hs[0].tz, .int .i64 hs[0].ty, .bool hs[0].bo, .int .i64 hs[0].ar, .int .i64 hs[0].co], .agg #[.func (.func 64) #[] #[], .func (.func 65) #[] #[], .int .i64 16, .int .i64 2, .func (.func 66) #[] #[]]] W fun e w' => e = .returned (.bool false) ∧ New W w')
          have HNO : Hid (HopR.listB C hs = false) := HopR.listB_no hlt (by rw [HopR.okAt_zero C hs hlt, hmay])
          clear hmay hM
          (refine wp_region_hat (by kernel_rfl) (by kernel_rfl) ?_; intro hatc hatf; (repeat (go_big_quiet_step ((first | (go_at_call 81; exact Calls.hat (HM'.out _)) | (go_at_call 65; exact Calls.hat (hI.out _ _)))))); refine wpQuiet_nil ?_; rintro _ ⟨x, rfl⟩)
          go_wp2_with fail
          go_ret
          exact ⟨retBo HNO.out.symm, ((hn.trans hnW).trans nZ).hat x⟩
        · have HM' := Lib.hid (fun W => by have q := hM.out hs[0] W; rw [hmay] at q; exact q : ∀ W, Calls Tryz.prog 81 #[.agg #[.int .i64 C.cl, .int .i64 C.cb, .int .i64 C.ht, .int .i64 C.ri, .int .i64 C.ru, .int .i64 C.wd, .int .i64 C.dp], .agg #[.int .i64 hs[0].i, .int .i64 hs[0].fx, .int .i64 hs[0].fz, .int .i64 hs[0].fy, .int .i64 hs[0].tx, .int .i64 hs[0].tz, .int .i64 hs[0].ty, .bool hs[0].bo, .int .i64 hs[0].ar, .int .i64 hs[0].co], .agg #[.func (.func 64) #[] #[], .func (.func 65) #[] #[], .int .i64 16, .int .i64 2, .func (.func 66) #[] #[]]] W fun e w' => e = .returned (.bool true) ∧ New W w')
          have HOK := Lib.hid (hok.trans hmay)
          clear hok hmay hM
          (refine wp_region_hat (by kernel_rfl) (by kernel_rfl) ?_; intro hatc hatf; (repeat (go_big_quiet_step ((first | (go_at_call 81; exact Calls.hat (HM'.out _)) | (go_at_call 65; exact Calls.hat (hI.out _ _)))))); refine wpQuiet_nil ?_; rintro _ ⟨x, rfl⟩)
          go_wp2_with fail
          go_roundg (gk - 1)
          case measure => omega
          case rel => exact ⟨1, by go_num, by omega, by rw [HSR.out, List.all_append, HA.out]; simp [HOK.out], (hnW.trans nZ).hat x⟩
      | succ i =>
        have hsr := List.range_succ (n := i + 1)
        have HSR := Lib.hid hsr
        clear hsr
        obtain ⟨b, off, rfl, hA⟩ := HR'.out (by omega)
        have hA' := hA.keep hnW
        obtain ⟨c0, c1, c2, c3, c4, c5, c6, c7, c8, c9⟩ := HopR.cells hA' (i + 1) hlt
        (replace k0 := New.keep (hnW) k0; replace k1 := New.keep (hnW) k1; replace k2 := New.keep (hnW) k2; replace k3 := New.keep (hnW) k3; replace k4 := New.keep (hnW) k4)
        (replace g0 := New.keep (hnW) g0; replace g1 := New.keep (hnW) g1; replace g2 := New.keep (hnW) g2; replace g3 := New.keep (hnW) g3; replace g4 := New.keep (hnW) g4; replace g5 := New.keep (hnW) g5; replace g6 := New.keep (hnW) g6)
        obtain ⟨d0, d1, d2, d3, d4, d5, d6, d7, d8, d9⟩ := HopR.cells hA' i (by omega)
        clear hA hA'
        go_upto_region 7 with fail
        generalize hZ : World.alloc _ _ = Z
        have nZ : New wr Z := by subst hZ; (repeat (first | (with_reducible exact New.refl _) | (with_reducible assumption) | ((with_reducible refine New.setB ?_ ?_ _); focus (first | omega | (simp; omega) | (simp; done))) | (with_reducible refine New.alloc ?_ _) | (with_reducible refine New.drew ?_) | (with_reducible refine New.drewN ?_ _) | (with_reducible refine New.hat ?_ _) | ((with_reducible apply New.snart); (with_reducible assumption))))
        ((have z0 : World.cell? (Z) ⟨wr.heap.size, 0, none⟩ = some (.int .i64 hs[i + 1].i) := (by subst hZ; go_simp)); (have z1 : World.cell? (Z) ⟨wr.heap.size, 1, none⟩ = some (.int .i64 hs[i + 1].fx) := (by subst hZ; go_simp)); (have z2 : World.cell? (Z) ⟨wr.heap.size, 2, none⟩ = some (.int .i64 hs[i + 1].fz) := (by subst hZ; go_simp)); (have z3 : World.cell? (Z) ⟨wr.heap.size, 3, none⟩ = some (.int .i64 hs[i + 1].fy) := (by subst hZ; go_simp)); (have z4 : World.cell? (Z) ⟨wr.heap.size, 4, none⟩ = some (.int .i64 hs[i + 1].tx) := (by subst hZ; go_simp)); (have z5 : World.cell? (Z) ⟨wr.heap.size, 5, none⟩ = some (.int .i64 hs[i + 1].tz) := (by subst hZ; go_simp)); (have z6 : World.cell? (Z) ⟨wr.heap.size, 6, none⟩ = some (.int .i64 hs[i + 1].ty) := (by subst hZ; go_simp)); (have z7 : World.cell? (Z) ⟨wr.heap.size, 7, none⟩ = some (.bool hs[i + 1].bo) := (by subst hZ; go_simp)); (have z8 : World.cell? (Z) ⟨wr.heap.size, 8, none⟩ = some (.int .i64 hs[i + 1].ar) := (by subst hZ; go_simp)); (have z9 : World.cell? (Z) ⟨wr.heap.size, 9, none⟩ = some (.int .i64 hs[i + 1].co) := (by subst hZ; go_simp)))
        (replace k0 := New.keep (nZ) k0; replace k1 := New.keep (nZ) k1; replace k2 := New.keep (nZ) k2; replace k3 := New.keep (nZ) k3; replace k4 := New.keep (nZ) k4)
        (replace g0 := New.keep (nZ) g0; replace g1 := New.keep (nZ) g1; replace g2 := New.keep (nZ) g2; replace g3 := New.keep (nZ) g3; replace g4 := New.keep (nZ) g4; replace g5 := New.keep (nZ) g5; replace g6 := New.keep (nZ) g6)
        clear c0 c1 c2 c3 c4 c5 c6 c7 c8 c9
        (replace d0 := New.keep (nZ) d0; replace d1 := New.keep (nZ) d1; replace d2 := New.keep (nZ) d2; replace d3 := New.keep (nZ) d3; replace d4 := New.keep (nZ) d4; replace d5 := New.keep (nZ) d5; replace d6 := New.keep (nZ) d6; replace d7 := New.keep (nZ) d7; replace d8 := New.keep (nZ) d8; replace d9 := New.keep (nZ) d9)
        clear hZ
        have hok := HopR.okAt_succ C hs i hlt
        cases hmay : hs[i + 1].may C
        · have HM' := Lib.hid (fun W => by have q := hM.out hs[i + 1] W; rw [hmay] at q; exact q : ∀ W, Calls Tryz.prog 81 #[.agg #[.int .i64 C.cl, .int .i64 C.cb, .int .i64 C.ht, .int .i64 C.ri, .int .i64 C.ru, .int .i64 C.wd, .int .i64 C.dp], .agg #[.int .i64 hs[i + 1].i, .int .i64 hs[i + 1].fx, .int .i64 hs[i + 1].fz, .int .i64 hs[i + 1].fy, .int .i64 hs[i + 1].tx, .int .i64 hs[i + 1].tz, .int .i64 hs[i + 1].ty, .bool hs[i + 1].bo, .int .i64 hs[i + 1].ar, .int .i64 hs[i + 1].co], .agg #[.func (.func 64) #[] #[], .func (.func 65) #[] #[], .int .i64 16, .int .i64 2, .func (.func 66) #[] #[]]] W fun e w' => e = .returned (.bool false) ∧ New W w')
          have HNO : Hid (HopR.listB C hs = false) := HopR.listB_no hlt (by rw [HopR.okAt_succ C hs i hlt, hmay]; rfl)
          clear hmay hM
          (refine wp_region_hat (by kernel_rfl) (by kernel_rfl) ?_; intro hatc hatf; (repeat (go_big_quiet_step ((first | (go_at_call 81; exact Calls.hat (HM'.out _)) | (go_at_call 65; exact Calls.hat (hI.out _ _)))))); refine wpQuiet_nil ?_; rintro _ ⟨x, rfl⟩)
          go_wp2_with fail
          go_ret
          exact ⟨retBo HNO.out.symm, ((hn.trans hnW).trans nZ).hat x⟩
        · have HM' := Lib.hid (fun W => by have q := hM.out hs[i + 1] W; rw [hmay] at q; exact q : ∀ W, Calls Tryz.prog 81 #[.agg #[.int .i64 C.cl, .int .i64 C.cb, .int .i64 C.ht, .int .i64 C.ri, .int .i64 C.ru, .int .i64 C.wd, .int .i64 C.dp], .agg #[.int .i64 hs[i + 1].i, .int .i64 hs[i + 1].fx, .int .i64 hs[i + 1].fz, .int .i64 hs[i + 1].fy, .int .i64 hs[i + 1].tx, .int .i64 hs[i + 1].tz, .int .i64 hs[i + 1].ty, .bool hs[i + 1].bo, .int .i64 hs[i + 1].ar, .int .i64 hs[i + 1].co], .agg #[.func (.func 64) #[] #[], .func (.func 65) #[] #[], .int .i64 16, .int .i64 2, .func (.func 66) #[] #[]]] W fun e w' => e = .returned (.bool true) ∧ New W w')
          rw [hmay, Bool.true_and] at hok
          clear hmay hM
          cases hle : decide (hs[i + 1].i ≤ hs[i].i)
          · have HOK : Hid (HopR.okAt C hs (i + 1) = true) := by
              show _ = true
              rw [hok]
              simp at hle ⊢
              first | done | omega
            clear hok
            (refine wp_region_hat (by kernel_rfl) (by kernel_rfl) ?_; intro hatc hatf; (repeat (go_big_quiet_step ((first | (go_at_call 81; exact Calls.hat (HM'.out _)) | (go_at_call 65; exact Calls.hat (hI.out _ _)))))); refine wpQuiet_nil ?_; rintro _ ⟨x, rfl⟩)
            go_wp2_with fail
            go_roundg (gk - 1)
            case measure => omega
            case rel => exact ⟨i + 1 + 1, by go_num, by omega, by rw [HSR.out, List.all_append, HA.out]; simp [HOK.out], (hnW.trans nZ).hat x⟩
          · have HNO : Hid (HopR.listB C hs = false) := HopR.listB_no hlt (by rw [hok]; simp at hle ⊢; first | done | omega)
            clear hok
            (refine wp_region_hat (by kernel_rfl) (by kernel_rfl) ?_; intro hatc hatf; (repeat (go_big_quiet_step ((first | (go_at_call 81; exact Calls.hat (HM'.out _)) | (go_at_call 65; exact Calls.hat (hI.out _ _)))))); refine wpQuiet_nil ?_; rintro _ ⟨x, rfl⟩)
            go_wp2_with fail
            go_ret
            exact ⟨retBo HNO.out.symm, ((hn.trans hnW).trans nZ).hat x⟩
    · go_wp2_with fail
      go_ret
      refine ⟨retBo ?_, hn.trans hnW⟩
      have := HA.out
      rw [show i = hs.length by omega] at this
      unfold HopR.listB
      rw [this]
      simp [hm]

end Go.Proofs.YtonngfogbnfbnaaGreat

/- Package soup: whether a list of a kind may be. -/
namespace Go.Proofs.YtonngfogbnfbnaaGreat
open Go.RowKit
set_option linter.unusedVariables false

def BoxR.okAt (C : CfgR) (l : List BoxR) (i : Nat) : Bool := (l[i]!).may C && (i == 0 || decide ((l[i - 1]!).i < (l[i]!).i))
def BoxR.listB (C : CfgR) (l : List BoxR) : Bool := decide (l.length ≤ 16) && (List.range l.length).all (BoxR.okAt C l)
theorem BoxR.okAt_zero (C : CfgR) (l : List BoxR) (h : 0 < l.length) : BoxR.okAt C l 0 = l[0].may C := by
  unfold BoxR.okAt
  rw [getElem!_pos l 0 h]
  simp
theorem BoxR.okAt_succ (C : CfgR) (l : List BoxR) (i : Nat) (h : i + 1 < l.length) : BoxR.okAt C l (i + 1) = (l[i + 1].may C && decide (l[i].i < l[i + 1].i)) := by
  unfold BoxR.okAt
  rw [getElem!_pos l (i + 1) h, Nat.add_sub_cancel, getElem!_pos l i (by omega)]
  simp
theorem BoxR.listB_no {C : CfgR} {l : List BoxR} {i : Nat} (h : i < l.length) (k : BoxR.okAt C l i = false) : BoxR.listB C l = false := by
  unfold BoxR.listB
  rw [Bool.and_eq_false_iff]
  exact Or.inr (List.all_eq_false.2 ⟨i, List.mem_range.2 h, by rw [k]; simp⟩)

set_option maxHeartbeats 4000000 in
set_option maxRecDepth 100000 in
theorem b_listMay (C : CfgR) (hC : C.fine) (S : SoupV) (w : World) (hS : S.ok w) :
    Calls Tryz.prog 35 #[.agg #[.int .i64 C.cl, .int .i64 C.cb, .int .i64 C.ht, .int .i64 C.ri, .int .i64 C.ru, .int .i64 C.wd, .int .i64 C.dp], .agg #[.slice S.a0 S.ts.length S.c0, .slice S.a1 S.bs.length S.c1, .slice S.a2 S.hs.length S.c2], .agg #[.func (.func 55) #[] #[], .func (.func 56) #[] #[], .int .i64 16, .int .i64 2, .func (.func 57) #[] #[]]] w fun e w' => e = .returned (.bool (BoxR.listB C S.bs)) ∧ New w w' := by
  have hL := Lib.hid (fun b W => b_list b W)
  have hM := Lib.hid (fun x W => b_may C hC x W)
  have hI := Lib.hid (fun x W => b_id x W)
  have hR := hS.b
  obtain ⟨ts, bs, hs, a0, a1, a2, c0, c1, c2⟩ := S
  simp only at hR ⊢
  obtain ⟨-, hc1, hc2, -, HR⟩ := hR.row
  unfold maxLen at hc2
  clear hR hS hC
  have hlen : bs.length ≤ 9223372036854775807 := by omega
  go_enter Tryz.func35, Tryz.ntmps35
  go_wp2_with fail
  generalize hW : World.alloc _ _ = W
  have hn : New w W := by subst hW; (repeat (first | (with_reducible exact New.refl _) | (with_reducible assumption) | ((with_reducible refine New.setB ?_ ?_ _); focus (first | omega | (simp; omega) | (simp; done))) | (with_reducible refine New.alloc ?_ _) | (with_reducible refine New.drew ?_) | (with_reducible refine New.drewN ?_ _) | (with_reducible refine New.hat ?_ _) | ((with_reducible apply New.snart); (with_reducible assumption))))
  have q1 : W.cell? ⟨w.heap.size + 1, 1, none⟩ = some (.slice a1 bs.length c1) := by subst hW; go_simp
  have k0 : W.cell? ⟨w.heap.size + 1 + 1, 0, none⟩ = some (.func (.func 55) #[] #[]) := by subst hW; go_simp
  have k1 : W.cell? ⟨w.heap.size + 1 + 1, 1, none⟩ = some (.func (.func 56) #[] #[]) := by subst hW; go_simp
  have k2 : W.cell? ⟨w.heap.size + 1 + 1, 2, none⟩ = some (.int .i64 16) := by subst hW; go_simp
  have k3 : W.cell? ⟨w.heap.size + 1 + 1, 3, none⟩ = some (.int .i64 2) := by subst hW; go_simp
  have k4 : W.cell? ⟨w.heap.size + 1 + 1, 4, none⟩ = some (.func (.func 57) #[] #[]) := by subst hW; go_simp
  ((have g0 : World.cell? (W) ⟨w.heap.size, 0, none⟩ = some (.int .i64 C.cl) := (by subst hW; go_simp)); (have g1 : World.cell? (W) ⟨w.heap.size, 1, none⟩ = some (.int .i64 C.cb) := (by subst hW; go_simp)); (have g2 : World.cell? (W) ⟨w.heap.size, 2, none⟩ = some (.int .i64 C.ht) := (by subst hW; go_simp)); (have g3 : World.cell? (W) ⟨w.heap.size, 3, none⟩ = some (.int .i64 C.ri) := (by subst hW; go_simp)); (have g4 : World.cell? (W) ⟨w.heap.size, 4, none⟩ = some (.int .i64 C.ru) := (by subst hW; go_simp)); (have g5 : World.cell? (W) ⟨w.heap.size, 5, none⟩ = some (.int .i64 C.wd) := (by subst hW; go_simp)); (have g6 : World.cell? (W) ⟨w.heap.size, 6, none⟩ = some (.int .i64 C.dp) := (by subst hW; go_simp)))
  clear hW
  refine (hL.out _ _).mono ?_
  rintro e w' ⟨rfl, rfl⟩
  clear hL
  by_cases hm : bs.length ≤ 16
  rotate_left
  · have hd : decide ((16 : Int) < (bs.length : Int)) = true := by simp; omega
    go_wp2_with fail
    go_ret
    exact ⟨retBo (by unfold BoxR.listB; simp [hm]), hn⟩
  have hd : decide ((16 : Int) < (bs.length : Int)) = false := by simp; omega
  clear hlen hc1 hc2
  have HR' := Lib.hid (HR.keep hn)
  clear HR
  go_wp2_with fail
  clear hd q1
  go_loopg [22] bs.length (fun k s wr => ∃ i : Nat, s = .int .i64 i ∧ i + k = bs.length ∧ (List.range i).all (BoxR.okAt C bs) = true ∧ New W wr)
  case atStart => exact ⟨0, by simp, by omega, by simp, New.refl _⟩
  case round =>
    obtain ⟨i, rfl, hik, hall, hnW⟩ := hrel
    have HA := Lib.hid hall
    clear hall
    by_cases hlt : i < bs.length
    · cases i with
      | zero =>
        have hsr := List.range_succ (n := 0)
        have HSR := Lib.hid hsr
        clear hsr
        obtain ⟨b, off, rfl, hA⟩ := HR'.out (by omega)
        have hA' := hA.keep hnW
        obtain ⟨c0, c1, c2, c3, c4, c5, c6, c7⟩ := BoxR.cells hA' (0) hlt
        simp only [Nat.zero_mul, Nat.add_zero] at c0 c1 c2 c3 c4 c5 c6 c7
        (replace k0 := New.keep (hnW) k0; replace k1 := New.keep (hnW) k1; replace k2 := New.keep (hnW) k2; replace k3 := New.keep (hnW) k3; replace k4 := New.keep (hnW) k4)
        (replace g0 := New.keep (hnW) g0; replace g1 := New.keep (hnW) g1; replace g2 := New.keep (hnW) g2; replace g3 := New.keep (hnW) g3; replace g4 := New.keep (hnW) g4; replace g5 := New.keep (hnW) g5; replace g6 := New.keep (hnW) g6)
        clear hA hA'
        go_upto_region 7 with fail
        generalize hZ : World.alloc _ _ = Z
        have nZ : New wr Z := by subst hZ; (repeat (first | (with_reducible exact New.refl _) | (with_reducible assumption) | ((with_reducible refine New.setB ?_ ?_ _); focus (first | omega | (simp; omega) | (simp; done))) | (with_reducible refine New.alloc ?_ _) | (with_reducible refine New.drew ?_) | (with_reducible refine New.drewN ?_ _) | (with_reducible refine New.hat ?_ _) | ((with_reducible apply New.snart); (with_reducible assumption))))
        ((have z0 : World.cell? (Z) ⟨wr.heap.size, 0, none⟩ = some (.int .i64 bs[0].i) := (by subst hZ; go_simp)); (have z1 : World.cell? (Z) ⟨wr.heap.size, 1, none⟩ = some (.int .i64 bs[0].x0) := (by subst hZ; go_simp)); (have z2 : World.cell? (Z) ⟨wr.heap.size, 2, none⟩ = some (.int .i64 bs[0].z0) := (by subst hZ; go_simp)); (have z3 : World.cell? (Z) ⟨wr.heap.size, 3, none⟩ = some (.int .i64 bs[0].x1) := (by subst hZ; go_simp)); (have z4 : World.cell? (Z) ⟨wr.heap.size, 4, none⟩ = some (.int .i64 bs[0].z1) := (by subst hZ; go_simp)); (have z5 : World.cell? (Z) ⟨wr.heap.size, 5, none⟩ = some (.int .i64 bs[0].y0) := (by subst hZ; go_simp)); (have z6 : World.cell? (Z) ⟨wr.heap.size, 6, none⟩ = some (.int .i64 bs[0].y1) := (by subst hZ; go_simp)); (have z7 : World.cell? (Z) ⟨wr.heap.size, 7, none⟩ = some (.int .i64 bs[0].ar) := (by subst hZ; go_simp)))
        (replace k0 := New.keep (nZ) k0; replace k1 := New.keep (nZ) k1; replace k2 := New.keep (nZ) k2; replace k3 := New.keep (nZ) k3; replace k4 := New.keep (nZ) k4)
        (replace g0 := New.keep (nZ) g0; replace g1 := New.keep (nZ) g1; replace g2 := New.keep (nZ) g2; replace g3 := New.keep (nZ) g3; replace g4 := New.keep (nZ) g4; replace g5 := New.keep (nZ) g5; replace g6 := New.keep (nZ) g6)
        clear c0 c1 c2 c3 c4 c5 c6 c7
        clear hZ
        have hok := BoxR.okAt_zero C bs hlt
        cases hmay : bs[0].may C
        · have HM' := Lib.hid (fun W => by have q := hM.out bs[0] W; rw [hmay] at q; exact q : ∀ W, Calls Tryz.prog 80 #[.agg #[.int .i64 C.cl, .int .i64 C.cb, .int .i64 C.ht, .int .i64 C.ri, .int .i64 C.ru, .int .i64 C.wd, .int .i64 C.dp], .agg #[.int .i64 bs[0].i, .int .i64 bs[0].x0, .int .i64 bs[0].z0, .int .i64 bs[0].x1, .int .i64 bs[0].z1, .int .i64 bs[0].y0, .int .i64 bs[0].y1, .int .i64 bs[0].ar], .agg #[.func (.func 55) #[] #[], .func (.func 56) #[] #[], .int .i64 16, .int .i64 2, .func (.func 57) #[] #[]]] W fun e w' => e = .returned (.bool false) ∧ New W w')
          have HNO : Hid (BoxR.listB C bs = false) := BoxR.listB_no hlt (by rw [BoxR.okAt_zero C bs hlt, hmay])
          clear hmay hM
          (refine wp_region_hat (by kernel_rfl) (by kernel_rfl) ?_; intro hatc hatf; (repeat (go_big_quiet_step ((first | (go_at_call 80; exact Calls.hat (HM'.out _)) | (go_at_call 56; exact Calls.hat (hI.out _ _)))))); refine wpQuiet_nil ?_; rintro _ ⟨x, rfl⟩)
          go_wp2_with fail
          go_ret
          exact ⟨retBo HNO.out.symm, ((hn.trans hnW).trans nZ).hat x⟩
        · have HM' := Lib.hid (fun W => by have q := hM.out bs[0] W; rw [hmay] at q; exact q : ∀ W, Calls Tryz.prog 80 #[.agg #[.int .i64 C.cl, .int .i64 C.cb, .int .i64 C.ht, .int .i64 C.ri, .int .i64 C.ru, .int .i64 C.wd, .int .i64 C.dp], .agg #[.int .i64 bs[0].i, .int .i64 bs[0].x0, .int .i64 bs[0].z0, .int .i64 bs[0].x1, .int .i64 bs[0].z1, .int .i64 bs[0].y0, .int .i64 bs[0].y1, .int .i64 bs[0].ar], .agg #[.func (.func 55) #[] #[], .func (.func 56) #[] #[], .int .i64 16, .int .i64 2, .func (.func 57) #[] #[]]] W fun e w' => e = .returned (.bool true) ∧ New W w')
          have HOK := Lib.hid (hok.trans hmay)
          clear hok hmay hM
          (refine wp_region_hat (by kernel_rfl) (by kernel_rfl) ?_; intro hatc hatf; (repeat (go_big_quiet_step ((first | (go_at_call 80; exact Calls.hat (HM'.out _)) | (go_at_call 56; exact Calls.hat (hI.out _ _)))))); refine wpQuiet_nil ?_; rintro _ ⟨x, rfl⟩)
          go_wp2_with fail
          go_roundg (gk - 1)
          case measure => omega
          case rel => exact ⟨1, by go_num, by omega, by rw [HSR.out, List.all_append, HA.out]; simp [HOK.out], (hnW.trans nZ).hat x⟩
      | succ i =>
        have hsr := List.range_succ (n := i + 1)
        have HSR := Lib.hid hsr
        clear hsr
        obtain ⟨b, off, rfl, hA⟩ := HR'.out (by omega)
        have hA' := hA.keep hnW
        obtain ⟨c0, c1, c2, c3, c4, c5, c6, c7⟩ := BoxR.cells hA' (i + 1) hlt
        (replace k0 := New.keep (hnW) k0; replace k1 := New.keep (hnW) k1; replace k2 := New.keep (hnW) k2; replace k3 := New.keep (hnW) k3; replace k4 := New.keep (hnW) k4)
        (replace g0 := New.keep (hnW) g0; replace g1 := New.keep (hnW) g1; replace g2 := New.keep (hnW) g2; replace g3 := New.keep (hnW) g3; replace g4 := New.keep (hnW) g4; replace g5 := New.keep (hnW) g5; replace g6 := New.keep (hnW) g6)
        obtain ⟨d0, d1, d2, d3, d4, d5, d6, d7⟩ := BoxR.cells hA' i (by omega)
        clear hA hA'
        go_upto_region 7 with fail
        generalize hZ : World.alloc _ _ = Z
        have nZ : New wr Z := by subst hZ; (repeat (first | (with_reducible exact New.refl _) | (with_reducible assumption) | ((with_reducible refine New.setB ?_ ?_ _); focus (first | omega | (simp; omega) | (simp; done))) | (with_reducible refine New.alloc ?_ _) | (with_reducible refine New.drew ?_) | (with_reducible refine New.drewN ?_ _) | (with_reducible refine New.hat ?_ _) | ((with_reducible apply New.snart); (with_reducible assumption))))
        ((have z0 : World.cell? (Z) ⟨wr.heap.size, 0, none⟩ = some (.int .i64 bs[i + 1].i) := (by subst hZ; go_simp)); (have z1 : World.cell? (Z) ⟨wr.heap.size, 1, none⟩ = some (.int .i64 bs[i + 1].x0) := (by subst hZ; go_simp)); (have z2 : World.cell? (Z) ⟨wr.heap.size, 2, none⟩ = some (.int .i64 bs[i + 1].z0) := (by subst hZ; go_simp)); (have z3 : World.cell? (Z) ⟨wr.heap.size, 3, none⟩ = some (.int .i64 bs[i + 1].x1) := (by subst hZ; go_simp)); (have z4 : World.cell? (Z) ⟨wr.heap.size, 4, none⟩ = some (.int .i64 bs[i + 1].z1) := (by subst hZ; go_simp)); (have z5 : World.cell? (Z) ⟨wr.heap.size, 5, none⟩ = some (.int .i64 bs[i + 1].y0) := (by subst hZ; go_simp)); (have z6 : World.cell? (Z) ⟨wr.heap.size, 6, none⟩ = some (.int .i64 bs[i + 1].y1) := (by subst hZ; go_simp)); (have z7 : World.cell? (Z) ⟨wr.heap.size, 7, none⟩ = some (.int .i64 bs[i + 1].ar) := (by subst hZ; go_simp)))
        (replace k0 := New.keep (nZ) k0; replace k1 := New.keep (nZ) k1; replace k2 := New.keep (nZ) k2; replace k3 := New.keep (nZ) k3; replace k4 := New.keep (nZ) k4)
        (replace g0 := New.keep (nZ) g0; replace g1 := New.keep (nZ) g1; replace g2 := New.keep (nZ) g2; replace g3 := New.keep (nZ) g3; replace g4 := New.keep (nZ) g4; replace g5 := New.keep (nZ) g5; replace g6 := New.keep (nZ) g6)
        clear c0 c1 c2 c3 c4 c5 c6 c7
        (replace d0 := New.keep (nZ) d0; replace d1 := New.keep (nZ) d1; replace d2 := New.keep (nZ) d2; replace d3 := New.keep (nZ) d3; replace d4 := New.keep (nZ) d4; replace d5 := New.keep (nZ) d5; replace d6 := New.keep (nZ) d6; replace d7 := New.keep (nZ) d7)
        clear hZ
        have hok := BoxR.okAt_succ C bs i hlt
        cases hmay : bs[i + 1].may C
        · have HM' := Lib.hid (fun W => by have q := hM.out bs[i + 1] W; rw [hmay] at q; exact q : ∀ W, Calls Tryz.prog 80 #[.agg #[.int .i64 C.cl, .int .i64 C.cb, .int .i64 C.ht, .int .i64 C.ri, .int .i64 C.ru, .int .i64 C.wd, .int .i64 C.dp], .agg #[.int .i64 bs[i + 1].i, .int .i64 bs[i + 1].x0, .int .i64 bs[i + 1].z0, .int .i64 bs[i + 1].x1, .int .i64 bs[i + 1].z1, .int .i64 bs[i + 1].y0, .int .i64 bs[i + 1].y1, .int .i64 bs[i + 1].ar], .agg #[.func (.func 55) #[] #[], .func (.func 56) #[] #[], .int .i64 16, .int .i64 2, .func (.func 57) #[] #[]]] W fun e w' => e = .returned (.bool false) ∧ New W w')
          have HNO : Hid (BoxR.listB C bs = false) := BoxR.listB_no hlt (by rw [BoxR.okAt_succ C bs i hlt, hmay]; rfl)
          clear hmay hM
          (refine wp_region_hat (by kernel_rfl) (by kernel_rfl) ?_; intro hatc hatf; (repeat (go_big_quiet_step ((first | (go_at_call 80; exact Calls.hat (HM'.out _)) | (go_at_call 56; exact Calls.hat (hI.out _ _)))))); refine wpQuiet_nil ?_; rintro _ ⟨x, rfl⟩)
          go_wp2_with fail
          go_ret
          exact ⟨retBo HNO.out.symm, ((hn.trans hnW).trans nZ).hat x⟩
        · have HM' := Lib.hid (fun W => by have q := hM.out bs[i + 1] W; rw [hmay] at q; exact q : ∀ W, Calls Tryz.prog 80 #[.agg #[.int .i64 C.cl, .int .i64 C.cb, .int .i64 C.ht, .int .i64 C.ri, .int .i64 C.ru, .int .i64 C.wd, .int .i64 C.dp], .agg #[.int .i64 bs[i + 1].i, .int .i64 bs[i + 1].x0, .int .i64 bs[i + 1].z0, .int .i64 bs[i + 1].x1, .int .i64 bs[i + 1].z1, .int .i64 bs[i + 1].y0, .int .i64 bs[i + 1].y1, .int .i64 bs[i + 1].ar], .agg #[.func (.func 55) #[] #[], .func (.func 56) #[] #[], .int .i64 16, .int .i64 2, .func (.func 57) #[] #[]]] W fun e w' => e = .returned (.bool true) ∧ New W w')
          rw [hmay, Bool.true_and] at hok
          clear hmay hM
          cases hle : decide (bs[i + 1].i ≤ bs[i].i)
          · have HOK : Hid (BoxR.okAt C bs (i + 1) = true) := by
              show _ = true
              rw [hok]
              simp at hle ⊢
              first | done | omega
            clear hok
            (refine wp_region_hat (by kernel_rfl) (by kernel_rfl) ?_; intro hatc hatf; (repeat (go_big_quiet_step ((first | (go_at_call 80; exact Calls.hat (HM'.out _)) | (go_at_call 56; exact Calls.hat (hI.out _ _)))))); refine wpQuiet_nil ?_; rintro _ ⟨x, rfl⟩)
            go_wp2_with fail
            go_roundg (gk - 1)
            case measure => omega
            case rel => exact ⟨i + 1 + 1, by go_num, by omega, by rw [HSR.out, List.all_append, HA.out]; simp [HOK.out], (hnW.trans nZ).hat x⟩
          · have HNO : Hid (BoxR.listB C bs = false) := BoxR.listB_no hlt (by rw [hok]; simp at hle ⊢; first | done | omega)
            clear hok
            (refine wp_region_hat (by kernel_rfl) (by kernel_rfl) ?_; intro hatc hatf; (repeat (go_big_quiet_step ((first | (go_at_call 80; exact Calls.hat (HM'.out _)) | (go_at_call 56; exact Calls.hat (hI.out _ _)))))); refine wpQuiet_nil ?_; rintro _ ⟨x, rfl⟩)
            go_wp2_with fail
            go_ret
            exact ⟨retBo HNO.out.symm, ((hn.trans hnW).trans nZ).hat x⟩
    · go_wp2_with fail
      go_ret
      refine ⟨retBo ?_, hn.trans hnW⟩
      have := HA.out
      rw [show i = bs.length by omega] at this
      unfold BoxR.listB
      rw [this]
      simp [hm]

end Go.Proofs.YtonngfogbnfbnaaGreat

/- Package soup: Check. -/
namespace Go.Proofs.YtonngfogbnfbnaaGreat
open Go.RowKit
set_option linter.unusedVariables false

theorem run_store_fn {P : Program} {a : Addr} {f : _root_.Go.Fn} {x y : Array Value} {m : Mode} {w : World} : (store a (.func f x y) m).run P w = stored P w a (.func f x y) m := run_store P w a _ m rfl
attribute [local go_sem] run_store_fn

set_option maxHeartbeats 400000 in
theorem t_kind (w : World) : Calls Tryz.prog 22 #[] w fun e w' => e = .returned (.agg #[.func (.func 49) #[] #[], .func (.func 50) #[] #[], .int .i64 200, .int .i64 40, .func (.func 51) #[] #[]]) ∧ New w w' := by
  go_enter Tryz.func22, Tryz.ntmps22
  go_wp2_with fail
  refine bodyPost_ret (v := .agg #[.func (.func 49) #[] #[], .func (.func 50) #[] #[], .int .i64 200, .int .i64 40, .func (.func 51) #[] #[]]) (by simp [results, Tryz.results22, go_sem]) rfl ⟨rfl, by (repeat (first | (with_reducible exact New.refl _) | (with_reducible assumption) | ((with_reducible refine New.setB ?_ ?_ _); focus (first | omega | (simp; omega) | (simp; done))) | (with_reducible refine New.alloc ?_ _) | (with_reducible refine New.drew ?_) | (with_reducible refine New.drewN ?_ _) | (with_reducible refine New.hat ?_ _) | ((with_reducible apply New.snart); (with_reducible assumption))))⟩

set_option maxHeartbeats 1000000 in
theorem t_checked (C : CfgR) (hC : C.fine) (S : SoupV) (Bc Bs : Nat) (w : World) (hS : S.ok w) (hc : CellsAt w Bc 0 C.enc)
    (q0 : w.cell? ⟨Bs, 0, none⟩ = some (.slice S.a0 S.ts.length S.c0)) (q1 : w.cell? ⟨Bs, 1, none⟩ = some (.slice S.a1 S.bs.length S.c1)) (q2 : w.cell? ⟨Bs, 2, none⟩ = some (.slice S.a2 S.hs.length S.c2)) :
    Calls Tryz.prog 32 #[.pointer (some ⟨Bc, 0, none⟩), .pointer (some ⟨Bs, 0, none⟩)] w fun e w' => e = .returned (.bool (TriR.listB C S.ts)) ∧ New w w' := by
  have HK := Lib.hid (fun W => t_kind W)
  have HL := Lib.hid (fun W (n : New w W) => t_listMay C hC S W (hS.keep n))
  obtain ⟨c0, c1, c2, c3, c4, c5, c6⟩ := CfgR.at hc
  clear hc hS
  generalize TriR.listB C S.ts = v at *
  go_enter Tryz.func32, Tryz.ntmps32
  go_wp2_with fail
  (refine wp_region_hat (by kernel_rfl) (by kernel_rfl) ?_; intro hatc hatf; (repeat (go_big_quiet_step ((first | (go_at_call 22; exact Calls.hat (HK.out _)) | (go_at_call 33; exact Calls.hat (HL.out _ (Hat.h _))))))); refine wpQuiet_nil ?_; rintro _ ⟨x, rfl⟩)
  go_wp2_with fail
  go_ret
  exact ⟨rfl, x.h⟩

set_option maxHeartbeats 400000 in
theorem b_kind (w : World) : Calls Tryz.prog 24 #[] w fun e w' => e = .returned (.agg #[.func (.func 55) #[] #[], .func (.func 56) #[] #[], .int .i64 16, .int .i64 2, .func (.func 57) #[] #[]]) ∧ New w w' := by
  go_enter Tryz.func24, Tryz.ntmps24
  go_wp2_with fail
  refine bodyPost_ret (v := .agg #[.func (.func 55) #[] #[], .func (.func 56) #[] #[], .int .i64 16, .int .i64 2, .func (.func 57) #[] #[]]) (by simp [results, Tryz.results24, go_sem]) rfl ⟨rfl, by (repeat (first | (with_reducible exact New.refl _) | (with_reducible assumption) | ((with_reducible refine New.setB ?_ ?_ _); focus (first | omega | (simp; omega) | (simp; done))) | (with_reducible refine New.alloc ?_ _) | (with_reducible refine New.drew ?_) | (with_reducible refine New.drewN ?_ _) | (with_reducible refine New.hat ?_ _) | ((with_reducible apply New.snart); (with_reducible assumption))))⟩

set_option maxHeartbeats 1000000 in
theorem b_checked (C : CfgR) (hC : C.fine) (S : SoupV) (Bc Bs : Nat) (w : World) (hS : S.ok w) (hc : CellsAt w Bc 0 C.enc)
    (q0 : w.cell? ⟨Bs, 0, none⟩ = some (.slice S.a0 S.ts.length S.c0)) (q1 : w.cell? ⟨Bs, 1, none⟩ = some (.slice S.a1 S.bs.length S.c1)) (q2 : w.cell? ⟨Bs, 2, none⟩ = some (.slice S.a2 S.hs.length S.c2)) :
    Calls Tryz.prog 34 #[.pointer (some ⟨Bc, 0, none⟩), .pointer (some ⟨Bs, 0, none⟩)] w fun e w' => e = .returned (.bool (BoxR.listB C S.bs)) ∧ New w w' := by
  have HK := Lib.hid (fun W => b_kind W)
  have HL := Lib.hid (fun W (n : New w W) => b_listMay C hC S W (hS.keep n))
  obtain ⟨c0, c1, c2, c3, c4, c5, c6⟩ := CfgR.at hc
  clear hc hS
  generalize BoxR.listB C S.bs = v at *
  go_enter Tryz.func34, Tryz.ntmps34
  go_wp2_with fail
  (refine wp_region_hat (by kernel_rfl) (by kernel_rfl) ?_; intro hatc hatf; (repeat (go_big_quiet_step ((first | (go_at_call 24; exact Calls.hat (HK.out _)) | (go_at_call 35; exact Calls.hat (HL.out _ (Hat.h _))))))); refine wpQuiet_nil ?_; rintro _ ⟨x, rfl⟩)
  go_wp2_with fail
  go_ret
  exact ⟨rfl, x.h⟩

set_option maxHeartbeats 400000 in
theorem h_kind (w : World) : Calls Tryz.prog 26 #[] w fun e w' => e = .returned (.agg #[.func (.func 64) #[] #[], .func (.func 65) #[] #[], .int .i64 16, .int .i64 2, .func (.func 66) #[] #[]]) ∧ New w w' := by
  go_enter Tryz.func26, Tryz.ntmps26
  go_wp2_with fail
  refine bodyPost_ret (v := .agg #[.func (.func 64) #[] #[], .func (.func 65) #[] #[], .int .i64 16, .int .i64 2, .func (.func 66) #[] #[]]) (by simp [results, Tryz.results26, go_sem]) rfl ⟨rfl, by (repeat (first | (with_reducible exact New.refl _) | (with_reducible assumption) | ((with_reducible refine New.setB ?_ ?_ _); focus (first | omega | (simp; omega) | (simp; done))) | (with_reducible refine New.alloc ?_ _) | (with_reducible refine New.drew ?_) | (with_reducible refine New.drewN ?_ _) | (with_reducible refine New.hat ?_ _) | ((with_reducible apply New.snart); (with_reducible assumption))))⟩

set_option maxHeartbeats 1000000 in
theorem h_checked (C : CfgR) (hC : C.fine) (S : SoupV) (Bc Bs : Nat) (w : World) (hS : S.ok w) (hc : CellsAt w Bc 0 C.enc)
    (q0 : w.cell? ⟨Bs, 0, none⟩ = some (.slice S.a0 S.ts.length S.c0)) (q1 : w.cell? ⟨Bs, 1, none⟩ = some (.slice S.a1 S.bs.length S.c1)) (q2 : w.cell? ⟨Bs, 2, none⟩ = some (.slice S.a2 S.hs.length S.c2)) :
    Calls Tryz.prog 36 #[.pointer (some ⟨Bc, 0, none⟩), .pointer (some ⟨Bs, 0, none⟩)] w fun e w' => e = .returned (.bool (HopR.listB C S.hs)) ∧ New w w' := by
  have HK := Lib.hid (fun W => h_kind W)
  have HL := Lib.hid (fun W (n : New w W) => h_listMay C hC S W (hS.keep n))
  obtain ⟨c0, c1, c2, c3, c4, c5, c6⟩ := CfgR.at hc
  clear hc hS
  generalize HopR.listB C S.hs = v at *
  go_enter Tryz.func36, Tryz.ntmps36
  go_wp2_with fail
  (refine wp_region_hat (by kernel_rfl) (by kernel_rfl) ?_; intro hatc hatf; (repeat (go_big_quiet_step ((first | (go_at_call 26; exact Calls.hat (HK.out _)) | (go_at_call 37; exact Calls.hat (HL.out _ (Hat.h _))))))); refine wpQuiet_nil ?_; rintro _ ⟨x, rfl⟩)
  go_wp2_with fail
  go_ret
  exact ⟨rfl, x.h⟩
def SoupV.err (S : SoupV) (C : CfgR) : Int := if C.err ≠ 0 then 20 else if TriR.listB C S.ts = true ∧ BoxR.listB C S.bs = true ∧ HopR.listB C S.hs = true then 0 else 2

theorem Fn.three {f g h : Fn} {P : Fn → Prop} (h0 : P f) (h1 : P g) (h2 : P h) : ∀ j (hj : j < [f, g, h].length), P [f, g, h][j]
  | 0, _ => h0
  | 1, _ => h1
  | 2, _ => h2
  | _ + 3, hj => absurd hj (by simp)

set_option maxHeartbeats 2000000 in
set_option maxRecDepth 100000 in
theorem s_check (C : CfgR) (S : SoupV) (w : World) (hS : S.ok w) :
    Calls Tryz.prog 15 #[.agg #[.int .i64 C.cl, .int .i64 C.cb, .int .i64 C.ht, .int .i64 C.ri, .int .i64 C.ru, .int .i64 C.wd, .int .i64 C.dp], .agg #[.slice S.a0 S.ts.length S.c0, .slice S.a1 S.bs.length S.c1, .slice S.a2 S.hs.length S.c2]] w fun e w' => e = .returned (.int .i64 (S.err C)) ∧ New w w' := by
  have HC := Lib.hid (fun W => check_any C.cl C.cb C.ht C.ri C.ru C.wd C.dp W)
  obtain ⟨v, hv⟩ : ∃ v, v = S.err C := ⟨_, rfl⟩
  rw [← hv]
  unfold SoupV.err CfgR.err at hv
  obtain ⟨ce, hce⟩ : ∃ ce, ce = checkE C.cl C.cb C.ht C.ri C.ru C.wd C.dp := ⟨_, rfl⟩
  rw [← hce] at hv HC
  have htwo := checkE_two C.cl C.cb C.ht C.ri C.ru C.wd C.dp
  rw [← hce] at htwo
  rcases htwo with h0 | h0
  rotate_left
  · rw [h0] at hv HC
    have HV : Hid (v = 20) := by show v = 20; rw [hv]; simp
    clear hv hce h0
    go_enter Tryz.func15, Tryz.ntmps15
    go_wp2_with fail
    generalize hW : World.alloc _ _ = W
    have hn : New w W := by subst hW; (repeat (first | (with_reducible exact New.refl _) | (with_reducible assumption) | ((with_reducible refine New.setB ?_ ?_ _); focus (first | omega | (simp; omega) | (simp; done))) | (with_reducible refine New.alloc ?_ _) | (with_reducible refine New.drew ?_) | (with_reducible refine New.drewN ?_ _) | (with_reducible refine New.hat ?_ _) | ((with_reducible apply New.snart); (with_reducible assumption))))
    clear hW
    refine (HC.out _).mono ?_
    rintro e W1 ⟨rfl, n1, -⟩
    go_wp2_with fail
    go_ret
    rw [HV.out]
    exact ⟨rfl, hn.trans n1⟩
  · have hC : C.fine := CfgR.fine_of (hce.symm.trans h0)
    rw [h0] at hv HC
    clear hce h0
    have HT := Lib.hid (fun W => t_checked C hC S w.heap.size (w.heap.size + 1) W)
    have HB := Lib.hid (fun W => b_checked C hC S w.heap.size (w.heap.size + 1) W)
    have HH := Lib.hid (fun W => h_checked C hC S w.heap.size (w.heap.size + 1) W)
    clear hC
    obtain ⟨vt, hvt⟩ : ∃ v, v = TriR.listB C S.ts := ⟨_, rfl⟩
    obtain ⟨vb, hvb⟩ : ∃ v, v = BoxR.listB C S.bs := ⟨_, rfl⟩
    obtain ⟨vh, hvh⟩ : ∃ v, v = HopR.listB C S.hs := ⟨_, rfl⟩
    rw [← hvt, ← hvb, ← hvh] at hv
    rw [← hvt] at HT
    rw [← hvb] at HB
    rw [← hvh] at HH
    have HV := Lib.hid hv
    clear hvt hvb hvh hv
    have HS := Lib.hid hS
    clear hS
    go_enter Tryz.func15, Tryz.ntmps15
    go_wp2_with fail
    obtain ⟨W, hW⟩ : ∃ W, W = (w.alloc (.cells C.enc.toArray 23)).alloc (.cells #[.slice S.a0 S.ts.length S.c0, .slice S.a1 S.bs.length S.c1, .slice S.a2 S.hs.length S.c2] 28) := ⟨_, rfl⟩
    have hn : New w W := by subst hW; (repeat (first | (with_reducible exact New.refl _) | (with_reducible assumption) | ((with_reducible refine New.setB ?_ ?_ _); focus (first | omega | (simp; omega) | (simp; done))) | (with_reducible refine New.alloc ?_ _) | (with_reducible refine New.drew ?_) | (with_reducible refine New.drewN ?_ _) | (with_reducible refine New.hat ?_ _) | ((with_reducible apply New.snart); (with_reducible assumption))))
    have k0 : CellsAt W w.heap.size 0 C.enc := by subst hW; exact (cells_new w C.enc.toArray _).keep ((New.refl _).alloc _)
    have q0 : W.cell? ⟨w.heap.size + 1, 0, none⟩ = some (.slice S.a0 S.ts.length S.c0) := by subst hW; go_simp
    have q1 : W.cell? ⟨w.heap.size + 1, 1, none⟩ = some (.slice S.a1 S.bs.length S.c1) := by subst hW; go_simp
    have q2 : W.cell? ⟨w.heap.size + 1, 2, none⟩ = some (.slice S.a2 S.hs.length S.c2) := by subst hW; go_simp
    simp only [CfgR.enc] at hW
    rw [← hW]
    clear hW
    refine (HC.out _).mono ?_
    rintro e W1 ⟨rfl, n1', -⟩
    have n1 : New W W1 := n1'
    clear n1'
    replace hn := hn.trans n1
    have K0 := Lib.hid (k0.keep n1)
    replace q0 := n1.keep q0
    replace q1 := n1.keep q1
    replace q2 := n1.keep q2
    have Q0 := Lib.hid q0
    have Q1 := Lib.hid q1
    have Q2 := Lib.hid q2
    clear n1 k0 q0 q1 q2 HC
    go_wp2_with fail
    generalize hZ : World.alloc _ _ = Z
    have nZ : New W1 Z := by subst hZ; (repeat (first | (with_reducible exact New.refl _) | (with_reducible assumption) | ((with_reducible refine New.setB ?_ ?_ _); focus (first | omega | (simp; omega) | (simp; done))) | (with_reducible refine New.alloc ?_ _) | (with_reducible refine New.drew ?_) | (with_reducible refine New.drewN ?_ _) | (with_reducible refine New.hat ?_ _) | ((with_reducible apply New.snart); (with_reducible assumption))))
    have hat : FnAt Z W1.heap.size [⟨32, #[.pointer (some ⟨w.heap.size, 0, none⟩), .pointer (some ⟨w.heap.size + 1, 0, none⟩)], vt⟩, ⟨34, #[.pointer (some ⟨w.heap.size, 0, none⟩), .pointer (some ⟨w.heap.size + 1, 0, none⟩)], vb⟩, ⟨36, #[.pointer (some ⟨w.heap.size, 0, none⟩), .pointer (some ⟨w.heap.size + 1, 0, none⟩)], vh⟩] := by
      subst hZ
      exact fns_at _ _ _ _ rfl
    clear hZ
    have HA := Lib.hid (l_all Z W1.heap.size 3 _ (by simp) (Fn.three
      ⟨enters_of Tryz.func32 (by kernel_rfl) rfl, fun V hV => HT.out V (HS.out.keep ((hn.trans nZ).trans hV)) ((K0.out.keep nZ).keep hV) (hV.keep (nZ.keep Q0.out)) (hV.keep (nZ.keep Q1.out)) (hV.keep (nZ.keep Q2.out))⟩
      ⟨enters_of Tryz.func34 (by kernel_rfl) rfl, fun V hV => HB.out V (HS.out.keep ((hn.trans nZ).trans hV)) ((K0.out.keep nZ).keep hV) (hV.keep (nZ.keep Q0.out)) (hV.keep (nZ.keep Q1.out)) (hV.keep (nZ.keep Q2.out))⟩
      ⟨enters_of Tryz.func36 (by kernel_rfl) rfl, fun V hV => HH.out V (HS.out.keep ((hn.trans nZ).trans hV)) ((K0.out.keep nZ).keep hV) (hV.keep (nZ.keep Q0.out)) (hV.keep (nZ.keep Q1.out)) (hV.keep (nZ.keep Q2.out))⟩) Z (New.refl _) hat)
    replace hn := hn.trans nZ
    simp only [List.all_cons, List.all_nil, Bool.and_true] at HA
    obtain ⟨b, hb⟩ : ∃ b, b = (vt && (vb && vh)) := ⟨_, rfl⟩
    rw [← hb] at HA
    have HVb : Hid (v = if b = true then 0 else 2) := by
      show v = _
      rw [HV.out, hb]
      simp [Bool.and_eq_true]
    clear hat nZ K0 Q0 Q1 Q2 HT HB HH HV HS hb
    refine (HA.out).mono ?_
    rintro e W2 ⟨rfl, n1⟩
    replace hn := hn.trans n1
    cases b
    · have HV : Hid (v = 2) := HVb.out
      go_wp2_with fail
      go_ret
      rw [HV.out]
      exact ⟨rfl, hn⟩
    · have HV : Hid (v = 0) := HVb.out
      go_wp2_with fail
      go_ret
      rw [HV.out]
      exact ⟨rfl, hn⟩

end Go.Proofs.YtonngfogbnfbnaaGreat
