/-
  Proved here: whatever the input, the call of footpath/footpathlaw03.CellsRise of the landed code returns true and leaves its arguments as they were. Conditions: none.
-/
import Derived.Test.YtebpgefmilkioaaRows
import Derived.WalkKit
import Derived.ProofKit
import Derived.OpenShut
import Derived.ShutString
import Derived.ChangeOld
import Derived.Below
import Derived.Carry
import Derived.Outline
import Derived.Deep.DeepCutAuto
import Derived.Deep.LoopGhost
import Derived.Test.YtebpgefmilkioaaCellsS
import Derived.Test.YtebpgefmilkioaaFlat
import Derived.Test.YtebpgefmilkioaaHat
namespace Go.Proofs.Ytebpgefmilkioaa.cellsRise
open Go.ChangeShapes Go.WideShapes Go.ChangeAt Go.RowKit
set_option linter.unusedVariables false

theorem own : ownKnob Try.prog.godebug = none := by kernel_rfl
theorem laidOut : laidOutB Try.prog = true := by kernel_rfl

/-! The walk: the Go text returns true, and writes nothing that was there. -/
set_option maxRecDepth 100000 in
set_option maxHeartbeats 4000000 in
theorem walk (H : Type) (enc : TypeId × Value → H) (base : Nat) (w : World) (v0 : Value) (d0 : DataW H) (p0 : List MemPlace) (v1 : Value) (d1 : DataW H) (p1 : List MemPlace) (k0 : Value.okWide Try.prog w .any base 23 v0) (h0 : DataW.Trod enc Try.prog w 0 (fun _ => true) true 23 v0 d0 p0) (k1 : Value.okWide Try.prog w .any base 23 v1) (h1 : DataW.Trod enc Try.prog w 0 (fun _ => true) true 23 v1 d1 p1) :
    Calls Try.prog 6 #[v0, v1] w fun e w' => e = .returned (.bool true) ∧ Below w.heap.size w w' := by
  obtain ⟨cs, rfl, hc⟩ := open_flat Try.underlying23 64 (ks := [.num .i64, .num .i64]) (by kernel_rfl) k0 h0
  obtain ⟨p0, q0, rfl⟩ := fits2 hc
  clear hc h0 k0
  obtain ⟨cs, rfl, hc⟩ := open_flat Try.underlying23 64 (ks := [.num .i64, .num .i64]) (by kernel_rfl) k1 h1
  obtain ⟨p1, q1, rfl⟩ := fits2 hc
  clear hc h1 k1
  have CC := Lib.hid (fun W => c_cells p0 q0 p1 q1 W)
  cases hok : okB p0 q0 p1 q1 with
  | false =>
    have e0 : errOf p0 q0 p1 q1 = 2 := by unfold errOf; rw [hok]; rfl
    have t0 : told p0 q0 p1 q1 = [] := by unfold told; rw [hok]; rfl
    go_enter Try.func6, Try.ntmps6
    go_wp2_with fail
    generalize hW : World.alloc _ _ = W
    have hn : New w W := by subst hW; (repeat (first | (with_reducible exact New.refl _) | (with_reducible assumption) | ((with_reducible refine New.setB ?_ ?_ _); focus (first | omega | (simp; omega) | (simp; done))) | (with_reducible refine New.alloc ?_ _) | (with_reducible refine New.drew ?_) | (with_reducible refine New.drewN ?_ _) | (with_reducible refine New.hat ?_ _) | ((with_reducible apply New.snart); (with_reducible assumption))))
    clear hW
    refine (CC.out _).mono ?_
    rintro e w1 ⟨v, rfl, r1, n1⟩
    rw [e0, t0] at *
    obtain ⟨at0, cap, rfl⟩ := r1.len
    have hn1 := hn.trans n1
    clear r1 CC hn n1
    simp only [List.length_nil] at *
    go_wp2_with fail
    refine (c_wakes _).mono ?_
    rintro e w2 ⟨rfl, n2⟩
    go_wp2_with fail
    go_ret
    exact ⟨rfl, hn1.trans n2⟩
  | true =>
    have e0 : errOf p0 q0 p1 q1 = 0 := by unfold errOf; rw [hok]; rfl
    obtain ⟨hpos, hlen, HA, HB⟩ := told_facts hok
    generalize told p0 q0 p1 q1 = L at *
    have HA := Lib.hid HA
    have HB := Lib.hid HB
    go_enter Try.func6, Try.ntmps6
    go_wp2_with fail
    generalize hW : World.alloc _ _ = W
    have a0 : W.cell? ⟨w.heap.size, 0, none⟩ = some (.int .i64 p0) := by subst hW; go_simp
    have a1 : W.cell? ⟨w.heap.size, 1, none⟩ = some (.int .i64 q0) := by subst hW; go_simp
    have b0 : W.cell? ⟨w.heap.size + 1, 0, none⟩ = some (.int .i64 p1) := by subst hW; go_simp
    have b1 : W.cell? ⟨w.heap.size + 1, 1, none⟩ = some (.int .i64 q1) := by subst hW; go_simp
    have hn : New w W := by subst hW; (repeat (first | (with_reducible exact New.refl _) | (with_reducible assumption) | ((with_reducible refine New.setB ?_ ?_ _); focus (first | omega | (simp; omega) | (simp; done))) | (with_reducible refine New.alloc ?_ _) | (with_reducible refine New.drew ?_) | (with_reducible refine New.drewN ?_ _) | (with_reducible refine New.hat ?_ _) | ((with_reducible apply New.snart); (with_reducible assumption))))
    clear hW
    refine (CC.out _).mono ?_
    rintro e w1 ⟨v, rfl, r1, n1⟩
    ((replace a0 := n1.keep a0); (replace a1 := n1.keep a1); (replace b0 := n1.keep b0); (replace b1 := n1.keep b1))
    rw [e0]
    obtain ⟨g, cap, rfl, hcap, hc⟩ := r1.at hpos
    have HC := Lib.hid hc
    have hn1 := hn.trans n1
    have hlt0 : w.heap.size < w1.heap.size := World.block_lt_of_cell? _ _ a0
    have hlt1 : w.heap.size + 1 < w1.heap.size := World.block_lt_of_cell? _ _ b0
    clear r1 CC hn n1 hc
    go_wp2_with fail
    refine Code.at (fun V hV => ?_)
    have n2 : New w1 V := by subst hV; (repeat (first | (with_reducible exact New.refl _) | (with_reducible assumption) | ((with_reducible refine New.setB ?_ ?_ _); focus (first | omega | (simp; omega) | (simp; done))) | (with_reducible refine New.alloc ?_ _) | (with_reducible refine New.drew ?_) | (with_reducible refine New.drewN ?_ _) | (with_reducible refine New.hat ?_ _) | ((with_reducible apply New.snart); (with_reducible assumption))))
    have z0 : V.cell? ⟨w1.heap.size, 0, none⟩ = some (.int .i64 0) := by subst hV; go_simp
    have z1 : V.cell? ⟨w1.heap.size, 1, none⟩ = some (.int .i64 1) := by subst hV; go_simp
    have o0 : V.cell? ⟨w1.heap.size + 1, 0, none⟩ = some (.int .i64 1) := by subst hV; go_simp
    have o1 : V.cell? ⟨w1.heap.size + 1, 1, none⟩ = some (.int .i64 1) := by subst hV; go_simp
    clear hV
    ((replace a0 := n2.keep a0); (replace a1 := n2.keep a1); (replace b0 := n2.keep b0); (replace b1 := n2.keep b1))
    have hn2 := hn1.trans n2
    obtain ⟨B, hB⟩ : ∃ B, B = w1.heap.size := ⟨_, rfl⟩
    rw [← hB] at z0 z1 o0 o1 ⊢
    clear hB hlt0 hlt1
    go_loopg [31] L.length (fun k i wr => ∃ m : Nat, m + k = L.length ∧ i = .int .i64 m ∧ New V wr)
    case atStart => exact ⟨0, by omega, rfl, New.refl _⟩
    case round =>
      obtain ⟨m, hm, rfl, hw⟩ := hrel
      ((replace a0 := hw.keep a0); (replace a1 := hw.keep a1); (replace b0 := hw.keep b0); (replace b1 := hw.keep b1))
      ((replace z0 := hw.keep z0); (replace z1 := hw.keep z1); (replace o0 := hw.keep o0); (replace o1 := hw.keep o1))
      by_cases hlt : m < L.length
      · obtain ⟨c0, c1, c2, c3, c4, c5⟩ := HC.out m hlt
        have hwm := n2.trans hw
        replace c0 := hwm.keep c0
        replace c1 := hwm.keep c1
        replace c2 := hwm.keep c2
        replace c3 := hwm.keep c3
        replace c4 := hwm.keep c4
        replace c5 := hwm.keep c5
        obtain ⟨fa, fb, fc, fd⟩ := HA.out m hlt
        have gd := L[m].ok
        have HBm := Lib.hid (fun s (hs : s < m) => HB.out m s hlt hs)
        have CL1 := Lib.hid (fun W => c_less L[m].m.ln L[m].m.ld L[m].m.fn L[m].m.fd W)
        have CL2 := Lib.hid (fun W => c_less L[m].m.fn L[m].m.fd 0 1 W)
        have CL3 := Lib.hid (fun W => c_less 1 1 L[m].m.ln L[m].m.ld W)
        have CM := Lib.hid (fun W => c_meets p0 q0 p1 q1 L[m].x L[m].z W)
        rw [fa] at CL1
        rw [fb] at CL2
        rw [fc] at CL3
        rw [fd] at CM
        generalize L[m] = P at *
        obtain ⟨px, pz, ⟨pn, pd, pl, pk⟩, _⟩ := P
        simp only [] at *
        have hd1 : decide ((pd : Int) < 1) = false := decide_eq_false (by have := gd.2.2.1; simp only [] at this; omega)
        have hd2 : decide ((pk : Int) < 1) = false := decide_eq_false (by have := gd.2.2.2.2.2.1; simp only [] at this; omega)
        clear fa fb fc fd gd
        go_upto_region 8 with fail
        refine Code.at (fun Y hY => ?_)
        have n3 : New wr Y := by subst hY; (repeat (first | (with_reducible exact New.refl _) | (with_reducible assumption) | ((with_reducible refine New.setB ?_ ?_ _); focus (first | omega | (simp; omega) | (simp; done))) | (with_reducible refine New.alloc ?_ _) | (with_reducible refine New.drew ?_) | (with_reducible refine New.drewN ?_ _) | (with_reducible refine New.hat ?_ _) | ((with_reducible apply New.snart); (with_reducible assumption))))
        have x0 : Y.cell? ⟨wr.heap.size, 0, none⟩ = some (.int .i64 px) := by subst hY; go_simp
        have x1 : Y.cell? ⟨wr.heap.size, 1, none⟩ = some (.int .i64 pz) := by subst hY; go_simp
        have x2 : Y.cell? ⟨wr.heap.size, 2, none⟩ = some (.int .i64 pn) := by subst hY; go_simp
        have x3 : Y.cell? ⟨wr.heap.size, 3, none⟩ = some (.int .i64 pd) := by subst hY; go_simp
        have x4 : Y.cell? ⟨wr.heap.size, 4, none⟩ = some (.int .i64 pl) := by subst hY; go_simp
        have x5 : Y.cell? ⟨wr.heap.size, 5, none⟩ = some (.int .i64 pk) := by subst hY; go_simp
        clear hY c0 c1 c2 c3 c4 c5
        ((replace a0 := n3.keep a0); (replace a1 := n3.keep a1); (replace b0 := n3.keep b0); (replace b1 := n3.keep b1))
        ((replace z0 := n3.keep z0); (replace z1 := n3.keep z1); (replace o0 := n3.keep o0); (replace o1 := n3.keep o1))
        obtain ⟨X, hX⟩ : ∃ X, X = wr.heap.size := ⟨_, rfl⟩
        rw [← hX] at x0 x1 x2 x3 x4 x5 ⊢
        have hwY := hwm.trans n3
        have hVY := hw.trans n3
        clear hX n3 hwm hw
        go_wp2_with fail
        refine (CL1.out _).mono ?_
        rintro e w4 ⟨rfl, n4⟩
        ((replace a0 := n4.keep a0); (replace a1 := n4.keep a1); (replace b0 := n4.keep b0); (replace b1 := n4.keep b1))
        ((replace z0 := n4.keep z0); (replace z1 := n4.keep z1); (replace o0 := n4.keep o0); (replace o1 := n4.keep o1))
        ((replace x0 := n4.keep x0); (replace x1 := n4.keep x1); (replace x2 := n4.keep x2); (replace x3 := n4.keep x3); (replace x4 := n4.keep x4); (replace x5 := n4.keep x5))
        go_wp2_with fail
        refine (CL2.out _).mono ?_
        rintro e w5 ⟨rfl, n5⟩
        ((replace a0 := n5.keep a0); (replace a1 := n5.keep a1); (replace b0 := n5.keep b0); (replace b1 := n5.keep b1))
        ((replace z0 := n5.keep z0); (replace z1 := n5.keep z1); (replace o0 := n5.keep o0); (replace o1 := n5.keep o1))
        ((replace x0 := n5.keep x0); (replace x1 := n5.keep x1); (replace x2 := n5.keep x2); (replace x3 := n5.keep x3); (replace x4 := n5.keep x4); (replace x5 := n5.keep x5))
        go_wp2_with fail
        refine (CL3.out _).mono ?_
        rintro e w6 ⟨rfl, n6⟩
        ((replace a0 := n6.keep a0); (replace a1 := n6.keep a1); (replace b0 := n6.keep b0); (replace b1 := n6.keep b1))
        ((replace z0 := n6.keep z0); (replace z1 := n6.keep z1); (replace o0 := n6.keep o0); (replace o1 := n6.keep o1))
        ((replace x0 := n6.keep x0); (replace x1 := n6.keep x1); (replace x2 := n6.keep x2); (replace x3 := n6.keep x3); (replace x4 := n6.keep x4); (replace x5 := n6.keep x5))
        go_wp2_with fail
        refine (CM.out _).mono ?_
        rintro e w7 ⟨rfl, n7⟩
        ((replace x0 := n7.keep x0); (replace x1 := n7.keep x1); (replace x2 := n7.keep x2); (replace x3 := n7.keep x3); (replace x4 := n7.keep x4); (replace x5 := n7.keep x5))
        have n47 := ((n4.trans n5).trans n6).trans n7
        have hw7 := hwY.trans n47
        have hV7 := hVY.trans n47
        clear n4 n5 n6 n7 n47 hwY hVY CL1 CL2 CL3 CM a0 a1 b0 b1 z0 z1 o0 o1 hd1 hd2
        go_wp2_with fail
        go_loopg [79] m (fun k i wr2 => ∃ s : Nat, s + k = m ∧ i = .int .i64 s ∧ New w7 wr2)
        case atStart => exact ⟨0, by omega, rfl, New.refl _⟩
        case round =>
          obtain ⟨s, hs, rfl, hu⟩ := hrel
          ((replace x0 := hu.keep x0); (replace x1 := hu.keep x1); (replace x2 := hu.keep x2); (replace x3 := hu.keep x3); (replace x4 := hu.keep x4); (replace x5 := hu.keep x5))
          by_cases hlt2 : s < m
          · obtain ⟨hap, hll⟩ := HBm.out s hlt2
            obtain ⟨c0, c1, c2, c3, c4, c5⟩ := HC.out s (by omega)
            have hwu := hw7.trans hu
            replace c0 := hwu.keep c0
            replace c1 := hwu.keep c1
            replace c2 := hwu.keep c2
            replace c3 := hwu.keep c3
            replace c4 := hwu.keep c4
            replace c5 := hwu.keep c5
            have CLs := Lib.hid (fun W => c_less pn pd L[s].m.fn L[s].m.fd W)
            rw [hll] at CLs
            unfold Apart at hap
            generalize L[s] = Q at *
            obtain ⟨qx, qz, ⟨qn, qd, ql, qk⟩, _⟩ := Q
            simp only [] at *
            clear hll hwu
            go_upto_region 13 with fail
            refine Code.at (fun Y hY => ?_)
            have n3 : New wr Y := by subst hY; (repeat (first | (with_reducible exact New.refl _) | (with_reducible assumption) | ((with_reducible refine New.setB ?_ ?_ _); focus (first | omega | (simp; omega) | (simp; done))) | (with_reducible refine New.alloc ?_ _) | (with_reducible refine New.drew ?_) | (with_reducible refine New.drewN ?_ _) | (with_reducible refine New.hat ?_ _) | ((with_reducible apply New.snart); (with_reducible assumption))))
            have y0 : Y.cell? ⟨wr.heap.size, 0, none⟩ = some (.int .i64 qx) := by subst hY; go_simp
            have y1 : Y.cell? ⟨wr.heap.size, 1, none⟩ = some (.int .i64 qz) := by subst hY; go_simp
            have y2 : Y.cell? ⟨wr.heap.size, 2, none⟩ = some (.int .i64 qn) := by subst hY; go_simp
            have y3 : Y.cell? ⟨wr.heap.size, 3, none⟩ = some (.int .i64 qd) := by subst hY; go_simp
            clear hY c0 c1 c2 c3 c4 c5
            ((replace x0 := n3.keep x0); (replace x1 := n3.keep x1); (replace x2 := n3.keep x2); (replace x3 := n3.keep x3); (replace x4 := n3.keep x4); (replace x5 := n3.keep x5))
            have huY := hu.trans n3
            clear n3 hu
            by_cases hx : px = qx
            · have hxb : (px == qx) = true := by simp [hx]
              have hzb : (pz == qz) = false := by rw [beq_eq_false_iff_ne]; intro e; exact hap ⟨hx.symm, e.symm⟩
              clear hap hx
              go_wp2_with fail
              refine (CLs.out _).mono ?_
              rintro e w8 ⟨rfl, n8⟩
              go_wp2_with fail
              go_roundg (m - (s + 1))
              case measure => omega
              case rel => exact ⟨s + 1, by omega, by go_num, huY.trans n8⟩
            · have hxb : (px == qx) = false := by rw [beq_eq_false_iff_ne]; exact hx
              clear hap hx
              go_wp2_with fail
              refine (CLs.out _).mono ?_
              rintro e w8 ⟨rfl, n8⟩
              go_wp2_with fail
              go_roundg (m - (s + 1))
              case measure => omega
              case rel => exact ⟨s + 1, by omega, by go_num, huY.trans n8⟩
          · obtain rfl : s = m := by omega
            go_wp2_with fail
            go_roundg (L.length - (s + 1))
            case measure => omega
            case rel => exact ⟨s + 1, by omega, by go_num, hV7.trans hu⟩
      · obtain rfl : m = L.length := by omega
        have hdl : decide ((0 : Int) < (L.length : Int)) = true := by simp; omega
        go_wp2_with fail
        refine (c_wakes _).mono ?_
        rintro e w4 ⟨rfl, n4⟩
        go_wp2_with fail
        go_ret
        exact ⟨rfl, (hn2.trans hw).trans n4⟩

/-! The row over the walk: the arguments are read again behind the call. -/
set_option maxRecDepth 100000 in
theorem lifted (os : Os) (started : os.Started) (H : Type) (enc : TypeId × Value → H) :
    ReturnsInHanded {} Try.checked os 6 .any (Rows.cellsRiseSpec.pre6 enc Try.prog Try.f6 Rows.cellsRiseRow.domain false) (Rows.cellsRiseSpec.post enc Try.prog Try.f6 false true false false) := by
  refine returnsInHanded_of_change (C := Try.checked) own started (by kernel_rfl) Try.func6
    (ChangeSpec.witness6 (enc := enc) (C := Try.checked) false ⟨#[], #[.agg #[.int .i64 0, .int .i64 0], .agg #[.int .i64 0, .int .i64 0]], []⟩ 8 (by kernel_rfl) (by kernel_rfl) (by kernel_rfl) (by kernel_rfl)) ?_
  intro W base args ds gs before hval0 hW hcnd _
  have hval : ∀ (j : Nat) t v, Try.f6.params[j]? = some t → args[j]? = some v → Value.okWide Try.prog W .any base t v := hval0
  have hW' := hW
  obtain ⟨p, q, hA0, hV, rfl, hfz, hnd⟩ := hW
  have hA : DataW.TrodAll enc Try.prog W 0 (fun _ => true) true Try.f6.params.toList args.toList ds p := hA0
  rw [Try.params6] at hA hval
  obtain ⟨v0, vs0, d0, ds0, p0, q0, hargs, rfl, rfl, h0, r0⟩ := trodAll_cons hA
  obtain ⟨v1, vs1, d1, ds1, p1, q1, rfl, rfl, rfl, h1, r1⟩ := trodAll_cons r0
  obtain ⟨rfl, rfl, rfl⟩ := trodAll_nil r1
  obtain rfl : args = #[v0, v1] := by cases args; simp_all
  obtain ⟨rfl, rfl⟩ := trodVars_none hV
  have lt0 : ∀ x ∈ p0, x.block < W.heap.size := by obtain ⟨m, hm⟩ := h0; exact DataW.trod_lt m _ _ _ hm
  have lt1 : ∀ x ∈ p1, x.block < W.heap.size := by obtain ⟨m, hm⟩ := h1; exact DataW.trod_lt m _ _ _ hm
  clear hA0
  refine (walk H enc base W v0 d0 p0 v1 d1 p1 (hval 0 23 v0 rfl rfl) h0 (hval 1 23 v1 rfl rfl) h1).mono fun e W' ⟨he, bel⟩ => ?_
  subst he
  exact ⟨_, rfl, _, _, _, [], _, [], hW', trodAll_mk1 (shut_bool Try.underlying4 _), (trodAll_cons_mk (Below.trod laidOut (by kernel_rfl) (of_decide_eq_true (by kernel_rfl)) h0 bel lt0) (trodAll_cons_mk (Below.trod laidOut (by kernel_rfl) (of_decide_eq_true (by kernel_rfl)) h1 bel lt1) trodAll_mk0)), rfl, bel.frame _, fun h => by cases h⟩

theorem over : Rows.cellsRiseRow.holds Try.pinned (OpenSpec.ofChange Rows.cellsRiseSpec) :=
  OpenClaim.holds_of_wide 6 Try.f6 rfl rfl rfl rfl rfl rfl rfl ⟨rfl, rfl, rfl, rfl, rfl⟩ rfl rfl rfl rfl rfl (by kernel_rfl) Try.func6 (by kernel_rfl)
    (of_decide_eq_true (by kernel_rfl)) (by unfold Func.isWrapper; first | (rw [if_pos (by decide +kernel)]; kernel_rfl) | (rw [if_neg (by decide +kernel)]; exact ⟨rfl, rfl⟩))
    (fun os started H enc _ => lifted os started H enc)

/-- The given statement. -/
theorem proved : Rows.CellsRiseSaid := over
#print axioms proved
end Go.Proofs.Ytebpgefmilkioaa.cellsRise
