import Derived.Test.YtdbhlepbaepngaaDoorOgNZ14
import Derived.Test.YtdbhlepbaepngaaDoorRng
import Derived.Test.YtdbhlepbaepngaaDoorSoAZ14
import Derived.Test.YtdbhlepbaepngaaDoorHat
import Derived.Shelf.Abstract
import Derived.WalkKit
import Derived.OwnWalkIn
import Derived.TacticsInMore
import Derived.LoopNIn
import Derived.LoopIn
import Derived.Sort.WalkA
import Derived.Deep.DeepCutAuto

/- Package open: stands. -/
namespace Go.Proofs.YtdbhlepbaepngaaDoor
open Go.RowKit
set_option linter.unusedVariables false

set_option maxHeartbeats 4000000 in
set_option maxRecDepth 100000 in
theorem og_stands (G : Gd) (hE : gE G = 0) (w : World) (h : G.ok w) : Calls Tryd.prog 29 #[.agg #[.int .i64 G.x, .int .i64 G.z, .int .i64 G.w, .int .i64 G.d, .slice G.ga G.L.length G.gc]] w fun e w' => ∃ v base, e = .returned v ∧ w.heap.size ≤ base ∧ w'.ownsRow base 73 6 v (allG G).length ((allG G).flatMap St.enc) ∧ New w w' := by
  obtain ⟨i0, hi, hz0, hz1, hz2⟩ := info_parts st_info
  have hb := placeB_iff.1 (gd_is hE).1
  have HE := Lib.hid hE
  have HLN := Lib.hid (gd_is hE).2.1
  have hlen : G.L.length ≤ 4096 := by
    have := mul_64 hb.2.2.1.1 hb.2.2.1.2 hb.2.2.2.1 hb.2.2.2.2
    have := (gd_is hE).2.1
    omega
  have KA := Lib.hid (fun x z W n => og_at0 G hE x z w W (n : New w W) h)
  obtain ⟨n, hn⟩ : ∃ n, n = G.L.length := ⟨_, rfl⟩
  rw [← hn] at KA hlen ⊢
  have HN := Lib.hid hn
  clear hn h hE
  obtain ⟨wN, hwN⟩ : ∃ q, q = G.w.toNat := ⟨_, rfl⟩
  obtain ⟨dN, hdN⟩ : ∃ q, q = G.d.toNat := ⟨_, rfl⟩
  have HW := Lib.hid hwN
  have HD := Lib.hid hdN
  have hwi : G.w = wN := by omega
  have hdi : G.d = dN := by omega
  rw [hwi, hdi] at KA ⊢
  have hxw : IntKind.i64.wrap (G.x + wN) = G.x + wN := IntWalk.i64_in _ (by omega)
  have hzd : IntKind.i64.wrap (G.z + dN) = G.z + dN := IntWalk.i64_in _ (by omega)
  have HB := Lib.hid hb
  have hw64 : wN ≤ 64 := by omega
  have hd64 : dN ≤ 64 := by omega
  have hx64 : -64 ≤ G.x ∧ G.x ≤ 64 := by omega
  have hz64 : -64 ≤ G.z ∧ G.z ≤ 64 := by omega
  have hwd : n = dN * wN := by
    have h1 := HLN.out
    rw [hwi, hdi, ← HN.out] at h1
    have h2 : (n : Int) = ((wN * dN : Nat) : Int) := by rw [h1]; push_cast; rfl
    rw [Nat.mul_comm]
    exact Int.ofNat.inj h2
  have HWD := Lib.hid hwd
  have HWI := Lib.hid (And.intro hwi hdi)
  clear hwN hdN hwi hdi hb hwd
  go_enter Tryd.func29, Tryd.ntmps29
  go_wp2_with fail
  generalize hW : World.alloc _ _ = W0
  have n0 : New w W0 := by subst hW; (repeat (first | (with_reducible exact New.refl _) | (with_reducible assumption) | ((with_reducible refine New.setB ?_ ?_ _); focus (first | omega | (simp; omega) | (simp; done))) | (with_reducible refine New.alloc ?_ _) | (with_reducible refine New.drew ?_) | (with_reducible refine New.drewN ?_ _) | (with_reducible refine New.hat ?_ _) | ((with_reducible apply New.snart); (with_reducible assumption))))
  have g0 : W0.cell? ⟨w.heap.size, 0, none⟩ = some (.int .i64 G.x) := by subst hW; go_simp
  have g1 : W0.cell? ⟨w.heap.size, 1, none⟩ = some (.int .i64 G.z) := by subst hW; go_simp
  have g2 : W0.cell? ⟨w.heap.size, 2, none⟩ = some (.int .i64 wN) := by subst hW; go_simp
  have g3 : W0.cell? ⟨w.heap.size, 3, none⟩ = some (.int .i64 dN) := by subst hW; go_simp
  have g4 : W0.cell? ⟨w.heap.size, 4, none⟩ = some (.slice G.ga n G.gc) := by subst hW; go_simp
  clear hW
  obtain ⟨base, hbase⟩ : ∃ q, q = W0.heap.size := ⟨_, rfl⟩
  have HBS := Lib.hid hbase
  have hbw : w.heap.size ≤ base := by rw [hbase]; exact n0.size
  have N0 := Lib.hid n0
  have HG := Lib.hid (fun W (q : New W0 W) => And.intro (q.keep g0) (And.intro (q.keep g1) (And.intro (q.keep g2) (And.intro (q.keep g3) (q.keep g4)))))
  clear hbase n0
  go_loopg [4, 3] dN (fun gk s4 s3 wr => ∃ (zz : Nat) (ra : Option Addr) (rn rc : Nat), s4 = .int .i64 (G.z + zz) ∧ s3 = .slice ra rn rc ∧ zz ≤ dN ∧ dN - zz ≤ gk ∧ Hid (wr.ownsRow base 73 6 (.slice ra rn rc) (stTo G (zz * wN)).length ((stTo G (zz * wN)).flatMap St.enc)) ∧ Hid (New W0 wr))
  case atStart => exact ⟨0, none, 0, 0, by simp, rfl, by omega, by omega, Lib.hid (by rw [Nat.zero_mul]; exact World.ownsRow_nil _ _ _ _), Lib.hid (New.refl _)⟩
  case round =>
    obtain ⟨zz, ra, rn, rc, rfl, rfl, hzz, hgk, hown, hnr⟩ := hrel
    clear g0 g1 g2 g3 g4
    obtain ⟨g0, g1, g2, g3, g4⟩ := HG.out _ hnr.out
    by_cases hlt : zz < dN
    · have hle : decide (G.z + (zz : Int) < G.z + dN) = true := decide_eq_true (by omega)
      have hzw : IntKind.i64.wrap (G.z + zz + 1) = G.z + ((zz + 1 : Nat) : Int) := by rw [IntWalk.i64_in _ (by omega)]; omega
      have HGK := Lib.hid hgk
      clear hgk
      rename World => wA
      go_wp2_with fail
      go_loopg [5, 3] wN (fun gk s5 s3 wr => ∃ (xx : Nat) (ra : Option Addr) (rn rc : Nat), s5 = .int .i64 (G.x + xx) ∧ s3 = .slice ra rn rc ∧ xx ≤ wN ∧ wN - xx ≤ gk ∧ Hid (wr.ownsRow base 73 6 (.slice ra rn rc) (stTo G (zz * wN + xx)).length ((stTo G (zz * wN + xx)).flatMap St.enc)) ∧ Hid (New W0 wr))
      case atStart => exact ⟨0, ra, rn, rc, by simp, rfl, by omega, by omega, hown, hnr⟩
      case round =>
        clear hown g0 g1 g2 g3 g4 hnr
        obtain ⟨xx, ra, rn, rc, rfl, rfl, hxx, hgk, hown, hnr⟩ := hrel
        obtain ⟨g0, g1, g2, g3, g4⟩ := HG.out _ hnr.out
        by_cases hxt : xx < wN
        · have hle2 : decide (G.x + (xx : Int) < G.x + wN) = true := decide_eq_true (by omega)
          have hxw2 : IntKind.i64.wrap (G.x + xx + 1) = G.x + ((xx + 1 : Nat) : Int) := by rw [IntWalk.i64_in _ (by omega)]; omega
          obtain ⟨q1, q2, q3, q4, q5⟩ := gd_step (G := G) HE.out (a := zz) (b := xx) (by rw [HWI.out.2]; omega) (by rw [HWI.out.1]; omega)
          rw [← HW.out] at q2 q3 q4 q5
          have hat := atG_in HE.out q1
          have hcol : gcol G (zz * wN + xx) = atG G (G.x + xx) (G.z + zz) := by
            rw [hat, gcol_at q3]
            congr 1
            exact q2.symm
          have hst : ∀ f, stOf G (zz * wN + xx) f = ⟨G.x + xx, G.z + zz, f.y, f⟩ := fun f => by
            unfold stOf
            rw [← HW.out, q4, q5]
          have hc8 := gcol_len HE.out (zz * wN + xx)
          have HCOL := Lib.hid hcol
          have HST := Lib.hid hst
          have HQ3 := Lib.hid q3
          have HGK2 := Lib.hid hgk
          clear q1 q2 q3 q4 q5 hat hcol hst hgk
          go_wp2_with fail
          refine (KA.out _ _ _ (N0.out.trans hnr.out)).mono ?_
          rintro e w2 ⟨v, rfl, hs, n2⟩
          rw [← HCOL.out] at hs
          obtain ⟨la, lc, rfl, -, -, -, hrow⟩ := hs
          have HROW := Lib.hid hrow
          have hnr2 := Lib.hid (hnr.out.trans n2)
          have hown2 : Hid (w2.ownsRow base 73 6 (.slice ra rn rc) (stTo G (zz * wN + xx)).length ((stTo G (zz * wN + xx)).flatMap St.enc)) := Lib.hid (own_new hown.out n2)
          clear hrow n2 hown hnr g0 g1 g2 g3 g4
          obtain ⟨nn, hnn⟩ : ∃ q, q = zz * wN + xx := ⟨_, rfl⟩
          rw [← hnn] at HROW hown2 HST HCOL HQ3 hc8 ⊢
          have HNN := Lib.hid hnn
          clear hnn
          obtain ⟨m, hm⟩ : ∃ q, q = (gcol G nn).length := ⟨_, rfl⟩
          rw [← hm] at hc8 ⊢
          have HM := Lib.hid hm
          clear hm
          rename World => wB
          go_wp2_with fail
          go_loopg [41, 3] m (fun gk s41 s3 wr => ∃ (k : Nat) (ra : Option Addr) (rn rc : Nat), s41 = .int .i64 k ∧ s3 = .slice ra rn rc ∧ k ≤ m ∧ m - k ≤ gk ∧ Hid (wr.ownsRow base 73 6 (.slice ra rn rc) (stAt G nn k).length ((stAt G nn k).flatMap St.enc)) ∧ Hid (New W0 wr))
          case atStart => exact ⟨0, ra, rn, rc, rfl, rfl, by omega, by omega, Lib.hid (by rw [stAt_zero]; exact hown2.out), hnr2⟩
          case round =>
            clear hown2 hnr2
            obtain ⟨k, ra, rn, rc, rfl, rfl, hk, hgk, hown, hnr⟩ := hrel
            by_cases hkt : k < m
            · have hkl : k < (gcol G nn).length := by rw [← HM.out]; exact hkt
              obtain ⟨b, off, rfl, hA⟩ := HROW.out (by omega)
              obtain ⟨c0, c1, c2⟩ := Fl.cells (hA.keep (N0.out.trans hnr.out)) k hkl
              have hsx := HST.out (gcol G nn)[k]
              have hsu := stAt_succ hkl
              rw [hsx] at hsu
              obtain ⟨f, hf⟩ : ∃ f, f = (gcol G nn)[k] := ⟨_, rfl⟩
              rw [← hf] at c0 c1 c2 hsu
              have HSU := Lib.hid hsu
              have hsl := stAt_len HE.out nn k
              have hq3 : nn < n := by rw [HN.out]; exact HQ3.out
              have nr := hnr.out
              have hbz := World.block_lt_of_cell? _ _ c0
              have hrz : base ≤ wr.heap.size := by rw [HBS.out]; exact nr.size
              clear hA hsx hsu hf hnr
              go_upto_region 11 with fail
              refine Code.at (fun W5 hW => ?_)
              have n5 : New W0 W5 := by subst hW; (repeat (first | (with_reducible exact New.refl _) | (with_reducible assumption) | ((with_reducible refine New.setB ?_ ?_ _); focus (first | omega | (simp; omega) | (simp; done))) | (with_reducible refine New.alloc ?_ _) | (with_reducible refine New.drew ?_) | (with_reducible refine New.drewN ?_ _) | (with_reducible refine New.hat ?_ _) | ((with_reducible apply New.snart); (with_reducible assumption))))
              have f0 : W5.cell? ⟨wr.heap.size, 0, none⟩ = some (.int .i64 f.y) := by subst hW; go_simp
              have f1 : W5.cell? ⟨wr.heap.size, 1, none⟩ = some (.int .i64 f.top) := by subst hW; go_simp
              have f2 : W5.cell? ⟨wr.heap.size, 2, none⟩ = some (.int .i64 f.area) := by subst hW; go_simp
              have own5 : W5.ownsRow base 73 6 (.slice ra rn rc) (stAt G nn k).length ((stAt G nn k).flatMap St.enc) := own_new hown.out (by subst hW; (repeat (first | (with_reducible exact New.refl _) | (with_reducible assumption) | ((with_reducible refine New.setB ?_ ?_ _); focus (first | omega | (simp; omega) | (simp; done))) | (with_reducible refine New.alloc ?_ _) | (with_reducible refine New.drew ?_) | (with_reducible refine New.drewN ?_ _) | (with_reducible refine New.hat ?_ _) | ((with_reducible apply New.snart); (with_reducible assumption)))))
              have hr5 : base ≤ W5.heap.size := by rw [HBS.out]; exact n5.size
              clear hW hown nr c0 c1 c2 hrz
              go_wp2_with (at_builtin; refine wpList_append_sl rfl _ _ 66 rfl St.enc_len St.enc_one base 73 i0 _ 48 Tryd.underlying66 hi hz0 hz1 hz2 rfl (by decide) _ (stAt G nn k) rfl (own_new own5 (by (repeat (first | (with_reducible exact New.refl _) | (with_reducible assumption) | ((with_reducible refine New.setB ?_ ?_ _); focus (first | omega | (simp; omega) | (simp; done))) | (with_reducible refine New.alloc ?_ _) | (with_reducible refine New.drew ?_) | (with_reducible refine New.drewN ?_ _) | (with_reducible refine New.hat ?_ _) | ((with_reducible apply New.snart); (with_reducible assumption)))))) _ [(⟨G.x + xx, G.z + zz, f.y, f⟩ : St)] rfl (st_new _ ⟨G.x + xx, G.z + zz, f.y, f⟩ _) (by unfold maxLen; simp; omega) (by simp; omega) (by simp; omega) ?_; intro v' w1 hown' hnew _; obtain ⟨a', d', N', hN', rfl⟩ := own_shape2 hown'; clear hN'; have nw1 := hnew W0 (by (repeat (first | (with_reducible exact New.refl _) | (with_reducible assumption) | ((with_reducible refine New.setB ?_ ?_ _); focus (first | omega | (simp; omega) | (simp; done))) | (with_reducible refine New.alloc ?_ _) | (with_reducible refine New.drew ?_) | (with_reducible refine New.drewN ?_ _) | (with_reducible refine New.hat ?_ _) | ((with_reducible apply New.snart); (with_reducible assumption))))) (Nat.le_of_eq HBS.out.symm))
              go_roundg (m - (k + 1))
              case measure => omega
              case rel => exact ⟨k + 1, a', N', d', by go_num, rfl, by omega, by omega, Lib.hid (by rw [HSU.out]; exact hown'), Lib.hid nw1⟩
            · obtain rfl : k = m := by omega
              have HO : Hid (wr.ownsRow base 73 6 (.slice ra rn rc) (stTo G (zz * wN + (xx + 1))).length ((stTo G (zz * wN + (xx + 1))).flatMap St.enc)) := Lib.hid (by
                have h := hown.out
                rw [stAt_all (by rw [HM.out]; exact Nat.le_refl _), HNN.out, Nat.add_assoc] at h
                exact h)
              clear hown
              go_wp2_with fail
              go_roundg (wN - (xx + 1))
              case measure => have := HGK2.out; omega
              case rel => exact ⟨xx + 1, ra, rn, rc, by go_num, rfl, by omega, by omega, HO, hnr⟩
        · have hle2 : decide (G.x + (xx : Int) < G.x + wN) = false := decide_eq_false (by omega)
          obtain rfl : xx = wN := by omega
          have HO : Hid (wr.ownsRow base 73 6 (.slice ra rn rc) (stTo G ((zz + 1) * xx)).length ((stTo G ((zz + 1) * xx)).flatMap St.enc)) := Lib.hid (by
            have h := hown.out
            have e : (zz + 1) * xx = zz * xx + xx := by rw [Nat.add_mul, Nat.one_mul]
            rw [e]
            exact h)
          clear hown
          go_wp2_with fail
          go_roundg (dN - (zz + 1))
          case measure => have := HGK.out; omega
          case rel => exact ⟨zz + 1, ra, rn, rc, by go_num, rfl, by omega, by omega, HO, hnr⟩
    · have hle : decide (G.z + (zz : Int) < G.z + dN) = false := decide_eq_false (by omega)
      obtain rfl : zz = dN := by omega
      have HO : Hid (wr.ownsRow base 73 6 (.slice ra rn rc) (allG G).length ((allG G).flatMap St.enc)) := Lib.hid (by
        have h := hown.out
        rw [← HWD.out, HN.out] at h
        exact h)
      go_wp2_with fail
      go_ret
      exact ⟨_, _, rfl, hbw, HO.out, N0.out.trans hnr.out⟩

end Go.Proofs.YtdbhlepbaepngaaDoor

/- Worlds and loops over functions: what blocks keep. No function of the program in sight. -/
namespace Go.Proofs.YtdbhlepbaepngaaDoor
open Go.RowKit Go.Shelf Go.Sort
set_option linter.unusedVariables false

theorem New.stays {w w' : World} (h : New w w') {b : Nat} {o : Obj} (hb : w.heap[b]? = some o) : w'.heap[b]? = some o := (h.block b (Array.getElem?_eq_some_iff.1 hb).1).trans hb

/-- These blocks lie as they lay. -/
def KeepS (S : List Nat) (W W' : World) : Prop := ∀ b ∈ S, W'.heap[b]? = W.heap[b]?
theorem KeepS.refl {S : List Nat} (W : World) : KeepS S W W := fun _ _ => rfl
theorem KeepS.trans {S : List Nat} {X Y Z : World} (h : KeepS S X Y) (k : KeepS S Y Z) : KeepS S X Z := fun b hb => (k b hb).trans (h b hb)
theorem KeepS.new {S : List Nat} {w W : World} (hS : ∀ b ∈ S, b < w.heap.size) (n : New w W) : KeepS S w W := fun b hb => n.block b (hS b hb)
theorem own_keepS {β : Type} {S : List Nat} {w : World} {D : Nat} (hS : ∀ b ∈ S, ∃ o : Obj, w.heap[b]? = some o ∧ o.isCells = true) : OwnFrom D (fun (_ : β) W => KeepS S w W) := fun _ X Y row hs hg hr b hb => by
  obtain ⟨o, ho, hc⟩ := hS b hb
  have hX : X.heap[b]? = some o := (hs b hb).trans ho
  refine (hg.block b (Array.getElem?_eq_some_iff.1 hX).1 (fun e' => ?_)).trans (hs b hb)
  obtain ⟨_, o', ho', hc'⟩ := hr b e'.symm
  rw [hX] at ho'; cases ho'; rw [hc] at hc'; cases hc'
theorem cells_of_cell {W : World} {a : Addr} {v : Value} (h : W.cell? a = some v) : ∃ o : Obj, W.heap[a.block]? = some o ∧ o.isCells = true := by
  unfold World.cell? at h
  cases ho : W.heap[a.block]? with
  | none => simp [ho] at h
  | some o => exact ⟨o, rfl, by cases o <;> simp_all [Obj.isCells]⟩

theorem roundIn_wide {n m : Nat} {P : Program} {l : Nat} {f : FuncId} {tmps : Array Value} {assign body : Code} {w : World} {R : Ending → World → Prop} (h : RoundIn Fence.wide n P l f tmps assign body w R) : RoundIn Fence.wide m P l f tmps assign body w R :=
  ⟨h.1, fun c cs _ => h.2 c cs (room_wide _)⟩

theorem roundIn_in {n m l' : Nat} {P : Program} {l : Nat} {f : FuncId} {tmps : Array Value} {assign body : Code} {w : World} {R : Ending → World → Prop} (h : RoundIn Fence.wide n P l f tmps assign body w R) : RoundIn (Fence.wide.inRound l') m P l f tmps assign body w R :=
  ⟨h.1, fun c cs _ => h.2 c cs (room_wide _)⟩
theorem callsIn_in {m l' : Nat} {P : Program} {f : FuncId} {args : Array Value} {w : World} {R : Ending → World → Prop} (h : Calls P f args w R) : CallsIn (Fence.wide.inRound l') m P f args w R :=
  (callsIn_wide (n := m)).2 h
theorem grown_new {w w' : World} (h : New w w') : w.grownBy w' none := ⟨h.os, h.tape, h.output, h.size, fun k hk _ => h.block k hk⟩
theorem keepsFrom_new {B : Nat} {w w' : World} (h : New w w') : KeepsFrom B w w' := ⟨h.size, fun k o _ h0 _ => (h.block k (Array.getElem?_eq_some_iff.1 h0).1).trans h0⟩
theorem own_over {β : Type} {B : Nat} {J : β → World → Prop} (h : OwnFrom B J) {s : β} {w w' : World} (hs : J s w) (n : New w w') : J s w' := h s w w' none hs (grown_new n) (fun r e => by cases e)
theorem own_up {β γ : Type} {B B' : Nat} {J : β → World → Prop} (f : γ → β) (h : OwnFrom B J) (hB : B ≤ B') : OwnFrom B' (fun (s : γ) W => J (f s) W) := fun s X Y row hs hg hr => h (f s) X Y row hs hg (fun r e => ⟨Nat.le_trans hB (hr r e).1, (hr r e).2⟩)

end Go.Proofs.YtdbhlepbaepngaaDoor

/- Package open: All, as a contract by places. -/
namespace Go.Proofs.YtdbhlepbaepngaaDoor
open Go.RowKit Go.Shelf Go.Sort
set_option linter.unusedVariables false
attribute [local go_sem] Oper.semAt_some

def stA (s : St) : Array Value := #[.agg #[.int .i64 s.x, .int .i64 s.z, .int .i64 s.y], .agg #[.int .i64 s.f.y, .int .i64 s.f.top, .int .i64 s.f.area]]
/-- The block that a row stands in; where there is none, B. -/
def rowBS (l : List St) (at0 : Option Addr) (B : Nat) : Nat := match l, at0 with
  | _ :: _, some a => a.block
  | _, _ => B
theorem rowBS_pos {l : List St} {a : Addr} {B : Nat} (h : 0 < l.length) : rowBS l (some a) B = a.block := by
  cases l with
  | nil => simp at h
  | cons x xs => rfl
/-- A slice in a block of its own. -/
structure StBox (w : World) (B : Nat) (at0 : Option Addr) (cap : Nat) (l : List St) : Prop where
  box : w.heap[B]? = some (.cells #[.slice at0 l.length cap] 66 (0, 0))
  row : RowIn St.enc 6 w at0 l
theorem StBox.lt {w : World} {B : Nat} {at0 : Option Addr} {cap : Nat} {l : List St} (h : StBox w B at0 cap l) : B < w.heap.size := (Array.getElem?_eq_some_iff.1 h.box).1
def stS (B : Nat) (at0 : Option Addr) (l : List St) : List Nat := [B, rowBS l at0 B]
theorem StBox.keep {w W : World} {B : Nat} {at0 : Option Addr} {cap : Nat} {l : List St} (h : StBox w B at0 cap l) (k : KeepS (stS B at0 l) w W) : StBox W B at0 cap l :=
  ⟨(k B (by simp [stS])).trans h.box, fun h0 => by
    obtain ⟨b, off, rfl, hr⟩ := h.row h0
    have k2 := k (rowBS l (some ⟨b, off, none⟩) B) (by simp [stS])
    rw [rowBS_pos h0] at k2
    exact ⟨b, off, rfl, fun j hj i hi => (World.cell?_of_block (a := ⟨b, off + j * 6 + i, none⟩) k2).trans (hr j hj i hi)⟩⟩
theorem StBox.row_lt {w : World} {B : Nat} {at0 : Option Addr} {cap : Nat} {l : List St} (h : StBox w B at0 cap l) : rowBS l at0 B < w.heap.size := by
  cases l with
  | nil => exact h.lt
  | cons x xs =>
    obtain ⟨b, off, rfl, hr⟩ := h.row (by simp)
    exact World.block_lt_of_cell? _ _ (hr 0 (by simp) 0 (by rw [St.enc_len]; omega))
theorem StBox.in_lt {w : World} {B : Nat} {at0 : Option Addr} {cap : Nat} {l : List St} (h : StBox w B at0 cap l) : ∀ b ∈ stS B at0 l, b < w.heap.size := fun b hb => by
  simp only [stS, List.mem_cons, List.not_mem_nil, or_false] at hb
  rcases hb with rfl | rfl
  · exact h.lt
  · exact h.row_lt
theorem StBox.new {w W : World} {B : Nat} {at0 : Option Addr} {cap : Nat} {l : List St} (h : StBox w B at0 cap l) (n : New w W) : StBox W B at0 cap l := h.keep (KeepS.new h.in_lt n)
theorem StBox.cell {w : World} {B : Nat} {at0 : Option Addr} {cap : Nat} {l : List St} (h : StBox w B at0 cap l) : w.cell? ⟨B, 0, none⟩ = some (.slice at0 l.length cap) := cell_of_heap h.box rfl

set_option maxHeartbeats 4000000 in
set_option maxRecDepth 100000 in
theorem og_all1 (at0 : Option Addr) (l : List St) (cap B : Nat) (hl : l.length ≤ 100000) (n : Nat) (hn : 1 ≤ n) (w : World) (H : StBox w B at0 cap l) :
    SeqL Fence.wide n Tryd.prog 30 #[.pointer (some ⟨B, 0, none⟩)] stA l (KeepS (stS B at0 l)) w := by
  intro lp J Jx W hW hJ hJx hY h0
  have H0 := Lib.hid (H.new hW)
  have HY := Lib.hid hY
  have HJ := Lib.hid hJ
  have HJ0 : Hid (J 0 W) := h0
  clear hY h0 H hW hJ hJx
  simp only [List.append_toArray, List.cons_append, List.nil_append]
  refine callsIn_of_wp Tryd.func30 rfl trivial ?_ rfl
  simp only [Tryd.ntmps30, List.size_toArray, List.length_cons, List.length_nil, Nat.reduceAdd, Nat.reduceSub, Array.replicate_succ, Array.replicate_zero, List.push_toArray, List.append_toArray, List.nil_append, List.cons_append]
  have c0 := H0.out.cell
  obtain ⟨m, hm⟩ : ∃ m, m = l.length := ⟨_, rfl⟩
  rw [← hm] at c0 hl ⊢
  have HM := Lib.hid hm
  clear hm
  gi_wp2_with fail
  gi_loopw [7] (fun vz wr => ∃ k : Nat, vz = .int .i64 k ∧ k ≤ m ∧ Hid (J k wr) ∧ Hid (StBox wr B at0 cap l) ∧ Hid (W.heap.size ≤ wr.heap.size))
    (fun vz _ => m - (intOf vz).toNat)
  case atStart => exact ⟨0, by simp, Nat.zero_le _, HJ0, H0, Lib.hid (Nat.le_refl _)⟩
  case round =>
    clear c0 H0 HJ0
    obtain ⟨k, rfl, hk, hJ1, HB, HZ⟩ := hrel
    by_cases hlt : k < m
    · have hkl : k < l.length := by rw [← HM.out]; exact hlt
      obtain ⟨b0, off, rfl, hA⟩ := HB.out.row (by omega)
      obtain ⟨d0, d1, d2, d3, d4, d5⟩ := St.cells hA k hkl
      have hyall := fun U q => HY.out k hkl U q
      unfold stA at hyall
      obtain ⟨s, hs⟩ : ∃ s, s = l[k] := ⟨_, rfl⟩
      rw [← hs] at d0 d1 d2 d3 d4 d5 hyall
      have HYA := Lib.hid hyall
      clear hyall hs hA hkl
      have nU : New wr (wr.alloc (.cells #[.int .i64 s.x, .int .i64 s.z, .int .i64 s.y, .int .i64 s.f.y, .int .i64 s.f.top, .int .i64 s.f.area] 73)) := by (repeat (first | (with_reducible exact New.refl _) | (with_reducible assumption) | ((with_reducible refine New.setB ?_ ?_ _); focus (first | omega | (simp; omega) | (simp; done))) | (with_reducible refine New.alloc ?_ _) | (with_reducible refine New.drew ?_) | (with_reducible refine New.drewN ?_ _) | (with_reducible refine New.hat ?_ _) | ((with_reducible apply New.snart); (with_reducible assumption))))
      obtain ⟨fn, tmps, assign, body, hy, hR⟩ := HYA.out _ (own_over HJ.out hJ1.out nU)
      have HU := Lib.hid (And.intro (HB.out.new nU) (Nat.le_trans HZ.out nU.size))
      have hbz := World.block_lt_of_cell? _ _ d0
      clear HYA nU
      gi_wp2_with fail
      refine hR.mono ?_
      clear hy hR
      rintro e W5 (⟨rfl, kf, kp, hJ5⟩ | ⟨rfl, -, hJx5⟩)
      · have HB5 := Lib.hid (HU.out.1.keep kp)
        have HZ5 : Hid (W.heap.size ≤ W5.heap.size) := Lib.hid (Nat.le_trans HU.out.2 kf.size)
        have hJ6 : Hid (J (k + 1) W5) := hJ5
        clear hJ5 kp kf
        gi_wp2_with fail
        go_roundw
        case rel => exact ⟨k + 1, by congr 1, by omega, hJ6, HB5, HZ5⟩
        case measure => simp [intOf]; omega
      · have hJ6 := Lib.hid hJx5
        gi_wp2_with fail
        refine bodyPost_ret (results_none rfl _ _ _) rfl ?_
        exact ⟨⟨_, rfl⟩, .inr ⟨k + 1, by omega, by omega, hJ6.out⟩⟩
    · obtain rfl : k = m := by omega
      gi_wp2_with fail
      go_end0
      exact ⟨⟨_, rfl⟩, .inl hJ1.out⟩

/-- What All answers: a function that goes over all floors. -/
def Alled (L : List St) (w : World) (e : Ending) (w' : World) : Prop :=
  New w w' ∧ ∃ (B : Nat) (at0 : Option Addr) (cap : Nat), e = .returned (.func (.func 30) #[] #[.pointer (some ⟨B, 0, none⟩)]) ∧ StBox w' B at0 cap L ∧ ∀ b ∈ stS B at0 L, w.heap.size ≤ b

set_option maxHeartbeats 2000000 in
set_option maxRecDepth 100000 in
theorem og_All (G : Gd) (w : World) (h : G.ok w) : Calls Tryd.prog 24 #[.agg #[.int .i64 G.x, .int .i64 G.z, .int .i64 G.w, .int .i64 G.d, .slice G.ga G.L.length G.gc]] w (Alled (allG (colG G)) w) := by
  have KC := Lib.hid (fun W n => og_columnsOf G W (h.keep (n : New w W)))
  have KA := Lib.hid (fun W n => og_stands (colG G) (colG_E G) W (colG_ok (h.keep (n : New w W))))
  obtain ⟨n, hn⟩ : ∃ n, n = G.L.length := ⟨_, rfl⟩
  rw [← hn] at KC ⊢
  clear hn h
  obtain ⟨n2, hn2⟩ : ∃ n2, n2 = (colG G).L.length := ⟨_, rfl⟩
  obtain ⟨L, hL⟩ : ∃ L, L = allG (colG G) := ⟨_, rfl⟩
  rw [← hL] at KA ⊢
  rw [← hn2] at KC KA
  clear hn2 hL
  generalize (colG G).x = cx at *
  generalize (colG G).z = cz at *
  generalize (colG G).w = cw at *
  generalize (colG G).d = cd at *
  generalize (colG G).ga = cga at *
  generalize (colG G).gc = cgc at *
  obtain ⟨Q, hQ⟩ : ∃ Q, Q = Alled L w := ⟨_, rfl⟩
  rw [← hQ]
  have HQ := Lib.hid hQ
  clear hQ
  go_enter Tryd.func24, Tryd.ntmps24
  go_wp2_with fail
  refine (KC.out _ (by (repeat (first | (with_reducible exact New.refl _) | (with_reducible assumption) | ((with_reducible refine New.setB ?_ ?_ _); focus (first | omega | (simp; omega) | (simp; done))) | (with_reducible refine New.alloc ?_ _) | (with_reducible refine New.drew ?_) | (with_reducible refine New.drewN ?_ _) | (with_reducible refine New.hat ?_ _) | ((with_reducible apply New.snart); (with_reducible assumption)))))).mono ?_
  rintro e w1 ⟨rfl, n1⟩
  have N1 : New w w1 := New.trans (by (repeat (first | (with_reducible exact New.refl _) | (with_reducible assumption) | ((with_reducible refine New.setB ?_ ?_ _); focus (first | omega | (simp; omega) | (simp; done))) | (with_reducible refine New.alloc ?_ _) | (with_reducible refine New.drew ?_) | (with_reducible refine New.drewN ?_ _) | (with_reducible refine New.hat ?_ _) | ((with_reducible apply New.snart); (with_reducible assumption))))) n1
  clear n1
  go_wp2_with fail
  refine (KA.out _ N1).mono ?_
  rintro e w2 ⟨v, base, rfl, hbs, ho, n2⟩
  have N2 := N1.trans n2
  have hb1 := Nat.le_trans N1.size hbs
  have hsl : Sl St.enc 6 w2 v L := own_sl St.enc_len ho
  obtain ⟨a, c, rfl, h1, h2, h3, h4⟩ := hsl
  have HO := Lib.hid (And.intro h4 ho)
  clear n2 N1 h1 h2 h3 h4 ho
  go_wp2_with fail
  rw [HQ.out]
  show Alled L w (.returned (.func (.func 30) #[] #[.pointer (some ⟨w2.heap.size, 0, none⟩)])) (w2.alloc (.cells #[.slice a L.length c] 66))
  have n3 : New w2 (w2.alloc (.cells #[.slice a L.length c] 66)) := by (repeat (first | (with_reducible exact New.refl _) | (with_reducible assumption) | ((with_reducible refine New.setB ?_ ?_ _); focus (first | omega | (simp; omega) | (simp; done))) | (with_reducible refine New.alloc ?_ _) | (with_reducible refine New.drew ?_) | (with_reducible refine New.drewN ?_ _) | (with_reducible refine New.hat ?_ _) | ((with_reducible apply New.snart); (with_reducible assumption))))
  have hz := N2.size
  refine ⟨N2.trans n3, w2.heap.size, a, c, rfl, ⟨World.alloc_heap_new _ _, HO.out.1.keep n3⟩, fun b hb => ?_⟩
  simp only [stS, List.mem_cons, List.not_mem_nil, or_false] at hb
  rcases hb with rfl | rfl
  · exact hz
  · have h4 := HO.out.1
    have ho := HO.out.2
    cases L with
    | nil => exact hz
    | cons x xs =>
      obtain ⟨b, off, rfl, -⟩ := h4 (by simp)
      have := own_block ho b rfl
      show w.heap.size ≤ b
      omega

end Go.Proofs.YtdbhlepbaepngaaDoor
