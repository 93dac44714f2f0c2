/-
  Proved here: whatever the input, the call of footpath/footpathlaw02.GeomTurns of the landed code returns true and leaves its arguments as they were. Conditions: none.
-/
import Derived.Test.YtgpjeijhbikjaaaRows
import Derived.WalkKit
import Derived.ProofKit
import Derived.OpenShut
import Derived.ShutString
import Derived.ChangeOld
import Derived.Below
import Derived.Carry
import Derived.Outline
import Derived.Deep.DeepCutAuto
import Derived.Deep.LoopGhost
import Derived.Test.YtgpjeijhbikjaaaGeomN
import Derived.Test.YtgpjeijhbikjaaaGeomI
import Derived.Test.YtgpjeijhbikjaaaPtsO
namespace Go.Proofs.Ytgpjeijhbikjaaa.geomTurns
open Go.ChangeShapes Go.WideShapes Go.ChangeAt Go.RowKit
set_option linter.unusedVariables false

theorem own : ownKnob Try.prog.godebug = none := by kernel_rfl
theorem laidOut : laidOutB Try.prog = true := by kernel_rfl

/-! The walk: the Go text returns true, and writes nothing that was there. -/
set_option maxRecDepth 100000 in
set_option maxHeartbeats 4000000 in
theorem walk (H : Type) (enc : TypeId × Value → H) (base : Nat) (w : World) (v0 : Value) (d0 : DataW H) (p0 : List MemPlace) (v1 : Value) (d1 : DataW H) (p1 : List MemPlace) (v2 : Value) (d2 : DataW H) (p2 : List MemPlace) (v3 : Value) (d3 : DataW H) (p3 : List MemPlace) (k0 : Value.okWide Try.prog w .any base 23 v0) (h0 : DataW.Trod enc Try.prog w 0 (fun _ => true) true 23 v0 d0 p0) (k1 : Value.okWide Try.prog w .any base 23 v1) (h1 : DataW.Trod enc Try.prog w 0 (fun _ => true) true 23 v1 d1 p1) (k2 : Value.okWide Try.prog w .any base 23 v2) (h2 : DataW.Trod enc Try.prog w 0 (fun _ => true) true 23 v2 d2 p2) (k3 : Value.okWide Try.prog w .any base 24 v3) (h3 : DataW.Trod enc Try.prog w 0 (fun _ => true) true 24 v3 d3 p3) :
    Calls Try.prog 3 #[v0, v1, v2, v3] w fun e w' => e = .returned (.bool true) ∧ Below w.heap.size w w' := by
  obtain ⟨cs, rfl, hc⟩ := open_flat Try.underlying23 64 (ks := [.num .i64, .num .i64]) (by kernel_rfl) k0 h0
  obtain ⟨p0, q0, rfl⟩ := fits2 hc
  clear hc h0 k0
  obtain ⟨cs, rfl, hc⟩ := open_flat Try.underlying23 64 (ks := [.num .i64, .num .i64]) (by kernel_rfl) k1 h1
  obtain ⟨p1, q1, rfl⟩ := fits2 hc
  clear hc h1 k1
  obtain ⟨cs, rfl, hc⟩ := open_flat Try.underlying23 64 (ks := [.num .i64, .num .i64]) (by kernel_rfl) k2 h2
  obtain ⟨p2, q2, rfl⟩ := fits2 hc
  clear hc h2 k2
  obtain ⟨at0, l, c, rfl, hl, HP⟩ := open_pts Try.underlying24 (by kernel_rfl) (by kernel_rfl) k3 h3
  clear h3 k3
  by_cases hlen : 100 < l.length
  · have hd : decide ((100 : Int) < (l.length : Int)) = true := by simp; omega
    clear HP
    unfold maxLen at hl
    go_enter Try.func3, Try.ntmps3
    go_wp2_with fail
    refine (gwakes_any _).mono ?_
    rintro e W1 ⟨rfl, n1⟩
    go_wp2_with fail
    go_ret
    exact ⟨rfl, by have h : New w _ := New.trans (by (repeat (first | (with_reducible exact New.refl _) | (with_reducible assumption) | ((with_reducible refine New.setB ?_ ?_ _); focus (first | omega | (simp; omega) | (simp; done))) | (with_reducible refine New.alloc ?_ _) | (with_reducible refine New.drew ?_) | (with_reducible refine New.drewN ?_ _) | (with_reducible refine New.hat ?_ _) | ((with_reducible apply New.snart); (with_reducible assumption))))) n1; exact h⟩
  have hd : decide ((100 : Int) < (l.length : Int)) = false := by simp; omega
  clear hlen
  obtain ⟨bd, ok, C1, C2⟩ : ∃ (bd : Bnd) (ok : Bool), (∀ W, New w W → Calls Try.prog 8 #[.slice at0 l.length c] W fun e w' => e = .returned (.tuple #[.int .i64 bd.x0, .int .i64 bd.z0, .int .i64 bd.x1, .int .i64 bd.z1, .bool ok]) ∧ New W w') ∧ (∀ W, New w W → Calls Try.prog 9 #[.slice at0 l.length c] W fun e w' => e = .returned (.tuple #[.int .i64 bd.x0, .int .i64 bd.z0, .int .i64 bd.x1, .int .i64 bd.z1, .bool ok]) ∧ New W w') := by
    by_cases h0 : 0 < l.length
    · exact ⟨bndAll l, true, fun W h => gbounds_some at0 l c W h0 hl (HP.keep h), fun W h => rbounds_some at0 l c W h0 hl (HP.keep h)⟩
    · have e : l.length = 0 := by omega
      rw [e]
      exact ⟨⟨0, 0, 0, 0⟩, false, fun W h => gbounds_none at0 c W, fun W h => rbounds_none at0 c W⟩
  have D1 := Lib.hid C1
  have D2 := Lib.hid C2
  clear C1 C2 HP
  unfold maxLen at hl
  obtain ⟨x0, z0, x1, z1⟩ := bd
  obtain ⟨t, ht⟩ : ∃ n, turnI p0 q0 p1 q1 p2 q2 = n := ⟨_, rfl⟩
  obtain ⟨o, ho⟩ : ∃ n, onB p0 q0 p1 q1 p2 q2 = n := ⟨_, rfl⟩
  obtain ⟨g, hg⟩ : ∃ n, farI p0 q0 p1 q1 = n := ⟨_, rfl⟩
  have G1 := Lib.hid (fun W => by have q := gturn_any p0 q0 p1 q1 p2 q2 W; rw [ht] at q; exact q : ∀ W, Calls Try.prog 10 #[.agg #[.int .i64 p0, .int .i64 q0], .agg #[.int .i64 p1, .int .i64 q1], .agg #[.int .i64 p2, .int .i64 q2]] W fun e w' => e = .returned (.int .i64 t) ∧ New W w')
  have G2 := Lib.hid (fun W => by have q := rturn_any p0 q0 p1 q1 p2 q2 W; rw [ht] at q; exact q : ∀ W, Calls Try.prog 11 #[.agg #[.int .i64 p0, .int .i64 q0], .agg #[.int .i64 p1, .int .i64 q1], .agg #[.int .i64 p2, .int .i64 q2]] W fun e w' => e = .returned (.int .i64 t) ∧ New W w')
  have G3 := Lib.hid (fun W => by have q := gon_any p0 q0 p1 q1 p2 q2 W; rw [ho] at q; exact q : ∀ W, Calls Try.prog 12 #[.agg #[.int .i64 p0, .int .i64 q0], .agg #[.int .i64 p1, .int .i64 q1], .agg #[.int .i64 p2, .int .i64 q2]] W fun e w' => e = .returned (.bool o) ∧ New W w')
  have G4 := Lib.hid (fun W => by have q := ron_any p0 q0 p1 q1 p2 q2 W; rw [ho] at q; exact q : ∀ W, Calls Try.prog 13 #[.agg #[.int .i64 p0, .int .i64 q0], .agg #[.int .i64 p1, .int .i64 q1], .agg #[.int .i64 p2, .int .i64 q2]] W fun e w' => e = .returned (.bool o) ∧ New W w')
  have G5 := Lib.hid (fun W => by have q := gfar_any p0 q0 p1 q1 W; rw [hg] at q; exact q : ∀ W, Calls Try.prog 14 #[.agg #[.int .i64 p0, .int .i64 q0], .agg #[.int .i64 p1, .int .i64 q1]] W fun e w' => e = .returned (.int .i64 g) ∧ New W w')
  have G6 := Lib.hid (fun W => by have q := rfar_any p0 q0 p1 q1 W; rw [hg] at q; exact q : ∀ W, Calls Try.prog 15 #[.agg #[.int .i64 p0, .int .i64 q0], .agg #[.int .i64 p1, .int .i64 q1]] W fun e w' => e = .returned (.int .i64 g) ∧ New W w')
  clear ht ho hg
  go_enter Try.func3, Try.ntmps3
  go_wp2_with fail
  (refine Calls.at (fun W hW => ?_); (replace c1 : World.cell? W ⟨w.heap.size, 0, none⟩ = some (.int .i64 p0) := by subst hW; first | ((with_reducible refine New.keep ?_ c1); (repeat (first | (with_reducible exact New.refl _) | (with_reducible assumption) | ((with_reducible refine New.setB ?_ ?_ _); focus (first | omega | (simp; omega) | (simp; done))) | (with_reducible refine New.alloc ?_ _) | (with_reducible refine New.drew ?_) | (with_reducible refine New.drewN ?_ _) | (with_reducible refine New.hat ?_ _) | ((with_reducible apply New.snart); (with_reducible assumption)))); done) | (go_simp; done)); (replace c2 : World.cell? W ⟨w.heap.size, 1, none⟩ = some (.int .i64 q0) := by subst hW; first | ((with_reducible refine New.keep ?_ c2); (repeat (first | (with_reducible exact New.refl _) | (with_reducible assumption) | ((with_reducible refine New.setB ?_ ?_ _); focus (first | omega | (simp; omega) | (simp; done))) | (with_reducible refine New.alloc ?_ _) | (with_reducible refine New.drew ?_) | (with_reducible refine New.drewN ?_ _) | (with_reducible refine New.hat ?_ _) | ((with_reducible apply New.snart); (with_reducible assumption)))); done) | (go_simp; done)); (replace c3 : World.cell? W ⟨w.heap.size + 1, 0, none⟩ = some (.int .i64 p1) := by subst hW; first | ((with_reducible refine New.keep ?_ c3); (repeat (first | (with_reducible exact New.refl _) | (with_reducible assumption) | ((with_reducible refine New.setB ?_ ?_ _); focus (first | omega | (simp; omega) | (simp; done))) | (with_reducible refine New.alloc ?_ _) | (with_reducible refine New.drew ?_) | (with_reducible refine New.drewN ?_ _) | (with_reducible refine New.hat ?_ _) | ((with_reducible apply New.snart); (with_reducible assumption)))); done) | (go_simp; done)); (replace c4 : World.cell? W ⟨w.heap.size + 1, 1, none⟩ = some (.int .i64 q1) := by subst hW; first | ((with_reducible refine New.keep ?_ c4); (repeat (first | (with_reducible exact New.refl _) | (with_reducible assumption) | ((with_reducible refine New.setB ?_ ?_ _); focus (first | omega | (simp; omega) | (simp; done))) | (with_reducible refine New.alloc ?_ _) | (with_reducible refine New.drew ?_) | (with_reducible refine New.drewN ?_ _) | (with_reducible refine New.hat ?_ _) | ((with_reducible apply New.snart); (with_reducible assumption)))); done) | (go_simp; done)); (replace c5 : World.cell? W ⟨w.heap.size + 1 + 1, 0, none⟩ = some (.int .i64 p2) := by subst hW; first | ((with_reducible refine New.keep ?_ c5); (repeat (first | (with_reducible exact New.refl _) | (with_reducible assumption) | ((with_reducible refine New.setB ?_ ?_ _); focus (first | omega | (simp; omega) | (simp; done))) | (with_reducible refine New.alloc ?_ _) | (with_reducible refine New.drew ?_) | (with_reducible refine New.drewN ?_ _) | (with_reducible refine New.hat ?_ _) | ((with_reducible apply New.snart); (with_reducible assumption)))); done) | (go_simp; done)); (replace c6 : World.cell? W ⟨w.heap.size + 1 + 1, 1, none⟩ = some (.int .i64 q2) := by subst hW; first | ((with_reducible refine New.keep ?_ c6); (repeat (first | (with_reducible exact New.refl _) | (with_reducible assumption) | ((with_reducible refine New.setB ?_ ?_ _); focus (first | omega | (simp; omega) | (simp; done))) | (with_reducible refine New.alloc ?_ _) | (with_reducible refine New.drew ?_) | (with_reducible refine New.drewN ?_ _) | (with_reducible refine New.hat ?_ _) | ((with_reducible apply New.snart); (with_reducible assumption)))); done) | (go_simp; done)); (have hn : New w W := by subst hW; (repeat (first | (with_reducible exact New.refl _) | (with_reducible assumption) | ((with_reducible refine New.setB ?_ ?_ _); focus (first | omega | (simp; omega) | (simp; done))) | (with_reducible refine New.alloc ?_ _) | (with_reducible refine New.drew ?_) | (with_reducible refine New.drewN ?_ _) | (with_reducible refine New.hat ?_ _) | ((with_reducible apply New.snart); (with_reducible assumption))))); clear hW)
  refine (D1.out _ hn).mono ?_
  rintro e W1 ⟨rfl, n1⟩
  ((replace c1 : World.cell? W1 _ = some _ := New.keep (New.trans (by (repeat (first | (with_reducible exact New.refl _) | (with_reducible assumption) | ((with_reducible refine New.setB ?_ ?_ _); focus (first | omega | (simp; omega) | (simp; done))) | (with_reducible refine New.alloc ?_ _) | (with_reducible refine New.drew ?_) | (with_reducible refine New.drewN ?_ _) | (with_reducible refine New.hat ?_ _) | ((with_reducible apply New.snart); (with_reducible assumption))))) n1) c1); (replace c2 : World.cell? W1 _ = some _ := New.keep (New.trans (by (repeat (first | (with_reducible exact New.refl _) | (with_reducible assumption) | ((with_reducible refine New.setB ?_ ?_ _); focus (first | omega | (simp; omega) | (simp; done))) | (with_reducible refine New.alloc ?_ _) | (with_reducible refine New.drew ?_) | (with_reducible refine New.drewN ?_ _) | (with_reducible refine New.hat ?_ _) | ((with_reducible apply New.snart); (with_reducible assumption))))) n1) c2); (replace c3 : World.cell? W1 _ = some _ := New.keep (New.trans (by (repeat (first | (with_reducible exact New.refl _) | (with_reducible assumption) | ((with_reducible refine New.setB ?_ ?_ _); focus (first | omega | (simp; omega) | (simp; done))) | (with_reducible refine New.alloc ?_ _) | (with_reducible refine New.drew ?_) | (with_reducible refine New.drewN ?_ _) | (with_reducible refine New.hat ?_ _) | ((with_reducible apply New.snart); (with_reducible assumption))))) n1) c3); (replace c4 : World.cell? W1 _ = some _ := New.keep (New.trans (by (repeat (first | (with_reducible exact New.refl _) | (with_reducible assumption) | ((with_reducible refine New.setB ?_ ?_ _); focus (first | omega | (simp; omega) | (simp; done))) | (with_reducible refine New.alloc ?_ _) | (with_reducible refine New.drew ?_) | (with_reducible refine New.drewN ?_ _) | (with_reducible refine New.hat ?_ _) | ((with_reducible apply New.snart); (with_reducible assumption))))) n1) c4); (replace c5 : World.cell? W1 _ = some _ := New.keep (New.trans (by (repeat (first | (with_reducible exact New.refl _) | (with_reducible assumption) | ((with_reducible refine New.setB ?_ ?_ _); focus (first | omega | (simp; omega) | (simp; done))) | (with_reducible refine New.alloc ?_ _) | (with_reducible refine New.drew ?_) | (with_reducible refine New.drewN ?_ _) | (with_reducible refine New.hat ?_ _) | ((with_reducible apply New.snart); (with_reducible assumption))))) n1) c5); (replace c6 : World.cell? W1 _ = some _ := New.keep (New.trans (by (repeat (first | (with_reducible exact New.refl _) | (with_reducible assumption) | ((with_reducible refine New.setB ?_ ?_ _); focus (first | omega | (simp; omega) | (simp; done))) | (with_reducible refine New.alloc ?_ _) | (with_reducible refine New.drew ?_) | (with_reducible refine New.drewN ?_ _) | (with_reducible refine New.hat ?_ _) | ((with_reducible apply New.snart); (with_reducible assumption))))) n1) c6); (try replace hn : New _ W1 := New.trans hn (New.trans (by (repeat (first | (with_reducible exact New.refl _) | (with_reducible assumption) | ((with_reducible refine New.setB ?_ ?_ _); focus (first | omega | (simp; omega) | (simp; done))) | (with_reducible refine New.alloc ?_ _) | (with_reducible refine New.drew ?_) | (with_reducible refine New.drewN ?_ _) | (with_reducible refine New.hat ?_ _) | ((with_reducible apply New.snart); (with_reducible assumption))))) n1)))
  clear n1
  go_wp2_with fail
  refine (D2.out _ hn).mono ?_
  rintro e W2 ⟨rfl, n1⟩
  ((replace c1 : World.cell? W2 _ = some _ := New.keep (New.trans (by (repeat (first | (with_reducible exact New.refl _) | (with_reducible assumption) | ((with_reducible refine New.setB ?_ ?_ _); focus (first | omega | (simp; omega) | (simp; done))) | (with_reducible refine New.alloc ?_ _) | (with_reducible refine New.drew ?_) | (with_reducible refine New.drewN ?_ _) | (with_reducible refine New.hat ?_ _) | ((with_reducible apply New.snart); (with_reducible assumption))))) n1) c1); (replace c2 : World.cell? W2 _ = some _ := New.keep (New.trans (by (repeat (first | (with_reducible exact New.refl _) | (with_reducible assumption) | ((with_reducible refine New.setB ?_ ?_ _); focus (first | omega | (simp; omega) | (simp; done))) | (with_reducible refine New.alloc ?_ _) | (with_reducible refine New.drew ?_) | (with_reducible refine New.drewN ?_ _) | (with_reducible refine New.hat ?_ _) | ((with_reducible apply New.snart); (with_reducible assumption))))) n1) c2); (replace c3 : World.cell? W2 _ = some _ := New.keep (New.trans (by (repeat (first | (with_reducible exact New.refl _) | (with_reducible assumption) | ((with_reducible refine New.setB ?_ ?_ _); focus (first | omega | (simp; omega) | (simp; done))) | (with_reducible refine New.alloc ?_ _) | (with_reducible refine New.drew ?_) | (with_reducible refine New.drewN ?_ _) | (with_reducible refine New.hat ?_ _) | ((with_reducible apply New.snart); (with_reducible assumption))))) n1) c3); (replace c4 : World.cell? W2 _ = some _ := New.keep (New.trans (by (repeat (first | (with_reducible exact New.refl _) | (with_reducible assumption) | ((with_reducible refine New.setB ?_ ?_ _); focus (first | omega | (simp; omega) | (simp; done))) | (with_reducible refine New.alloc ?_ _) | (with_reducible refine New.drew ?_) | (with_reducible refine New.drewN ?_ _) | (with_reducible refine New.hat ?_ _) | ((with_reducible apply New.snart); (with_reducible assumption))))) n1) c4); (replace c5 : World.cell? W2 _ = some _ := New.keep (New.trans (by (repeat (first | (with_reducible exact New.refl _) | (with_reducible assumption) | ((with_reducible refine New.setB ?_ ?_ _); focus (first | omega | (simp; omega) | (simp; done))) | (with_reducible refine New.alloc ?_ _) | (with_reducible refine New.drew ?_) | (with_reducible refine New.drewN ?_ _) | (with_reducible refine New.hat ?_ _) | ((with_reducible apply New.snart); (with_reducible assumption))))) n1) c5); (replace c6 : World.cell? W2 _ = some _ := New.keep (New.trans (by (repeat (first | (with_reducible exact New.refl _) | (with_reducible assumption) | ((with_reducible refine New.setB ?_ ?_ _); focus (first | omega | (simp; omega) | (simp; done))) | (with_reducible refine New.alloc ?_ _) | (with_reducible refine New.drew ?_) | (with_reducible refine New.drewN ?_ _) | (with_reducible refine New.hat ?_ _) | ((with_reducible apply New.snart); (with_reducible assumption))))) n1) c6); (try replace hn : New _ W2 := New.trans hn (New.trans (by (repeat (first | (with_reducible exact New.refl _) | (with_reducible assumption) | ((with_reducible refine New.setB ?_ ?_ _); focus (first | omega | (simp; omega) | (simp; done))) | (with_reducible refine New.alloc ?_ _) | (with_reducible refine New.drew ?_) | (with_reducible refine New.drewN ?_ _) | (with_reducible refine New.hat ?_ _) | ((with_reducible apply New.snart); (with_reducible assumption))))) n1)))
  clear n1 hd
  go_wp2_with fail
  (refine wp_region_hat (by kernel_rfl) (by kernel_rfl) ?_; intro hatc hatf; (repeat (go_big_quiet_step ((first | (go_at_call 10; exact Calls.hat (G1.out _)) | (go_at_call 11; exact Calls.hat (G2.out _)) | (go_at_call 12; exact Calls.hat (G3.out _)) | (go_at_call 13; exact Calls.hat (G4.out _)) | (go_at_call 14; exact Calls.hat (G5.out _)) | (go_at_call 15; exact Calls.hat (G6.out _)) | (go_at_call 7; exact Calls.hat (gwakes_any _)))))); refine wpQuiet_nil ?_; rintro _ ⟨x, rfl⟩)
  go_wp2_with fail
  go_ret
  exact ⟨rfl, New.hat hn x⟩

/-! The row over the walk: the arguments are read again behind the call. -/
set_option maxRecDepth 100000 in
theorem lifted (os : Os) (started : os.Started) (H : Type) (enc : TypeId × Value → H) :
    ReturnsInHanded {} Try.checked os 3 .any (Rows.geomTurnsSpec.pre6 enc Try.prog Try.f3 Rows.geomTurnsRow.domain false) (Rows.geomTurnsSpec.post enc Try.prog Try.f3 false true false false) := by
  refine returnsInHanded_of_change (C := Try.checked) own started (by kernel_rfl) Try.func3
    (ChangeSpec.witness6 (enc := enc) (C := Try.checked) false ⟨#[], #[.agg #[.int .i64 0, .int .i64 0], .agg #[.int .i64 0, .int .i64 0], .agg #[.int .i64 0, .int .i64 0], .slice none 0 0], []⟩ 8 (by kernel_rfl) (by kernel_rfl) (by kernel_rfl) (by kernel_rfl)) ?_
  intro W base args ds gs before hval0 hW hcnd _
  have hval : ∀ (j : Nat) t v, Try.f3.params[j]? = some t → args[j]? = some v → Value.okWide Try.prog W .any base t v := hval0
  have hW' := hW
  obtain ⟨p, q, hA0, hV, rfl, hfz, hnd⟩ := hW
  have hA : DataW.TrodAll enc Try.prog W 0 (fun _ => true) true Try.f3.params.toList args.toList ds p := hA0
  rw [Try.params3] at hA hval
  obtain ⟨v0, vs0, d0, ds0, p0, q0, hargs, rfl, rfl, h0, r0⟩ := trodAll_cons hA
  obtain ⟨v1, vs1, d1, ds1, p1, q1, rfl, rfl, rfl, h1, r1⟩ := trodAll_cons r0
  obtain ⟨v2, vs2, d2, ds2, p2, q2, rfl, rfl, rfl, h2, r2⟩ := trodAll_cons r1
  obtain ⟨v3, vs3, d3, ds3, p3, q3, rfl, rfl, rfl, h3, r3⟩ := trodAll_cons r2
  obtain ⟨rfl, rfl, rfl⟩ := trodAll_nil r3
  obtain rfl : args = #[v0, v1, v2, v3] := by cases args; simp_all
  obtain ⟨rfl, rfl⟩ := trodVars_none hV
  have lt0 : ∀ x ∈ p0, x.block < W.heap.size := by obtain ⟨m, hm⟩ := h0; exact DataW.trod_lt m _ _ _ hm
  have lt1 : ∀ x ∈ p1, x.block < W.heap.size := by obtain ⟨m, hm⟩ := h1; exact DataW.trod_lt m _ _ _ hm
  have lt2 : ∀ x ∈ p2, x.block < W.heap.size := by obtain ⟨m, hm⟩ := h2; exact DataW.trod_lt m _ _ _ hm
  have lt3 : ∀ x ∈ p3, x.block < W.heap.size := by obtain ⟨m, hm⟩ := h3; exact DataW.trod_lt m _ _ _ hm
  clear hA0
  refine (walk H enc base W v0 d0 p0 v1 d1 p1 v2 d2 p2 v3 d3 p3 (hval 0 23 v0 rfl rfl) h0 (hval 1 23 v1 rfl rfl) h1 (hval 2 23 v2 rfl rfl) h2 (hval 3 24 v3 rfl rfl) h3).mono fun e W' ⟨he, bel⟩ => ?_
  subst he
  exact ⟨_, rfl, _, _, _, [], _, [], hW', trodAll_mk1 (shut_bool Try.underlying4 _), (trodAll_cons_mk (Below.trod laidOut (by kernel_rfl) (of_decide_eq_true (by kernel_rfl)) h0 bel lt0) (trodAll_cons_mk (Below.trod laidOut (by kernel_rfl) (of_decide_eq_true (by kernel_rfl)) h1 bel lt1) (trodAll_cons_mk (Below.trod laidOut (by kernel_rfl) (of_decide_eq_true (by kernel_rfl)) h2 bel lt2) (trodAll_cons_mk (Below.trod laidOut (by kernel_rfl) (of_decide_eq_true (by kernel_rfl)) h3 bel lt3) trodAll_mk0)))), rfl, bel.frame _, fun h => by cases h⟩

theorem over : Rows.geomTurnsRow.holds Try.pinned (OpenSpec.ofChange Rows.geomTurnsSpec) :=
  OpenClaim.holds_of_wide 3 Try.f3 rfl rfl rfl rfl rfl rfl rfl ⟨rfl, rfl, rfl, rfl, rfl⟩ rfl rfl rfl rfl rfl (by kernel_rfl) Try.func3 (by kernel_rfl)
    (of_decide_eq_true (by kernel_rfl)) (by unfold Func.isWrapper; first | (rw [if_pos (by decide +kernel)]; kernel_rfl) | (rw [if_neg (by decide +kernel)]; exact ⟨rfl, rfl⟩))
    (fun os started H enc _ => lifted os started H enc)

/-- The given statement. -/
theorem proved : Rows.GeomTurnsSaid := over
#print axioms proved
end Go.Proofs.Ytgpjeijhbikjaaa.geomTurns
