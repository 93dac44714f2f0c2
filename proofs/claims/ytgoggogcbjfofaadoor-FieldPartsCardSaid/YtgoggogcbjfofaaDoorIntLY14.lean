import Derived.Test.YtgoggogcbjfofaaDoorSoWY14
import Derived.Test.YtgoggogcbjfofaaDoorHatS
import Derived.Outline
import Derived.Deep.DeepCutAuto
import Derived.Deep.LoopGhost

/- Rows of whole numbers, and how two are compared. -/
namespace Go.Proofs.YtgoggogcbjfofaaDoor
open Go.RowKit
set_option linter.unusedVariables false
set_option maxRecDepth 100000

abbrev iE (t : Int) : List Value := [.int .i64 t]
theorem iE_len (t : Int) : (iE t).length = 1 := rfl
theorem int_info : (Tryd.prog.info? 3).map (fun i => (i.zero, i.size, i.bytes)) = some (some (.int .i64 0), 1, 8) := by kernel_rfl
theorem cells_int (w : World) (t : Int) (ty : TypeId) : ∀ j u, (iE t)[j]? = some u → (w.alloc (.cells #[.int .i64 t] ty)).cell? ((⟨w.heap.size, 0, none⟩ : Addr).add j) = some u := by
  intro j u hj
  match j, hj with
  | 0, hj => simp at hj; subst hj; simp [Addr.add]
  | j + 1, hj => simp at hj

theorem sl_at {w : World} {v : Value} {l : List Int} (h : Sl iE 1 w v l) : ∃ at0 c, v = .slice at0 l.length c ∧ l.length ≤ c ∧ c ≤ maxLen ∧ ∀ j (hj : j < l.length), ∃ b off, at0 = some ⟨b, off, none⟩ ∧ w.cell? ⟨b, off + j, none⟩ = some (.int .i64 l[j]) := by
  obtain ⟨at0, c, e, h1, h2, -, h3⟩ := h
  refine ⟨at0, c, e, h1, h2, fun j hj => ?_⟩
  obtain ⟨b, off, e1, h4⟩ := h3 (by omega)
  refine ⟨b, off, e1, ?_⟩
  have := h4 j hj 0 (by simp)
  simpa using this

set_option maxHeartbeats 4000000 in
theorem rInts_any (v1 v2 : Value) (l1 l2 : List Int) (w : World) (h1 : Sl iE 1 w v1 l1) (h2 : Sl iE 1 w v2 l2) :
    Calls Tryd.prog 29 #[v1, v2] w fun e w' => e = .returned (.bool (decide (l1 = l2))) ∧ New w w' := by
  obtain ⟨a1, c1, rfl, p1, p2, H1⟩ := sl_at h1
  obtain ⟨a2, c2, rfl, q1, q2, H2⟩ := sl_at h2
  clear h1 h2
  have m1 : l1.length ≤ maxLen := by omega
  have m2 : l2.length ≤ maxLen := by omega
  unfold maxLen at m1 m2
  by_cases hl : l1.length = l2.length
  · have G1 := Lib.hid H1
    have G2 := Lib.hid H2
    clear H1 H2 p1 p2 q1 q2 m2
    have HL := Lib.hid hl
    have bz : ((l1.length : Int) != (l2.length : Int)) = false := by rw [hl]; simp
    clear hl
    go_enter Tryd.func29, Tryd.ntmps29
    go_wp2_with fail
    go_loopg [5] l1.length (fun k i wr => ∃ m : Nat, i = .int .i64 m ∧ m + k = l1.length ∧ (∀ j (hj : j < l1.length), j < m → l1[j] = l2[j]'(by rw [← HL.out]; exact hj)) ∧ New w wr)
    case atStart => exact ⟨0, rfl, by omega, fun j _ hj => absurd hj (by omega), New.refl _⟩
    case round =>
      obtain ⟨m, rfl, hm, hsame, hw⟩ := hrel
      have HS := Lib.hid hsame
      clear hsame
      by_cases hlt : m < l1.length
      · obtain ⟨b1, o1, rfl, g1⟩ := G1.out m hlt
        obtain ⟨b2, o2, rfl, g2⟩ := G2.out m (by rw [← HL.out]; exact hlt)
        replace g1 := hw.keep g1
        replace g2 := hw.keep g2
        have hlt2 : m < l2.length := by rw [← HL.out]; exact hlt
        have bm : decide ((m : Int) < (l1.length : Int)) = true := decide_eq_true (by omega)
        cases he : (l1[m] != l2[m]'hlt2) with
        | false =>
          go_wp2_with fail
          (refine wp_region_hat (by kernel_rfl) (by kernel_rfl) ?_; intro hatc hatf; (repeat (go_big_quiet_step ((fail)))); refine wpQuiet_nil ?_; rintro _ ⟨x, rfl⟩)
          go_wp2_with fail
          go_roundg (gk - 1)
          case measure => omega
          case rel =>
            refine ⟨m + 1, by go_num, by omega, fun j hj hjm => ?_, New.trans hw x.h⟩
            rcases Nat.lt_or_ge j m with h | h
            · exact HS.out j hj h
            · obtain rfl : j = m := by omega
              simpa using he
        | true =>
          go_wp2_with fail
          (refine wp_region_hat (by kernel_rfl) (by kernel_rfl) ?_; intro hatc hatf; (repeat (go_big_quiet_step ((fail)))); refine wpQuiet_nil ?_; rintro _ ⟨x, rfl⟩)
          go_wp2_with fail
          go_ret
          refine ⟨congrArg (fun b => Ending.returned (.bool b)) (Eq.symm (decide_eq_false fun e => ?_)), New.trans hw x.h⟩
          subst e
          simp at he
      · have bm : decide ((m : Int) < (l1.length : Int)) = false := decide_eq_false (by omega)
        go_wp2_with fail
        go_ret
        refine ⟨congrArg (fun b => Ending.returned (.bool b)) (Eq.symm (decide_eq_true ?_)), hw⟩
        exact List.ext_getElem HL.out fun j hj _ => HS.out j hj (by omega)
  · have bz : ((l1.length : Int) != (l2.length : Int)) = true := by rw [bne_iff_ne]; omega
    rw [decide_eq_false (fun e => hl (by rw [e]))]
    clear hl H1 H2
    go_enter Tryd.func29, Tryd.ntmps29
    go_wp2_with fail
    go_ret
    exact ⟨rfl, New.refl _⟩

end Go.Proofs.YtgoggogcbjfofaaDoor
