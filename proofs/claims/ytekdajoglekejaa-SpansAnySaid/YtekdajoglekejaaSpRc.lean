/- The document's own Merge, Put, Solid, Same. -/
import Derived.Test.YtekdajoglekejaaSpRb
import Derived.Test.YtekdajoglekejaaSpQ
import Derived.Deep.LoopGhost
import Derived.Deep.DeepCutAuto
namespace Go.Proofs.Ytekdajoglekejaa
open Go.RowKit
set_option linter.unusedVariables false

set_option maxHeartbeats 4000000 in
set_option maxRecDepth 100000 in
theorem r_merge (at0 : Option Addr) (l : List Sn) (c : Nat) (hl : l.length ≤ 1000) (w : World) (h : Sl Sn.enc 3 w (.slice at0 l.length c) l) :
    Calls Try.prog 10 #[.slice at0 l.length c] w (Merged l w) := by
  have KM := Lib.hid (fun p W => r_may p W)
  have KP := Lib.hid (fun v K p W hs hK => r_put v K p W hs hK)
  have HR := Lib.hid h.row'.2.2.2.2
  obtain ⟨n, hn⟩ : ∃ n, n = l.length := ⟨_, rfl⟩
  rw [← hn] at hl ⊢
  have HN := Lib.hid hn
  clear h hn
  go_enter Try.func10, Try.ntmps10
  go_wp2_with fail
  go_loopg [4, 5] n (fun gk s4 s5 wr => ∃ (i : Nat) (K : List Sn) (u : Value), u = s4 ∧ s5 = .int .i64 i ∧ i ≤ n ∧ n - i ≤ gk ∧ K.length ≤ i ∧ Hid (IsM (l.take i) K) ∧ Hid (∀ j (h : j < l.length), j < i → badS l[j] = false) ∧ Hid (Sl Sn.enc 3 wr u K) ∧ Hid (New w wr))
  case atStart => exact ⟨0, [], _, rfl, rfl, by omega, by omega, by simp, Lib.hid (by simpa using IsM.nil), Lib.hid (fun j _ h => by omega), Lib.hid Sl.nil, Lib.hid (New.refl _)⟩
  case round =>
    obtain ⟨i, K, u, rfl, rfl, hi, hgk, hKl, HI, HB, HS, HW⟩ := hrel
    by_cases hlt : i < n
    · have hil : i < l.length := by rw [← HN.out]; exact hlt
      obtain ⟨g, off, rfl, hA⟩ := HR.out (by omega)
      obtain ⟨r0, r1, r2⟩ := Sn.cells (hA.keep HW.out) i hil
      have HA := Lib.hid hA
      obtain ⟨E, hE⟩ : ∃ E, E = l[i] := ⟨_, rfl⟩
      rw [← hE] at r0 r1 r2
      have HEE := Lib.hid hE
      clear hE hA
      cases hb : badS E
      · have KC : Hid (∀ W, Calls Try.prog 26 #[.agg #[.int .i64 E.lo, .int .i64 E.hi, .bool E.wk]] W fun e w' => e = .returned (.bool true) ∧ New W w') := Lib.hid (fun W => by have := KM.out E W; rw [hb] at this; exact this)
        have HBE := Lib.hid hb
        clear hb
        go_wp2_with fail
        refine (KC.out _).mono ?_
        rintro e w1 ⟨rfl, n1⟩
        (replace r0 := n1.keep r0; replace r1 := n1.keep r1; replace r2 := n1.keep r2)
        have HW1 := Lib.hid (HW.out.trans n1)
        have HS1 := Lib.hid (HS.out.keep n1)
        clear n1
        go_wp2_with fail
        refine (KP.out _ K E _ HS1.out (by omega)).mono ?_
        rintro e w2 ⟨v', rfl, hs2, n2⟩
        have HS2 := Lib.hid hs2
        have HW2 := Lib.hid (HW1.out.trans n2)
        clear hs2 n2 r0 r1 r2
        go_wp2_with fail
        go_roundg (n - (i + 1))
        case measure => omega
        case rel =>
          have hall : ∀ j (h : j < l.length), j < i + 1 → badS l[j] = false := fun j h hj => by
            by_cases e : j < i
            · exact HB.out j h e
            · have e2 : j = i := by omega
              subst e2
              rw [← HEE.out]; exact HBE.out
          refine ⟨i + 1, putGo E K false, _, rfl, by go_num, by omega, by omega, by have := putGo_len E K false; omega, Lib.hid ?_, Lib.hid hall, HS2, HW2⟩
          rw [List.take_succ_eq_append_getElem hil, ← HEE.out]
          refine IsM.put (fun p hp => ?_) HI.out ((badS_not E).1 HBE.out).2.1
          obtain ⟨j, hj, rfl⟩ := List.getElem_of_mem hp
          have hj' : j < i := by simp at hj; omega
          rw [List.getElem_take]
          exact ((badS_not _).1 (HB.out j (by omega) hj')).2.1
      · have KC : Hid (∀ W, Calls Try.prog 26 #[.agg #[.int .i64 E.lo, .int .i64 E.hi, .bool E.wk]] W fun e w' => e = .returned (.bool false) ∧ New W w') := Lib.hid (fun W => by have := KM.out E W; rw [hb] at this; exact this)
        have HBE : Hid (fstB badS l = true) := Lib.hid (List.any_eq_true.2 ⟨l[i], List.getElem_mem hil, by rw [← HEE.out]; exact hb⟩)
        clear hb
        go_wp2_with fail
        refine (KC.out _).mono ?_
        rintro e w1 ⟨rfl, n1⟩
        have HW1 := Lib.hid (HW.out.trans n1)
        clear n1 r0 r1 r2
        go_wp2_with fail
        refine bodyPost_ret (v := .tuple #[.slice none 0 0, .int .i64 2]) (by simp [results, Try.results10, go_sem, *]) rfl ?_
        exact ⟨HW1.out, .inl ⟨HBE.out, rfl⟩⟩
    · have e : i = n := by omega
      subst e
      have HIN : Hid (IsM l K) := Lib.hid (by have := HI.out; rw [HN.out, List.take_length] at this; exact this)
      have HBE : Hid (fstB badS l = false) := Lib.hid (by
        unfold fstB
        rw [List.any_eq_false]
        intro p hp
        obtain ⟨j, hj, rfl⟩ := List.getElem_of_mem hp
        rw [HB.out j hj (by have := HN.out; omega)]; simp)
      obtain ⟨a, c', hu, -⟩ := HS.out
      subst hu
      go_wp2_with fail
      refine bodyPost_ret (v := .tuple #[.slice a K.length c', .int .i64 0]) (by simp [results, Try.results10, go_sem, *]) rfl ?_
      exact ⟨HW.out, .inr ⟨HBE.out, K, a, c', HIN.out, by have := HN.out; omega, rfl, HS.out⟩⟩

end Go.Proofs.Ytekdajoglekejaa
