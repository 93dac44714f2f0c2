/- The laws' Great, of grids. -/
import Derived.Test.YtljcebahjfifhaaDoorOgM
import Derived.Deep.DeepCutAuto
namespace Go.Proofs.YtljcebahjfifhaaDoor
open Go.RowKit
set_option linter.unusedVariables false

/-- What Great tells: where it says no, no column has many floors. -/
def Greated (L : List (List Fl)) (w : World) (e : Ending) (w' : World) : Prop := ∃ b, e = .returned (.bool b) ∧ (b = false → smallL L) ∧ New w w'

set_option maxHeartbeats 4000000 in
set_option maxRecDepth 100000 in
theorem og_great (G : Gd) (w : World) (h : G.ok w) : Calls Tryd.prog 7 #[.agg #[.int .i64 G.x, .int .i64 G.z, .int .i64 G.w, .int .i64 G.d, .slice G.ga G.L.length G.gc]] w (Greated G.L w) := by
  have HH : Hid (RowsK Fl.enc 3 w (.slice G.ga G.L.length G.gc) G.L) := Lib.hid h
  have hmx : G.L.length ≤ maxLen := by obtain ⟨us, h1, ⟨a, c, e, h2, h3, -⟩, -⟩ := h; omega
  unfold maxLen at hmx
  obtain ⟨n, hn⟩ : ∃ n, n = G.L.length := ⟨_, rfl⟩
  obtain ⟨ga, hga⟩ : ∃ q, q = G.ga := ⟨_, rfl⟩
  rw [← hn, ← hga] at HH
  rw [← hn] at hmx
  rw [← hn, ← hga]
  have HN := Lib.hid hn
  clear h hn hga
  go_enter Tryd.func7, Tryd.ntmps7
  go_upto_region 1 with fail
  refine Code.at (fun W0 hW => ?_)
  have n0 : Hid (New w W0) := Lib.hid (by subst hW; (repeat (first | (with_reducible exact New.refl _) | (with_reducible assumption) | ((with_reducible refine New.setB ?_ ?_ _); focus (first | omega | (simp; omega) | (simp; done))) | (with_reducible refine New.alloc ?_ _) | (with_reducible refine New.drew ?_) | (with_reducible refine New.drewN ?_ _) | (with_reducible refine New.hat ?_ _) | ((with_reducible apply New.snart); (with_reducible assumption)))))
  have g2 : W0.cell? ⟨w.heap.size, 2, none⟩ = some (.int .i64 G.w) := by subst hW; go_simp
  have g3 : W0.cell? ⟨w.heap.size, 3, none⟩ = some (.int .i64 G.d) := by subst hW; go_simp
  have g4 : W0.cell? ⟨w.heap.size, 4, none⟩ = some (.slice ga n G.gc) := by subst hW; go_simp
  clear hW
  go_cut [27] (fun s27 Z => (∃ b : Bool, s27 = .bool b ∧ (b = false → n ≤ 600)) ∧ Z = W0)
  case first =>
    go_wp2_with fail
    all_goals
      go_meet
      exact ⟨⟨_, rfl, by simp; try omega⟩, rfl⟩
  case rest =>
    obtain ⟨⟨b, rfl, hb⟩, hZ⟩ := hcut
    obtain rfl : W0 = _ := hZ.symm
    cases b
    rotate_left
    · go_wp2_with fail
      go_ret
      exact ⟨true, rfl, (fun h => by cases h), n0.out⟩
    have hn6 := hb rfl
    clear hb
    have HG := Lib.hid (fun W (q : New W0 W) => q.keep g4)
    go_wp2_with fail
    clear g2 g3 g4
    go_loopg [31] n (fun gk s31 wr => ∃ i : Nat, s31 = .int .i64 i ∧ i ≤ n ∧ n - i ≤ gk ∧ Hid (∀ j (h : j < G.L.length), j < i → G.L[j].length ≤ 1000) ∧ Hid (New W0 wr))
    case atStart => exact ⟨0, rfl, by omega, by omega, Lib.hid (fun j _ h => by omega), Lib.hid (New.refl _)⟩
    case round =>
      obtain ⟨i, rfl, hi, hgk, HB, hnr⟩ := hrel
      have g4 := HG.out _ hnr.out
      by_cases hlt : i < n
      · have hil : i < G.L.length := by rw [← HN.out]; exact hlt
        obtain ⟨b, off, a, c, rfl, hc, hs⟩ := (HH.out.keep (n0.out.trans hnr.out)).at i hil
        obtain ⟨m, hm⟩ : ∃ m, m = G.L[i].length := ⟨_, rfl⟩
        rw [← hm] at hc
        have HM := Lib.hid hm
        clear hm hs
        by_cases hq : 20 < m
        · have hd : decide (20 < m) = true := decide_eq_true hq
          go_wp2_with fail
          go_ret
          exact ⟨true, rfl, (fun h => by cases h), n0.out.trans hnr.out⟩
        · have hd : decide (20 < m) = false := decide_eq_false hq
          have hnx : Hid (∀ j (h : j < G.L.length), j < i + 1 → G.L[j].length ≤ 1000) := Lib.hid (fun j h hj => by
            by_cases e : j < i
            · exact HB.out j h e
            · obtain rfl : j = i := by omega
              have := HM.out
              omega)
          go_wp2_with fail
          go_roundg (n - (i + 1))
          case measure => omega
          case rel => exact ⟨i + 1, by go_num, by omega, by omega, hnx, hnr⟩
      · obtain rfl : i = n := by omega
        go_wp2_with fail
        go_ret
        exact ⟨false, rfl, (fun _ j hj => HB.out j hj (by rw [HN.out]; exact hj)), n0.out.trans hnr.out⟩

end Go.Proofs.YtljcebahjfifhaaDoor
