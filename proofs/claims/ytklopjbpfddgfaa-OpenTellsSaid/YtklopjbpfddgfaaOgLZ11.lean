import Derived.Test.YtklopjbpfddgfaaOgKZ11
import Derived.Test.YtklopjbpfddgfaaSoLFZ11

/- Package open: At, Find. -/
namespace Go.Proofs.Ytklopjbpfddgfaa
open Go.RowKit
set_option linter.unusedVariables false

/-- What a grid tells of a column. -/
def tellG (G : Gd) (x z : Int) : List Fl := atG (colG G) x z
theorem tellG_len (G : Gd) (x z : Int) : (tellG G x z).length ≤ 8 := atG_len (colG_E G) x z

set_option maxHeartbeats 2000000 in
set_option maxRecDepth 100000 in
theorem og_At (G : Gd) (x z : Int) (w : World) (h : G.ok w) : Calls Try.prog 12 #[.agg #[.int .i64 G.x, .int .i64 G.z, .int .i64 G.w, .int .i64 G.d, .slice G.ga G.L.length G.gc], .int .i64 x, .int .i64 z] w fun e w' => ∃ v, e = .returned v ∧ Sl Fl.enc 3 w' v (tellG G x z) ∧ New w w' := by
  have KC := Lib.hid (fun W n => og_columnsOf G W (h.keep (n : New w W)))
  have KA := Lib.hid (fun W n => og_at (colG G) (colG_E G) x z W (colG_ok (h.keep (n : New w W))))
  have hl8 := tellG_len G x z
  have HC := Lib.hid (fun B W => fl_concat B 1 [⟨none, [], 0⟩] (by simp) (by simp) W)
  obtain ⟨n, hn⟩ : ∃ n, n = G.L.length := ⟨_, rfl⟩
  rw [← hn] at KC ⊢
  clear hn h HC
  show Calls _ _ _ _ (fun e w' => ∃ v, e = .returned v ∧ Sl Fl.enc 3 w' v (atG (colG G) x z) ∧ New w w')
  have hl8' : (atG (colG G) x z).length ≤ 8 := hl8
  clear hl8
  obtain ⟨n2, hn2⟩ : ∃ n2, n2 = (colG G).L.length := ⟨_, rfl⟩
  rw [← hn2] at KC KA
  clear hn2
  generalize atG (colG G) x z = l at *
  generalize (colG G).x = cx at *
  generalize (colG G).z = cz at *
  generalize (colG G).w = cw at *
  generalize (colG G).d = cd at *
  generalize (colG G).ga = cga at *
  generalize (colG G).gc = cgc at *
  go_enter Try.func12, Try.ntmps12
  go_wp2_with fail
  refine (KC.out _ (by (repeat (first | (with_reducible exact New.refl _) | (with_reducible assumption) | ((with_reducible refine New.setB ?_ ?_ _); focus (first | omega | (simp; omega) | (simp; done))) | (with_reducible refine New.alloc ?_ _) | (with_reducible refine New.drew ?_) | (with_reducible refine New.drewN ?_ _) | (with_reducible refine New.hat ?_ _) | ((with_reducible apply New.snart); (with_reducible assumption)))))).mono ?_
  rintro e w1 ⟨rfl, n1⟩
  have N1 : New w w1 := New.trans (by (repeat (first | (with_reducible exact New.refl _) | (with_reducible assumption) | ((with_reducible refine New.setB ?_ ?_ _); focus (first | omega | (simp; omega) | (simp; done))) | (with_reducible refine New.alloc ?_ _) | (with_reducible refine New.drew ?_) | (with_reducible refine New.drewN ?_ _) | (with_reducible refine New.hat ?_ _) | ((with_reducible apply New.snart); (with_reducible assumption))))) n1
  clear n1
  go_wp2_with fail
  refine (KA.out _ N1).mono ?_
  rintro e w2 ⟨v, rfl, hs, n2⟩
  have N2 := Lib.hid (N1.trans n2)
  obtain ⟨a, c, rfl, hs1⟩ := id hs
  have HS := Lib.hid hs
  clear n2 N1 hs hs1
  go_wp2_with fail
  generalize hW : World.alloc _ _ = w3
  have n3 : New w2 w3 := by subst hW; (repeat (first | (with_reducible exact New.refl _) | (with_reducible assumption) | ((with_reducible refine New.setB ?_ ?_ _); focus (first | omega | (simp; omega) | (simp; done))) | (with_reducible refine New.alloc ?_ _) | (with_reducible refine New.drew ?_) | (with_reducible refine New.drewN ?_ _) | (with_reducible refine New.hat ?_ _) | ((with_reducible apply New.snart); (with_reducible assumption))))
  have hp : PartsAt Fl.enc 3 w3 w2.heap.size [⟨a, l, c⟩] := fun j hj => by
    have hj0 : j = 0 := by simpa using hj
    subst hj0
    exact ⟨by subst hW; go_simp, HS.out.keep n3⟩
  clear hW
  refine (fl_concat w2.heap.size 1 [⟨a, l, c⟩] (by simp) (by simp; omega) w3 hp).mono ?_
  rintro e w4 ⟨v, rfl, ho, n4⟩
  have N4 := Lib.hid (N2.out.trans (n3.trans n4))
  have HO : Hid (Sl Fl.enc 3 w4 v l) := Lib.hid (by
    have := own_sl Fl.enc_len ho
    simpa using this)
  clear ho n4 hp n3
  go_wp2_with fail
  refine bodyPost_ret (v := v) (by simp [results, Try.results12, go_sem, *]) rfl ?_
  exact ⟨_, rfl, HO.out, N4.out⟩

/-- Is it this height? -/
def isY (y : Int) (f : Fl) : Bool := f.y == y
def findB (l : List Fl) (y : Int) : Bool := l.any (isY y)
def findI (l : List Fl) (y : Int) : Int := if findB l y = true then (l.findIdx (isY y) : Int) else 0
theorem find_hit {l : List Fl} {y : Int} {i : Nat} (h : i < l.length) (hf : isY y l[i] = true) (hb : ∀ k (hk : k < l.length), k < i → isY y l[k] = false) : findB l y = true ∧ findI l y = i := by
  have h1 : findB l y = true := List.any_eq_true.2 ⟨_, List.getElem_mem h, hf⟩
  have h2 : l.findIdx (isY y) = i := (List.findIdx_eq h).2 ⟨hf, fun j hj => hb j (by omega) hj⟩
  unfold findI
  rw [h1, h2]
  simp
theorem find_none {l : List Fl} {y : Int} (hb : ∀ k (hk : k < l.length), isY y l[k] = false) : findB l y = false ∧ findI l y = 0 := by
  have h1 : findB l y = false := by
    unfold findB
    rw [List.any_eq_false]
    intro x hx
    obtain ⟨i, hi, rfl⟩ := List.getElem_of_mem hx
    rw [hb i hi]; simp
  unfold findI
  rw [h1]
  simp

set_option maxHeartbeats 4000000 in
set_option maxRecDepth 100000 in
theorem og_Find (G : Gd) (x z y : Int) (w : World) (h : G.ok w) : Calls Try.prog 7 #[.agg #[.int .i64 G.x, .int .i64 G.z, .int .i64 G.w, .int .i64 G.d, .slice G.ga G.L.length G.gc], .int .i64 x, .int .i64 z, .int .i64 y] w fun e w' => e = .returned (.tuple #[.int .i64 (findI (tellG G x z) y), .bool (findB (tellG G x z) y)]) ∧ New w w' := by
  have KC := Lib.hid (fun W n => og_columnsOf G W (h.keep (n : New w W)))
  have KA := Lib.hid (fun W n => og_at (colG G) (colG_E G) x z W (colG_ok (h.keep (n : New w W))))
  have hl8' : (atG (colG G) x z).length ≤ 8 := tellG_len G x z
  obtain ⟨n, hn⟩ : ∃ n, n = G.L.length := ⟨_, rfl⟩
  rw [← hn] at KC ⊢
  clear hn h
  show Calls _ _ _ _ (fun e w' => e = .returned (.tuple #[.int .i64 (findI (atG (colG G) x z) y), .bool (findB (atG (colG G) x z) y)]) ∧ New w w')
  obtain ⟨n2, hn2⟩ : ∃ n2, n2 = (colG G).L.length := ⟨_, rfl⟩
  rw [← hn2] at KC KA
  clear hn2
  generalize atG (colG G) x z = l at *
  generalize (colG G).x = cx at *
  generalize (colG G).z = cz at *
  generalize (colG G).w = cw at *
  generalize (colG G).d = cd at *
  generalize (colG G).ga = cga at *
  generalize (colG G).gc = cgc at *
  obtain ⟨rI, hI⟩ : ∃ q, q = findI l y := ⟨_, rfl⟩
  obtain ⟨rB, hB⟩ : ∃ q, q = findB l y := ⟨_, rfl⟩
  rw [← hI, ← hB]
  have HR := Lib.hid (And.intro hB hI)
  clear hI hB
  go_enter Try.func7, Try.ntmps7
  go_wp2_with fail
  refine (KC.out _ (by (repeat (first | (with_reducible exact New.refl _) | (with_reducible assumption) | ((with_reducible refine New.setB ?_ ?_ _); focus (first | omega | (simp; omega) | (simp; done))) | (with_reducible refine New.alloc ?_ _) | (with_reducible refine New.drew ?_) | (with_reducible refine New.drewN ?_ _) | (with_reducible refine New.hat ?_ _) | ((with_reducible apply New.snart); (with_reducible assumption)))))).mono ?_
  rintro e w1 ⟨rfl, n1⟩
  have N1 : New w w1 := New.trans (by (repeat (first | (with_reducible exact New.refl _) | (with_reducible assumption) | ((with_reducible refine New.setB ?_ ?_ _); focus (first | omega | (simp; omega) | (simp; done))) | (with_reducible refine New.alloc ?_ _) | (with_reducible refine New.drew ?_) | (with_reducible refine New.drewN ?_ _) | (with_reducible refine New.hat ?_ _) | ((with_reducible apply New.snart); (with_reducible assumption))))) n1
  clear n1
  go_wp2_with fail
  refine (KA.out _ N1).mono ?_
  rintro e w2 ⟨v, rfl, hs, n2⟩
  have N2 := Lib.hid (N1.trans n2)
  obtain ⟨a, c, rfl, -, -, -, hs1⟩ := hs
  have HS := Lib.hid hs1
  clear n2 N1 hs1 KC KA
  obtain ⟨m, hm⟩ : ∃ m, m = l.length := ⟨_, rfl⟩
  rw [← hm] at hl8' ⊢
  have HM := Lib.hid hm
  clear hm
  go_wp2_with fail
  go_loopg [18] m (fun gk s18 wr => ∃ i : Nat, s18 = .int .i64 i ∧ i ≤ m ∧ m - i ≤ gk ∧ Hid (∀ k (hk : k < l.length), k < i → isY y l[k] = false) ∧ Hid (New w2 wr))
  case atStart => exact ⟨0, rfl, by omega, by omega, Lib.hid (fun k _ h => by omega), Lib.hid (New.refl _)⟩
  case round =>
    obtain ⟨i, rfl, hi, hgk, hall, hnr⟩ := hrel
    by_cases hlt : i < m
    · have hil : i < l.length := by rw [← HM.out]; exact hlt
      obtain ⟨b, off, rfl, hA⟩ := HS.out (by omega)
      obtain ⟨c0, c1, c2⟩ := Fl.cells (hA.keep hnr.out) i hil
      have nr := hnr.out
      obtain ⟨f, hf⟩ : ∃ f, f = l[i] := ⟨_, rfl⟩
      rw [← hf] at c0 c1 c2
      have HF := Lib.hid hf
      clear hA hnr hf
      cases q : (f.y == y)
      · have hnx : Hid (∀ k (hk : k < l.length), k < i + 1 → isY y l[k] = false) := Lib.hid (fun k hk h => by
          by_cases e : k < i
          · exact hall.out k hk e
          · obtain rfl : k = i := by omega
            rw [← HF.out]; exact q)
        go_wp2_with fail
        go_roundg (m - (i + 1))
        case measure => omega
        case rel => exact ⟨i + 1, by go_num, by omega, by omega, hnx, Lib.hid (by (repeat (first | (with_reducible exact New.refl _) | (with_reducible assumption) | ((with_reducible refine New.setB ?_ ?_ _); focus (first | omega | (simp; omega) | (simp; done))) | (with_reducible refine New.alloc ?_ _) | (with_reducible refine New.drew ?_) | (with_reducible refine New.drewN ?_ _) | (with_reducible refine New.hat ?_ _) | ((with_reducible apply New.snart); (with_reducible assumption)))))⟩
      · have hh : Hid (rB = true ∧ rI = i) := Lib.hid (by
          have := find_hit hil (by rw [← HF.out]; exact q) hall.out
          rw [HR.out.1, HR.out.2]
          exact this)
        go_wp2_with fail
        refine bodyPost_ret (v := .tuple #[.int .i64 i, .bool true]) (by simp [results, Try.results7, go_sem, *]) rfl ?_
        exact ⟨by rw [hh.out.1, hh.out.2], N2.out.trans (by (repeat (first | (with_reducible exact New.refl _) | (with_reducible assumption) | ((with_reducible refine New.setB ?_ ?_ _); focus (first | omega | (simp; omega) | (simp; done))) | (with_reducible refine New.alloc ?_ _) | (with_reducible refine New.drew ?_) | (with_reducible refine New.drewN ?_ _) | (with_reducible refine New.hat ?_ _) | ((with_reducible apply New.snart); (with_reducible assumption)))))⟩
    · obtain rfl : i = m := by omega
      have hh : Hid (rB = false ∧ rI = 0) := Lib.hid (by
        have := find_none (l := l) (y := y) (fun k hk => hall.out k hk (by rw [HM.out]; exact hk))
        rw [HR.out.1, HR.out.2]
        exact this)
      go_wp2_with fail
      refine bodyPost_ret (v := .tuple #[.int .i64 0, .bool false]) (by simp [results, Try.results7, go_sem, *]) rfl ?_
      exact ⟨by rw [hh.out.1, hh.out.2], N2.out.trans hnr.out⟩

end Go.Proofs.Ytklopjbpfddgfaa
