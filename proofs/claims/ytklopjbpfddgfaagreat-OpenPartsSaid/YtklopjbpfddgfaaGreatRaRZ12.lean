import Derived.Test.YtklopjbpfddgfaaGreatRaC0Z12
import Derived.Test.YtklopjbpfddgfaaGreatTriEZ12
import Derived.Test.YtklopjbpfddgfaaGreatWholeIZ12
import Derived.Deep.LoopGhost
import Derived.Test.YtklopjbpfddgfaaGreatRaKZ12

/- Package raster: the checks ahead. -/
namespace Go.Proofs.YtklopjbpfddgfaaGreat
open Go.RowKit Go.Sort
set_option linter.unusedVariables false

set_option maxHeartbeats 1000000 in
theorem c_check_bad (C : CfgR) (v : Value) (hE : C.err ≠ 0) (w : World) :
    Calls Tryz.prog 28 #[.agg #[.int .i64 C.cl, .int .i64 C.cb, .int .i64 C.ht, .int .i64 C.ri, .int .i64 C.ru, .int .i64 C.wd, .int .i64 C.dp], v] w fun e w' => e = .returned (.int .i64 C.err) ∧ New w w' := by
  have K := Lib.hid (fun W => check_any C.cl C.cb C.ht C.ri C.ru C.wd C.dp W)
  have e : C.err = 20 := (err_two C).resolve_left hE
  have e' : checkE C.cl C.cb C.ht C.ri C.ru C.wd C.dp = 20 := e
  rw [e] at hE ⊢
  rw [e'] at K
  clear e e' hE
  go_enter Tryz.func28, Tryz.ntmps28
  go_wp2_with fail
  refine (K.out _).mono ?_
  rintro e w1 ⟨rfl, n1⟩
  have hn : New w w1 := New.trans (by (repeat (first | (with_reducible exact New.refl _) | (with_reducible assumption) | ((with_reducible refine New.setB ?_ ?_ _); focus (first | omega | (simp; omega) | (simp; done))) | (with_reducible refine New.alloc ?_ _) | (with_reducible refine New.drew ?_) | (with_reducible refine New.drewN ?_ _) | (with_reducible refine New.hat ?_ _) | ((with_reducible apply New.snart); (with_reducible assumption))))) n1.1
  clear n1
  go_wp2_with fail
  go_ret
  exact ⟨rfl, hn⟩

set_option maxHeartbeats 1000000 in
theorem c_check_long (C : CfgR) (hE : C.err = 0) (at0 : Option Addr) (n cap : Nat) (hn : 200 < n) (hc : n ≤ maxLen) (w : World) :
    Calls Tryz.prog 28 #[.agg #[.int .i64 C.cl, .int .i64 C.cb, .int .i64 C.ht, .int .i64 C.ri, .int .i64 C.ru, .int .i64 C.wd, .int .i64 C.dp], .slice at0 n cap] w fun e w' => e = .returned (.int .i64 2) ∧ New w w' := by
  have K := Lib.hid (fun W => check_any C.cl C.cb C.ht C.ri C.ru C.wd C.dp W)
  have e' : checkE C.cl C.cb C.ht C.ri C.ru C.wd C.dp = 0 := hE
  rw [e'] at K
  clear e' hE
  go_enter Tryz.func28, Tryz.ntmps28
  go_wp2_with fail
  refine (K.out _).mono ?_
  rintro e w1 ⟨rfl, n1⟩
  have hn : New w w1 := New.trans (by (repeat (first | (with_reducible exact New.refl _) | (with_reducible assumption) | ((with_reducible refine New.setB ?_ ?_ _); focus (first | omega | (simp; omega) | (simp; done))) | (with_reducible refine New.alloc ?_ _) | (with_reducible refine New.drew ?_) | (with_reducible refine New.drewN ?_ _) | (with_reducible refine New.hat ?_ _) | ((with_reducible apply New.snart); (with_reducible assumption))))) n1.1
  clear n1
  have hd : ((n : Int) > 200) := by omega
  go_wp2_with fail
  go_ret
  exact ⟨rfl, hn⟩

set_option maxHeartbeats 2000000 in
set_option maxRecDepth 100000 in
theorem c_check_fine (C : CfgR) (hC : C.fine) (at0 : Option Addr) (l : List TriR) (cap : Nat) (hl : l.length ≤ 200) (w : World) (H : RowIn TriR.enc 10 w at0 l) :
    Calls Tryz.prog 28 #[.agg #[.int .i64 C.cl, .int .i64 C.cb, .int .i64 C.ht, .int .i64 C.ri, .int .i64 C.ru, .int .i64 C.wd, .int .i64 C.dp], .slice at0 l.length cap] w fun e w' => e = .returned (.int .i64 (if l.all (mayTB C.wd C.dp) then 0 else 2)) ∧ New w w' := by
  have K := Lib.hid (fun W => check_any C.cl C.cb C.ht C.ri C.ru C.wd C.dp W)
  have e' : checkE C.cl C.cb C.ht C.ri C.ru C.wd C.dp = 0 := hC.err
  rw [e'] at K
  have KT := Lib.hid (fun (T : TriR) W => t_check C.cl C.cb C.ht C.ri C.ru C.wd C.dp 1 T.x0 T.y0 T.z0 T.x1 T.y1 T.z1 T.x2 T.y2 T.z2 W)
  have MC := Lib.hid (fun T => mayT_check hC T)
  clear e'
  obtain ⟨v, hv⟩ : ∃ v : Int, v = if l.all (mayTB C.wd C.dp) then 0 else 2 := ⟨_, rfl⟩
  rw [← hv]
  have HV := Lib.hid hv
  have HH := Lib.hid H
  clear hv H
  go_enter Tryz.func28, Tryz.ntmps28
  go_wp2_with fail
  generalize hW : World.alloc _ _ = W
  have hn : New w W := by subst hW; (repeat (first | (with_reducible exact New.refl _) | (with_reducible assumption) | ((with_reducible refine New.setB ?_ ?_ _); focus (first | omega | (simp; omega) | (simp; done))) | (with_reducible refine New.alloc ?_ _) | (with_reducible refine New.drew ?_) | (with_reducible refine New.drewN ?_ _) | (with_reducible refine New.hat ?_ _) | ((with_reducible apply New.snart); (with_reducible assumption))))
  have hB : W.heap[w.heap.size]? = some (.cells (cfgA C) 23 (0, 0)) := by subst hW; exact World.alloc_heap_new w _
  clear hW
  refine (K.out _).mono ?_
  rintro e w1 ⟨rfl, n1⟩
  replace hn : New w w1 := New.trans hn n1.1
  replace hB := New.blk n1.1 hB
  clear n1
  have hd : ¬ ((l.length : Int) > 200) := by omega
  go_wp2_with fail
  clear hd
  have HN := Lib.hid (And.intro hn hB)
  clear hn hB
  go_loopg [18] l.length (fun k s wr => ∃ i : Nat, s = .int .i64 i ∧ i + k = l.length ∧ Hid (∀ j (hj : j < l.length), j < i → mayTB C.wd C.dp l[j] = true) ∧ Hid (New w wr ∧ wr.heap[w.heap.size]? = some (.cells (cfgA C) 23 (0, 0))))
  case atStart => exact ⟨0, by simp, by omega, Lib.hid (fun _ _ h => absurd h (by omega)), HN⟩
  case round =>
    obtain ⟨i, rfl, hik, HNO, HN⟩ := hrel
    by_cases hlt : i < l.length
    · obtain ⟨b0, off, rfl, hA⟩ := HH.out (by omega)
      have hA' := hA.keep HN.out.1
      obtain ⟨d0, d1, d2, d3, d4, d5, d6, d7, d8, d9⟩ := TriR.cells hA' i hlt
      obtain ⟨c0, c1, c2, c3, c4, c5, c6⟩ := cfg_cs HN.out.2
      have hz0 : w.heap.size < wr.heap.size := World.block_lt_of_cell? _ _ c0
      have KC := fun W => KT.out l[i] W
      rw [MC.out l[i]] at KC
      clear hA hA'
      cases he : mayTB C.wd C.dp l[i]
      · rw [he] at KC
        simp only [Bool.false_eq_true, if_false] at KC
        replace KC := Lib.hid KC
        have HE : Hid (v = 2) := Lib.hid (by
          rw [HV.out, if_neg]
          rw [List.all_eq_true]
          intro h
          have := h _ (List.getElem_mem hlt)
          rw [he] at this
          cases this)
        clear he
        go_wp2_with fail
        generalize hW : World.alloc _ _ = W2
        have n2 : New wr W2 := by subst hW; (repeat (first | (with_reducible exact New.refl _) | (with_reducible assumption) | ((with_reducible refine New.setB ?_ ?_ _); focus (first | omega | (simp; omega) | (simp; done))) | (with_reducible refine New.alloc ?_ _) | (with_reducible refine New.drew ?_) | (with_reducible refine New.drewN ?_ _) | (with_reducible refine New.hat ?_ _) | ((with_reducible apply New.snart); (with_reducible assumption))))
        clear hW
        refine (KC.out _).mono ?_
        rintro e w3 ⟨rfl, n3⟩
        have n4 := (HN.out.1.trans n2).trans n3
        clear n2 n3
        go_wp2_with fail
        go_ret
        rw [HE.out]
        exact ⟨rfl, n4⟩
      · rw [he] at KC
        simp only [if_true] at KC
        replace KC := Lib.hid KC
        have HE := Lib.hid he
        clear he
        go_wp2_with fail
        generalize hW : World.alloc _ _ = W2
        have n2 : New wr W2 := by subst hW; (repeat (first | (with_reducible exact New.refl _) | (with_reducible assumption) | ((with_reducible refine New.setB ?_ ?_ _); focus (first | omega | (simp; omega) | (simp; done))) | (with_reducible refine New.alloc ?_ _) | (with_reducible refine New.drew ?_) | (with_reducible refine New.drewN ?_ _) | (with_reducible refine New.hat ?_ _) | ((with_reducible apply New.snart); (with_reducible assumption))))
        clear hW
        refine (KC.out _).mono ?_
        rintro e w3 ⟨rfl, n3⟩
        have n4 := n2.trans n3
        clear n2 n3
        go_wp2_with fail
        go_roundg (gk - 1)
        case measure => omega
        case rel =>
          refine ⟨i + 1, by go_num, by omega, Lib.hid (fun j hj hji => ?_), Lib.hid ⟨HN.out.1.trans n4, n4.blk HN.out.2⟩⟩
          by_cases h : j < i
          · exact HNO.out j hj h
          · obtain rfl : j = i := by omega
            exact HE.out
    · have HE : Hid (v = 0) := Lib.hid (by
        rw [HV.out, if_pos]
        rw [List.all_eq_true]
        intro x hx
        obtain ⟨j, hj, rfl⟩ := List.getElem_of_mem hx
        exact HNO.out j hj (by omega))
      go_wp2_with fail
      go_ret
      rw [HE.out]
      exact ⟨rfl, HN.out.1⟩

theorem c_check (C : CfgR) (at0 : Option Addr) (l : List TriR) (cap : Nat) (hl : l.length ≤ maxLen) (w : World) (H : RowIn TriR.enc 10 w at0 l) :
    Calls Tryz.prog 28 #[.agg #[.int .i64 C.cl, .int .i64 C.cb, .int .i64 C.ht, .int .i64 C.ri, .int .i64 C.ru, .int .i64 C.wd, .int .i64 C.dp], .slice at0 l.length cap] w fun e w' => e = .returned (.int .i64 (rchk C l)) ∧ New w w' := by
  by_cases hE : C.err = 0
  · by_cases hn : 200 < l.length
    · have e : rchk C l = 2 := by
        unfold rchk mayL
        rw [if_neg (by simpa using hE), decide_eq_false (by omega)]; rfl
      rw [e]
      exact c_check_long C hE at0 l.length cap hn hl w
    · have e : rchk C l = if l.all (mayTB C.wd C.dp) then 0 else 2 := by
        unfold rchk mayL
        rw [if_neg (by simpa using hE), decide_eq_true (by omega : l.length ≤ 200), Bool.true_and]
      rw [e]
      exact c_check_fine C (CfgR.fine_of hE) at0 l cap (by omega) w H
  · have e : rchk C l = C.err := by unfold rchk; rw [if_pos hE]
    rw [e]
    exact c_check_bad C _ hE w

end Go.Proofs.YtklopjbpfddgfaaGreat

/- Package raster: is a triangle over a box of columns? -/
namespace Go.Proofs.YtklopjbpfddgfaaGreat
open Go.RowKit Go.Shelf Go.Sort
set_option linter.unusedVariables false
attribute [local go_sem] Oper.semAt_some

end Go.Proofs.YtklopjbpfddgfaaGreat

/- Package raster: Column, Box. -/
namespace Go.Proofs.YtklopjbpfddgfaaGreat
open Go.RowKit Go.Sort
set_option linter.unusedVariables false

theorem fE_full (C : CfgR) (l : List TriR) (x z : Int) : fE (colL C l x z) = if fullB C l x z then 51 else 0 := by
  unfold fE fullB colQ
  by_cases h : 8 < (mrg (colL C l x z)).length
  · rw [if_pos h, decide_eq_true h]; rfl
  · rw [if_neg h, decide_eq_false h]; rfl
theorem fR_full (C : CfgR) (l : List TriR) (x z : Int) : fR (colL C l x z) = if fullB C l x z then [] else colQ C l x z := by
  unfold fR fullB colQ
  by_cases h : 8 < (mrg (colL C l x z)).length
  · rw [if_pos h, decide_eq_true h]; rfl
  · rw [if_neg h, decide_eq_false h]; rfl
def bx1 (x z : Int) : Bx := ⟨x, z, 1, 1⟩
theorem bx1_ok {x z : Int} (hx : i64B x) (hz : i64B z) : (bx1 x z).ok := by
  unfold i64B at hx hz
  refine ⟨?_, ?_, ?_, ?_, ?_, ?_, ?_, ?_⟩ <;> (unfold bx1; dsimp only; (try unfold i64B); omega)
theorem bx1_n (x z : Int) : (bx1 x z).n = 1 := rfl
theorem bx1_at (C : CfgR) (l : List TriR) (x z : Int) : atL C l (bx1 x z) 0 = colL C l x z := by
  unfold atL bx1 plX plZ
  simp
theorem one_E (C : CfgR) (l : List TriR) (x z : Int) : bldE (atL C l (bx1 x z)) (bx1 x z).n = if fullB C l x z then 51 else 0 := by
  rw [bx1_n]
  unfold bldE anyE
  rw [show List.range 1 = [0] from rfl]
  simp only [List.any_cons, List.any_nil, Bool.or_false, bx1_at, fE_full]
  cases fullB C l x z <;> rfl
theorem one_R (C : CfgR) (l : List TriR) (x z : Int) (h : fullB C l x z = false) : bldR (atL C l (bx1 x z)) (bx1 x z).n = [colQ C l x z] := by
  rw [bx1_n]
  unfold bldR anyE rowsF
  rw [show List.range 1 = [0] from rfl]
  simp only [List.any_cons, List.any_nil, Bool.or_false, bx1_at, fE_full, fR_full, h, List.map_cons, List.map_nil]
  rfl

theorem rows_one {w : World} {v : Value} {R : List Sn} (h : RowsV w v [R]) : ∃ b off c u, v = .slice (some ⟨b, off, none⟩) 1 c ∧ 1 ≤ c ∧ w.cell? ⟨b, off, none⟩ = some u ∧ Sl Sn.enc 3 w u R := by
  obtain ⟨us, h1, ⟨a, c, rfl, h2, h3, h4, h5⟩, h6⟩ := h
  obtain ⟨u, hu, hs⟩ := h6 0 (by simp)
  obtain ⟨b, off, rfl, hr⟩ := h5 (by rw [h1]; simp)
  have hlt : 0 < us.length := by rw [h1]; simp
  have := hr 0 hlt 0 (by simp [oneC])
  have e : us[0] = u := by rw [List.getElem?_eq_getElem hlt] at hu; exact Option.some.inj hu
  rw [h1] at h2 ⊢
  exact ⟨b, off, c, u, rfl, h2, by simpa [oneC, e] using this, hs⟩

end Go.Proofs.YtklopjbpfddgfaaGreat
