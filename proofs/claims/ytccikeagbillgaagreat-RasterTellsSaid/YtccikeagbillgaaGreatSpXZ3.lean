import Derived.Test.YtccikeagbillgaaGreatRaRZ3
import Derived.Test.YtccikeagbillgaaGreatSpQZ3
import Derived.Deep.DeepCutAuto
import Derived.Test.YtccikeagbillgaaGreatSpRcZ3
import Derived.Test.YtccikeagbillgaaGreatSpRdZ3

/- Package raster: Box. -/
namespace Go.Proofs.YtccikeagbillgaaGreat
open Go.RowKit Go.Sort
set_option linter.unusedVariables false

theorem any_E (C : CfgR) (l : List TriR) (b : Bx) (n : Nat) : anyE (atL C l b) n = anyF C l b.x b.z b.w n := by
  unfold anyE anyF
  congr 1
  funext k
  unfold atL atF
  rw [fE_full]
  cases fullB C l (plX b.x b.w k) (plZ b.z b.w k) <;> rfl
theorem bld_E (C : CfgR) (l : List TriR) (b : Bx) (n : Nat) : bldE (atL C l b) n = if anyF C l b.x b.z b.w n then 51 else 0 := by unfold bldE; rw [any_E]
theorem bld_R {C : CfgR} {l : List TriR} {b : Bx} {n : Nat} (h : anyF C l b.x b.z b.w n = false) : bldR (atL C l b) n = rowsL C l b.x b.z b.w n := by
  have h' := h
  rw [← any_E] at h
  unfold bldR
  rw [h]
  unfold rowsF rowsL
  simp only [Bool.false_eq_true, if_false]
  refine List.map_congr_left fun k hk => ?_
  unfold atL atQ
  rw [fR_full]
  unfold anyF at h'
  rw [List.any_eq_false] at h'
  have := h' k hk
  unfold atF at this
  rw [if_neg this]
theorem bx_ok {x z w d : Int} (h : boxB x z w d = true) : (⟨x, z, w, d⟩ : Bx).ok := by
  have := boxB_iff.1 h
  refine ⟨?_, ?_, ?_, ?_, ?_, ?_, ?_, ?_⟩ <;> (dsimp only; (try unfold i64B); omega)

set_option maxHeartbeats 1000000 in
theorem r_bx (C : CfgR) (at0 : Option Addr) (l : List TriR) (cap : Nat) (hl : l.length ≤ maxLen) (x z wi d : Int) (w : World) (H : RowIn TriR.enc 10 w at0 l) :
    Calls Tryz.prog 10 #[.agg #[.int .i64 C.cl, .int .i64 C.cb, .int .i64 C.ht, .int .i64 C.ri, .int .i64 C.ru, .int .i64 C.wd, .int .i64 C.dp], .slice at0 l.length cap, .int .i64 x, .int .i64 z, .int .i64 wi, .int .i64 d] w fun e w' =>
      ∃ v, e = .returned (.tuple #[v, .int .i64 (bE C l x z wi d)]) ∧ RowsV w' v (bR C l x z wi d) ∧ New w w' := by
  have HC := Lib.hid (fun W (n : New w W) => c_check C at0 l cap hl W (H.keep n))
  have KM := Lib.hid (fun W => a_may x z wi d W)
  obtain ⟨ev, hev⟩ : ∃ ev, ev = rchk C l := ⟨_, rfl⟩
  rw [← hev] at HC
  by_cases h0 : ev = 0
  · have h0' : rchk C l = 0 := by rw [← hev]; exact h0
    subst h0
    obtain ⟨k1, k2, k3⟩ := rchk_zero h0'
    cases hb : boxB x z wi d
    · rw [hb] at KM
      obtain ⟨e1, e2⟩ := b_not (x := x) (z := z) (w := wi) (d := d) h0' hb
      rw [e1, e2]
      clear e1 e2 k1 k2 k3 hb h0'
      go_enter Tryz.func10, Tryz.ntmps10
      go_wp2_with fail
      generalize hW : World.alloc (World.alloc _ _) _ = W1
      have n1 : New w W1 := by subst hW; (repeat (first | (with_reducible exact New.refl _) | (with_reducible assumption) | ((with_reducible refine New.setB ?_ ?_ _); focus (first | omega | (simp; omega) | (simp; done))) | (with_reducible refine New.alloc ?_ _) | (with_reducible refine New.drew ?_) | (with_reducible refine New.drewN ?_ _) | (with_reducible refine New.hat ?_ _) | ((with_reducible apply New.snart); (with_reducible assumption))))
      have hC1 : W1.heap[w.heap.size]? = some (.cells (cfgA C) 23 (0, 0)) := by subst hW; exact ((New.refl _).alloc _).blk (World.alloc_heap_new w _)
      have hB1 : W1.heap[w.heap.size + 1]? = some (.cells (boxA ⟨x, z, wi, d⟩) 54 (0, 0)) := by
        subst hW
        have h := World.alloc_heap_new (w.alloc (.cells (cfgA C) 23)) (.cells (boxA ⟨x, z, wi, d⟩) 54)
        rw [World.size_alloc] at h
        exact h
      clear hW
      refine (HC.out _ n1).mono ?_
      rintro e w2 ⟨rfl, n2⟩
      obtain ⟨b0, b1, b2, b3⟩ := box_cs (n2.blk hB1)
      go_wp2_with fail
      refine (KM.out _).mono ?_
      rintro e w3 ⟨rfl, n3⟩
      clear b0 b1 b2 b3
      have N3 := Lib.hid (n1.trans (n2.trans n3))
      clear n1 n2 n3 hC1 hB1
      go_wp2_with fail
      refine bodyPost_ret (v := .tuple #[.slice none 0 0, .int .i64 2]) (by simp [results, Tryz.results10, go_sem, *]) rfl ?_
      exact ⟨_, rfl, RowsV.nil, N3.out⟩
    · rw [hb] at KM
      have KK := Lib.hid (fun W (n : New w W) => callsIn_wide.1 (k_columns_ok C (CfgR.fine_of k1) ⟨x, z, wi, d⟩ (bx_ok hb) at0 l cap k2 (fun T hT => mayT_ok (CfgR.fine_of k1) (k3 T hT)) W (H.keep n)))
      rw [bld_E] at KK
      have hbn : (⟨x, z, wi, d⟩ : Bx).n = (wi * d).toNat := rfl
      have HE : Hid (bE C l x z wi d = (if anyF C l x z wi (⟨x, z, wi, d⟩ : Bx).n then 51 else 0) ∧ bR C l x z wi d = bldR (atL C l ⟨x, z, wi, d⟩) (⟨x, z, wi, d⟩ : Bx).n) := Lib.hid (by
        rw [hbn]
        cases hf : anyF C l x z wi (wi * d).toNat
        · obtain ⟨e1, e2⟩ := b_fine h0' hb hf
          rw [e1, e2, bld_R (b := ⟨x, z, wi, d⟩) hf]
          exact ⟨rfl, rfl⟩
        · obtain ⟨e1, e2⟩ := b_full h0' hb hf
          rw [e1, e2]
          refine ⟨rfl, ?_⟩
          unfold bldR
          rw [any_E]
          simp only [hf, if_true])
      rw [HE.out.1, HE.out.2]
      clear hb h0' k1 k2 k3 hbn
      generalize (if anyF C l x z wi (⟨x, z, wi, d⟩ : Bx).n then (51 : Int) else 0) = ee at *
      generalize bldR (atL C l ⟨x, z, wi, d⟩) (⟨x, z, wi, d⟩ : Bx).n = LL at *
      go_enter Tryz.func10, Tryz.ntmps10
      go_wp2_with fail
      generalize hW : World.alloc (World.alloc _ _) _ = W1
      have n1 : New w W1 := by subst hW; (repeat (first | (with_reducible exact New.refl _) | (with_reducible assumption) | ((with_reducible refine New.setB ?_ ?_ _); focus (first | omega | (simp; omega) | (simp; done))) | (with_reducible refine New.alloc ?_ _) | (with_reducible refine New.drew ?_) | (with_reducible refine New.drewN ?_ _) | (with_reducible refine New.hat ?_ _) | ((with_reducible apply New.snart); (with_reducible assumption))))
      have hC1 : W1.heap[w.heap.size]? = some (.cells (cfgA C) 23 (0, 0)) := by subst hW; exact ((New.refl _).alloc _).blk (World.alloc_heap_new w _)
      have hB1 : W1.heap[w.heap.size + 1]? = some (.cells (boxA ⟨x, z, wi, d⟩) 54 (0, 0)) := by
        subst hW
        have h := World.alloc_heap_new (w.alloc (.cells (cfgA C) 23)) (.cells (boxA ⟨x, z, wi, d⟩) 54)
        rw [World.size_alloc] at h
        exact h
      clear hW
      refine (HC.out _ n1).mono ?_
      rintro e w2 ⟨rfl, n2⟩
      obtain ⟨b0, b1, b2, b3⟩ := box_cs (n2.blk hB1)
      go_wp2_with fail
      refine (KM.out _).mono ?_
      rintro e w3 ⟨rfl, n3⟩
      clear b0 b1 b2 b3
      obtain ⟨c0, c1, c2, c3, c4, c5, c6⟩ := cfg_cs (n3.blk (n2.blk hC1))
      obtain ⟨b0, b1, b2, b3⟩ := box_cs (n3.blk (n2.blk hB1))
      have N3 := Lib.hid (n1.trans (n2.trans n3))
      clear n1 n2 n3 hC1 hB1
      go_wp2_with fail
      clear b0 b1 b2 b3 c0 c1 c2 c3 c4 c5 c6
      refine (KK.out _ N3.out).mono ?_
      rintro e w4 ⟨v, rfl, hr, n4⟩
      have HR := Lib.hid hr
      obtain ⟨us, -, ⟨va, vc, rfl, -⟩, -⟩ := hr
      have N4 := Lib.hid (N3.out.trans n4)
      clear n4
      go_wp2_with fail
      refine bodyPost_ret (v := .tuple #[.slice va us.length vc, .int .i64 ee]) (by simp [results, Tryz.results10, go_sem, *]) rfl ?_
      exact ⟨_, rfl, HR.out, N4.out⟩
  · have h0' : rchk C l ≠ 0 := by rw [← hev]; exact h0
    obtain ⟨e1, e2⟩ := b_no (x := x) (z := z) (w := wi) (d := d) h0'
    rw [e1, e2, ← hev]
    clear e1 e2 h0' hev
    have hb : (ev == 0) = false := by rw [beq_eq_false_iff_ne]; exact h0
    have hb2 : (ev != 0) = true := by rw [bne_iff_ne]; exact h0
    go_enter Tryz.func10, Tryz.ntmps10
    go_wp2_with fail
    generalize hW : World.alloc (World.alloc _ _) _ = W1
    have n1 : New w W1 := by subst hW; (repeat (first | (with_reducible exact New.refl _) | (with_reducible assumption) | ((with_reducible refine New.setB ?_ ?_ _); focus (first | omega | (simp; omega) | (simp; done))) | (with_reducible refine New.alloc ?_ _) | (with_reducible refine New.drew ?_) | (with_reducible refine New.drewN ?_ _) | (with_reducible refine New.hat ?_ _) | ((with_reducible apply New.snart); (with_reducible assumption))))
    have hC1 : W1.heap[w.heap.size]? = some (.cells (cfgA C) 23 (0, 0)) := by subst hW; exact ((New.refl _).alloc _).blk (World.alloc_heap_new w _)
    have hB1 : W1.heap[w.heap.size + 1]? = some (.cells (boxA ⟨x, z, wi, d⟩) 54 (0, 0)) := by
      subst hW
      have h := World.alloc_heap_new (w.alloc (.cells (cfgA C) 23)) (.cells (boxA ⟨x, z, wi, d⟩) 54)
      rw [World.size_alloc] at h
      exact h
    clear hW
    refine (HC.out _ n1).mono ?_
    rintro e w2 ⟨rfl, n2⟩
    have N3 := Lib.hid (n1.trans n2)
    clear n1 n2 hC1 hB1
    go_wp2_with fail
    refine bodyPost_ret (v := .tuple #[.slice none 0 0, .int .i64 ev]) (by simp [results, Tryz.results10, go_sem, *]) rfl ?_
    exact ⟨_, rfl, RowsV.nil, N3.out⟩

end Go.Proofs.YtccikeagbillgaaGreat

/- What the laws of layer 8 say of three rows. -/
namespace Go.Proofs.YtccikeagbillgaaGreat
open Go.RowKit
set_option linter.unusedVariables false

/-- A row of two in a block of its own. -/
theorem sn_two {w : World} {g : Nat} {s t : Sn} (h0 : w.cell? ⟨g, 0, none⟩ = some (.int .i64 s.lo)) (h1 : w.cell? ⟨g, 1, none⟩ = some (.int .i64 s.hi)) (h2 : w.cell? ⟨g, 2, none⟩ = some (.bool s.wk)) (h3 : w.cell? ⟨g, 3, none⟩ = some (.int .i64 t.lo)) (h4 : w.cell? ⟨g, 4, none⟩ = some (.int .i64 t.hi)) (h5 : w.cell? ⟨g, 5, none⟩ = some (.bool t.wk)) : Sl Sn.enc 3 w (.slice (some ⟨g, 0, none⟩) [s, t].length 2) [s, t] :=
  ⟨_, _, rfl, Nat.le_refl _, by unfold maxLen; omega, fun h => (by cases h), fun _ => ⟨g, 0, rfl, fun j hj i hi => by
    have hj' : j < 2 := hj
    have hi' : i < 3 := by have := hi; rw [Sn.enc_len] at this; exact this
    rcases (show j = 0 ∨ j = 1 by omega) with rfl | rfl <;> rcases (show i = 0 ∨ i = 1 ∨ i = 2 by omega) with rfl | rfl | rfl
    · exact h0
    · exact h1
    · exact h2
    · exact h3
    · exact h4
    · exact h5⟩⟩

theorem w_one : IsM [⟨0, 2, false⟩, ⟨2, 5, true⟩] [⟨0, 5, true⟩] := IsM.two (p := ⟨0, 2, false⟩) (q := ⟨2, 5, true⟩) (by decide) (by decide) (by decide) (by decide)
theorem w_two : IsM [⟨0, 6, false⟩, ⟨2, 5, true⟩] [⟨0, 6, false⟩] := IsM.two (p := ⟨0, 6, false⟩) (q := ⟨2, 5, true⟩) (by decide) (by decide) (by decide) (by decide)
theorem w_three : IsM [⟨0, 1, false⟩, ⟨2, 3, false⟩] [⟨0, 1, false⟩, ⟨2, 3, false⟩] := IsM.self (by unfold Sep; simp) (by intro p hp; simp at hp; rcases hp with rfl | rfl <;> decide)

/-- Merge of a row of which the spans are known. -/
theorem k_known (g : Nat) (s t : Sn) (R : List Sn) (hb : fstB badS [s, t] = false) (hR : IsM [s, t] R) (w : World) (h : Sl Sn.enc 3 w (.slice (some ⟨g, 0, none⟩) [s, t].length 2) [s, t]) :
    Calls Tryz.prog 39 #[.slice (some ⟨g, 0, none⟩) 2 2] w fun e w' => ∃ a c, e = .returned (.tuple #[.slice a R.length c, .int .i64 0]) ∧ Sl Sn.enc 3 w' (.slice a R.length c) R ∧ New w w' := by
  refine (k_merge (some ⟨g, 0, none⟩) [s, t] 2 (by simp) w h).mono ?_
  rintro e w' ⟨hn, h | ⟨-, R', a, c, h1, -, rfl, h3⟩⟩
  · rw [hb] at h; exact absurd h.1 (by simp)
  · have e1 : R' = R := h1.uniq (fun p hp => (not_bad hb p hp).2.1) hR (fun p => Iff.rfl)
    subst e1
    exact ⟨a, c, rfl, h3, hn⟩

end Go.Proofs.YtccikeagbillgaaGreat

/- Layer 8: what Merge and Put answer, told of one row and one number. -/
namespace Go.Proofs.YtccikeagbillgaaGreat
open Go.RowKit
set_option linter.unusedVariables false

def MR (l R : List Sn) (r : Int) : Prop := (fstB badS l = true ∧ R = [] ∧ r = 2) ∨ (fstB badS l = false ∧ IsM l R ∧ r = 0)
theorem MR.uniq {l R R' : List Sn} {r r' : Int} (h : MR l R r) (h' : MR l R' r') : R = R' ∧ r = r' := by
  rcases h with ⟨a, b, c⟩ | ⟨a, b, c⟩ <;> rcases h' with ⟨a', b', c'⟩ | ⟨a', b', c'⟩
  · exact ⟨b.trans b'.symm, c.trans c'.symm⟩
  · rw [a] at a'; cases a'
  · rw [a] at a'; cases a'
  · exact ⟨b.uniq (fun p hp => (not_bad a p hp).2.1) b' (fun p => Iff.rfl), c.trans c'.symm⟩
theorem Merged.flat {l : List Sn} {w w' : World} {e : Ending} (h : Merged l w e w') : New w w' ∧ ∃ (R : List Sn) (a : Option Addr) (c : Nat) (r : Int), MR l R r ∧ R.length ≤ l.length ∧ e = .returned (.tuple #[.slice a R.length c, .int .i64 r]) ∧ Sl Sn.enc 3 w' (.slice a R.length c) R := by
  obtain ⟨hn, ⟨h1, h2⟩ | ⟨h1, R, a, c, h2, h3, h4, h5⟩⟩ := h
  · exact ⟨hn, [], none, 0, 2, .inl ⟨h1, rfl, rfl⟩, by simp, h2, Sl.nil⟩
  · exact ⟨hn, R, a, c, 0, .inr ⟨h1, h2, rfl⟩, h3, h4, h5⟩
def PR (l : List Sn) (s : Sn) (R : List Sn) (r : Int) : Prop := ((spE l = 2 ∨ badS s = true) ∧ R = [] ∧ r = 2) ∨ (spE l = 0 ∧ badS s = false ∧ ∃ Q, IsM (l ++ [s]) Q ∧ ((8 < Q.length ∧ R = [] ∧ r = 51) ∨ (Q.length ≤ 8 ∧ R = Q ∧ r = 0)))
theorem PR.proper {l : List Sn} {s : Sn} (h1 : spE l = 0) (h2 : badS s = false) : Proper (l ++ [s]) := fun p hp => by
  rcases List.mem_append.1 hp with k | k
  · exact ((chkE_zero h1).2.1 p k).2.1
  · rw [List.mem_singleton] at k; subst k; exact ((badS_not _).1 h2).2.1
theorem PR.uniq {l R R' : List Sn} {s : Sn} {r r' : Int} (h : PR l s R r) (h' : PR l s R' r') : R = R' ∧ r = r' := by
  rcases h with ⟨a, b, c⟩ | ⟨a, b, Q, q, c⟩ <;> rcases h' with ⟨a', b', c'⟩ | ⟨a', b', Q', q', c'⟩
  · exact ⟨b.trans b'.symm, c.trans c'.symm⟩
  · rcases a with a | a
    · omega
    · rw [a] at b'; cases b'
  · rcases a' with a' | a'
    · omega
    · rw [b] at a'; cases a'
  · have e := q.uniq (PR.proper a b) q' (fun p => Iff.rfl)
    subst e
    rcases c with ⟨c1, c2, c3⟩ | ⟨c1, c2, c3⟩ <;> rcases c' with ⟨d1, d2, d3⟩ | ⟨d1, d2, d3⟩
    · exact ⟨c2.trans d2.symm, c3.trans d3.symm⟩
    · omega
    · omega
    · exact ⟨c2.trans d2.symm, c3.trans d3.symm⟩
theorem Putted.flat {l : List Sn} {s : Sn} {w w' : World} {e : Ending} (h : Putted l s w e w') : New w w' ∧ ∃ (R : List Sn) (a : Option Addr) (c : Nat) (r : Int), PR l s R r ∧ R.length ≤ 8 ∧ e = .returned (.tuple #[.slice a R.length c, .int .i64 r]) ∧ Sl Sn.enc 3 w' (.slice a R.length c) R := by
  obtain ⟨hn, ⟨h1, h2⟩ | ⟨h1, h2, R, h3, ⟨h4, h5⟩ | ⟨h4, a, c, h5, h6⟩⟩⟩ := h
  · exact ⟨hn, [], none, 0, 2, .inl ⟨h1, rfl, rfl⟩, by simp, h2, Sl.nil⟩
  · exact ⟨hn, [], none, 0, 51, .inr ⟨h1, h2, R, h3, .inl ⟨h4, rfl, rfl⟩⟩, by simp, h5, Sl.nil⟩
  · exact ⟨hn, R, a, c, 0, .inr ⟨h1, h2, R, h3, .inr ⟨h4, rfl, rfl⟩⟩, h4, h5, h6⟩
theorem allEq_self (l : List Sn) : Sn.allEq l l = true := (Sn.allEq_iff l l).2 rfl

end Go.Proofs.YtccikeagbillgaaGreat
