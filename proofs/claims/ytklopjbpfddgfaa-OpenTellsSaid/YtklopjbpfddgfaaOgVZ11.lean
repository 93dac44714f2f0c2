import Derived.Test.YtklopjbpfddgfaaOgPZ11
import Derived.Test.YtklopjbpfddgfaaOgRZ11
import Derived.Test.YtklopjbpfddgfaaOgSZ11
import Derived.Test.YtklopjbpfddgfaaOgTZ11
import Derived.Test.YtklopjbpfddgfaaOgUZ11
import Derived.Test.YtklopjbpfddgfaaOgDZ11
import Derived.Test.YtklopjbpfddgfaaRaLg
import Derived.Test.YtklopjbpfddgfaaQuietIn

/- The law OpenTells. -/
namespace Go.Proofs.Ytklopjbpfddgfaa
open Go.RowKit Go.Shelf Go.Sort
set_option linter.unusedVariables false
attribute [local go_sem] Oper.semAt_some

theorem og_equalIn_nil {P : Program} (w : World) (d : Nat) (t : TypeId) (ps rs : Array TypeId) (b : Bool) (f : _root_.Go.Fn) (fi ca : Array Value) (h : P.underlying t = some (.func ps rs b)) :
    (Op.equalIn (d + 1) t (.func f fi ca) .nilFunc).run P w = .ok false w := by
  simp [Op.equalIn, run_underlying h]
theorem og_eql_nil (w : World) (f : Nat) (a : Array Value) : (binOp .eql 38 (.func (.func f) #[] a) .nilFunc).run Try.prog w = .ok (.bool false) w := by
  have h : Try.prog.underlying 38 = some (.func #[66] #[] false) := by kernel_rfl
  simp only [binOp]
  simp [Op.equal, Op.maxDepth, og_equalIn_nil w 9999 _ _ _ _ _ _ _ h]

/-- The act under a name. -/
theorem wpIn_act {F : Fence} {n : Nat} {P : Program} {c : Code} {Q : Exit → Act → World → Prop} {a : Act} {w : World} (h : ∀ A, A = a → c.wpIn F n P Q A w) : c.wpIn F n P Q a w := h a rfl

set_option maxHeartbeats 1000000 in
theorem spot_neq (w : World) (a b c : Int) : (binOp .neq 41 (.agg #[.int .i64 a, .int .i64 b, .int .i64 c]) (.agg #[.int .i64 a, .int .i64 b, .int .i64 c])).run Try.prog w = .ok (.bool false) w := by
  go_simp
theorem flr_neq (w : World) (f : Fl) : (binOp .neq 43 (.agg #[.int .i64 f.y, .int .i64 f.top, .int .i64 f.area]) (.agg #[.int .i64 f.y, .int .i64 f.top, .int .i64 f.area])).run Try.prog w = .ok (.bool false) w := by
  have h := fl_neq w f f
  rw [(Fl.eqB_iff f f).2 rfl] at h
  exact h
theorem allG_len {G : Gd} (hE : gE G = 0) : (allG G).length ≤ 100000 := by
  have hb := placeB_iff.1 (gd_is hE).1
  have h1 := mul_64 hb.2.2.1.1 hb.2.2.1.2 hb.2.2.2.1 hb.2.2.2.2
  have h2 := (gd_is hE).2.1
  have h3 := stTo_len hE G.L.length
  unfold allG
  omega

theorem tells_res {T : Array Value} {W : World} {B : Nat} {b : Bool} (hT : T.getD 12 undef = .pointer (some ⟨B, 0, none⟩)) (hb : Boxed W B 4 (.bool b)) :
    (results Try.f3 T).run Try.prog (W.setCell ⟨B, 0, none⟩ (.bool true)) = .ok (.bool true) (W.setCell ⟨B, 0, none⟩ (.bool true)) := by
  have c := (hb.set (.bool true)).cell
  have hT' : T[12]?.getD undef = .pointer (some ⟨B, 0, none⟩) := by simpa using hT
  simp [results, Try.results3, go_sem, hT', c]

theorem tells_leaves {w U : World} {T : Array Value} {B D : Nat} (h12 : T.getD 12 undef = .pointer (some ⟨B, 0, none⟩)) (b : Boxed U B 4 (.bool false)) (hB : w.heap.size ≤ B) (hn : Below w.heap.size w U) (hD : U.heap[D]? = some (.deferred (some []))) (hDs : w.heap.size ≤ D) :
    bodyPostM Fence.wide 8 Try.prog Try.f3 (fun e w' => e = .returned (.bool true) ∧ New w w') .ret { tmps := T, defers := [{ target := .collected D, args := #[] }] } (U.setCell ⟨B, 0, none⟩ (.bool true)) := by
  have hD' := (KeepsOthers.setCell U ⟨B, 0, none⟩ (.bool true)).same _ _ hD rfl
  have hne : B ≠ D := fun e => by subst e; have := (show U.heap[B]? = _ from b).symm.trans hD; cases this
  refine ret_mark hD' fun V hV hk => ?_
  have c := (show Boxed V B 4 (.bool true) from (hk B hne).trans (b.set _)).cell
  refine ⟨.bool true, ?_, rfl, ?_⟩
  · have h12' : T[12]?.getD undef = .pointer (some ⟨B, 0, none⟩) := by simpa using h12
    simp [results, Try.results3, go_sem, h12', c]
  · rw [hV]
    exact Go.RowKit.Below.trans (Below.setCell (p := ⟨B, 0, none⟩) hn hB (.bool true)) (belowK_b (w := w) (Nat.le_refl _) _ _ _ _ hDs hD' rfl rfl)

set_option maxHeartbeats 8000000 in
set_option maxRecDepth 100000 in
theorem l_openTells (G O : Gd) (x z y leave : Int) (w : World) (h : G.ok w) (h2 : O.ok w) :
    Calls Try.prog 3 #[.agg #[.int .i64 G.x, .int .i64 G.z, .int .i64 G.w, .int .i64 G.d, .slice G.ga G.L.length G.gc], .agg #[.int .i64 O.x, .int .i64 O.z, .int .i64 O.w, .int .i64 O.d, .slice O.ga O.L.length O.gc], .int .i64 x, .int .i64 z, .int .i64 y, .int .i64 leave] w fun e w' => e = .returned (.bool true) ∧ New w w' := by
  have KW := Lib.hid (fun W => og_wakes W)
  have KG := Lib.hid (fun W n => og_great G W (h.keep (n : New w W)))
  have KO := Lib.hid (fun W n => og_great O W (h2.keep (n : New w W)))
  have KF := Lib.hid (fun W n => og_Find G x z y W (h.keep (n : New w W)))
  have QF := Lib.hid (fun W n => rg_Find G x z y W (h.keep (n : New w W)))
  have KC := Lib.hid (fun W n => og_check G W (h.keep (n : New w W)))
  have QC := Lib.hid (fun W n => rg_check G W (h.keep (n : New w W)))
  have KA := Lib.hid (fun W n => og_At G x z W (h.keep (n : New w W)))
  have QA := Lib.hid (fun W n => rg_At G x z W (h.keep (n : New w W)))
  have KS := Lib.hid (fun p q W n => og_Same G O p q W (h.keep (n : New w W)) (h2.keep n))
  have QS := Lib.hid (fun p q W n => rg_Same G O p q W (h.keep (n : New w W)) (h2.keep n))
  have KSS := Lib.hid (fun p W n => og_Same G G p p W (h.keep (n : New w W)) (h.keep n))
  have KL := Lib.hid (fun W n => og_All G W (h.keep (n : New w W)))
  have QL := Lib.hid (fun W n => rg_All G W (h.keep (n : New w W)))
  have hss : sameG G G = true := by unfold sameG eqR; simp
  have HT8 := Lib.hid (tellG_len G x z)
  have hLB := allG_len (colG_E G)
  rw [hss] at KSS
  clear h h2 hss
  have HSG := Lib.hid (fun (q : smallL G.L) => q)
  obtain ⟨gL, hgL⟩ : ∃ q, q = G.L := ⟨_, rfl⟩
  obtain ⟨oL, hoL⟩ : ∃ q, q = O.L := ⟨_, rfl⟩
  rw [← hgL] at KG KS QS KSS
  rw [← hoL] at KO KS QS
  obtain ⟨n, hn⟩ : ∃ q, q = gL.length := ⟨_, rfl⟩
  obtain ⟨m, hm⟩ : ∃ q, q = oL.length := ⟨_, rfl⟩
  rw [← hgL] at KF QF KC QC KA QA KL QL
  rw [← hn] at KG KF QF KC QC KA QA KS QS KSS KL QL
  rw [← hm] at KO KS QS
  rw [← hgL, ← hoL, ← hn, ← hm]
  clear hn hm hgL hoL HSG
  generalize findI (tellG G x z) y = fI at *
  generalize findB (tellG G x z) y = fB at *
  generalize gE G = ge at *
  generalize sameG G O = sm at *
  generalize tellG G x z = T at *
  generalize allG (colG G) = L at *
  generalize G.x = gx at *
  generalize G.z = gz at *
  generalize G.w = gw at *
  generalize G.d = gd at *
  generalize G.ga = ga at *
  generalize G.gc = gc at *
  generalize O.x = ox at *
  generalize O.z = oz at *
  generalize O.w = ow at *
  generalize O.d = od at *
  generalize O.ga = oa at *
  generalize O.gc = oc at *
  refine (callsIn_wide (n := 8)).1 ?_
  refine callsIn_of_wp_marks Try.func3 rfl trivial ?_ rfl
  simp only [Try.ntmps3, List.size_toArray, List.length_cons, List.length_nil, Nat.reduceAdd, Nat.reduceSub, Array.replicate_succ, Array.replicate_zero, List.push_toArray, List.append_toArray, List.nil_append, List.cons_append]
  refine wpIn_wide.2 ?_
  go_upto_region 1 with fail
  refine Code.at (fun W0 hW => ?_)
  have n0 : New w W0 := by subst hW; (repeat (first | (with_reducible exact New.refl _) | (with_reducible assumption) | ((with_reducible refine New.setB ?_ ?_ _); focus (first | omega | (simp; omega) | (simp; done))) | (with_reducible refine New.alloc ?_ _) | (with_reducible refine New.drew ?_) | (with_reducible refine New.drewN ?_ _) | (with_reducible refine New.hat ?_ _) | ((with_reducible apply New.snart); (with_reducible assumption))))
  have z0 : W0.heap.size = w.heap.size + 4 := by subst hW; simp
  have g0 : W0.cell? ⟨w.heap.size, 0, none⟩ = some (.int .i64 gx) := by subst hW; go_simp
  have g1 : W0.cell? ⟨w.heap.size, 1, none⟩ = some (.int .i64 gz) := by subst hW; go_simp
  have g2 : W0.cell? ⟨w.heap.size, 2, none⟩ = some (.int .i64 gw) := by subst hW; go_simp
  have g3 : W0.cell? ⟨w.heap.size, 3, none⟩ = some (.int .i64 gd) := by subst hW; go_simp
  have g4 : W0.cell? ⟨w.heap.size, 4, none⟩ = some (.slice ga n gc) := by subst hW; go_simp
  have o0 : W0.cell? ⟨w.heap.size + 1, 0, none⟩ = some (.int .i64 ox) := by subst hW; go_simp
  have o1 : W0.cell? ⟨w.heap.size + 1, 1, none⟩ = some (.int .i64 oz) := by subst hW; go_simp
  have o2 : W0.cell? ⟨w.heap.size + 1, 2, none⟩ = some (.int .i64 ow) := by subst hW; go_simp
  have o3 : W0.cell? ⟨w.heap.size + 1, 3, none⟩ = some (.int .i64 od) := by subst hW; go_simp
  have o4 : W0.cell? ⟨w.heap.size + 1, 4, none⟩ = some (.slice oa m oc) := by subst hW; go_simp
  have b11 : Boxed W0 (w.heap.size + 1 + 1) 3 (.int .i64 leave) := by
    subst hW
    have h := World.alloc_heap_new ((w.alloc (.cells #[.int .i64 gx, .int .i64 gz, .int .i64 gw, .int .i64 gd, .slice ga n gc] 24)).alloc (.cells #[.int .i64 ox, .int .i64 oz, .int .i64 ow, .int .i64 od, .slice oa m oc] 24)) (.cells #[.int .i64 leave] 3)
    rw [World.size_alloc, World.size_alloc] at h
    exact ((New.refl _).alloc _).stays h
  have b12 : Boxed W0 (w.heap.size + 1 + 1 + 1) 4 (.bool false) := by
    subst hW
    have h := World.alloc_heap_new (((w.alloc (.cells #[.int .i64 gx, .int .i64 gz, .int .i64 gw, .int .i64 gd, .slice ga n gc] 24)).alloc (.cells #[.int .i64 ox, .int .i64 oz, .int .i64 ow, .int .i64 od, .slice oa m oc] 24)).alloc (.cells #[.int .i64 leave] 3)) (.cells #[.bool false] 4)
    rw [World.size_alloc, World.size_alloc, World.size_alloc] at h
    exact h
  clear hW
  have HG := Lib.hid (fun W (q : New W0 W) => And.intro (q.keep g0) (And.intro (q.keep g1) (And.intro (q.keep g2) (And.intro (q.keep g3) (q.keep g4)))))
  have HO := Lib.hid (fun W (q : New W0 W) => And.intro (q.keep o0) (And.intro (q.keep o1) (And.intro (q.keep o2) (And.intro (q.keep o3) (q.keep o4)))))
  have H11 := Lib.hid (fun W (q : New W0 W) => (show Boxed W (w.heap.size + 1 + 1) 3 (.int .i64 leave) from New.stays q b11))
  have H12 := Lib.hid (fun W (q : New W0 W) => (show Boxed W (w.heap.size + 1 + 1 + 1) 4 (.bool false) from New.stays q b12))
  have N0 := Lib.hid n0
  clear o0 o1 o2 o3 o4 b11 b12
  go_wp2_with fail
  refine (KG.out _ n0).mono ?_
  rintro e w1 ⟨b1, rfl, hb1, n1⟩
  clear g0 g1 g2 g3 g4 n0
  cases b1
  rotate_left
  · clear hb1
    go_wp2_with fail
    refine (KW.out _).mono ?_
    rintro e w2 ⟨rfl, n2⟩
    have q12 := H12.out _ (n1.trans n2)
    have c12 := q12.cell
    have f12 := q12.frozen
    have nn := N0.out.trans (n1.trans n2)
    go_wp2_with fail
    exact ⟨_, tells_res rfl q12, rfl, New.setB (by simp; omega) nn _⟩
  have hsg := hb1 rfl
  clear hb1
  obtain ⟨o0, o1, o2, o3, o4⟩ := HO.out _ n1
  go_wp2_with fail
  refine (KO.out _ (N0.out.trans n1)).mono ?_
  rintro e w2 ⟨b2, rfl, hb2, n2⟩
  have n3 := n1.trans n2
  clear o0 o1 o2 o3 o4 n1 n2
  cases b2
  rotate_left
  · clear hb2
    go_wp2_with fail
    refine (KW.out _).mono ?_
    rintro e w2 ⟨rfl, n2⟩
    have q12 := H12.out _ (n3.trans n2)
    have c12 := q12.cell
    have f12 := q12.frozen
    have nn := N0.out.trans (n3.trans n2)
    go_wp2_with fail
    exact ⟨_, tells_res rfl q12, rfl, New.setB (by simp; omega) nn _⟩
  have hso := hb2 rfl
  clear hb2
  have HSM := Lib.hid (And.intro hsg hso)
  clear hsg hso
  go_upto_region 3 with fail
  go_cut [42] from 29 to 42 (fun s42 Z => (∃ b : Bool, s42 = .bool b) ∧ Z = w2)
  case first =>
    go_wp2_with fail
    all_goals
      go_meet
      exact ⟨⟨_, rfl⟩, rfl⟩
  case rest =>
    obtain ⟨⟨b, rfl⟩, hZ⟩ := hcut
    obtain rfl : w2 = _ := hZ.symm
    cases b
    rotate_left
    · go_wp2_with fail
      refine (KW.out _).mono ?_
      rintro e w3 ⟨rfl, n2⟩
      have q12 := H12.out _ (n3.trans n2)
      have c12 := q12.cell
      have f12 := q12.frozen
      have nn := N0.out.trans (n3.trans n2)
      go_wp2_with fail
      exact ⟨_, tells_res rfl q12, rfl, New.setB (by simp; omega) nn _⟩
    obtain ⟨g0, g1, g2, g3, g4⟩ := HG.out _ n3
    go_wp2_with fail
    refine (KF.out _ (N0.out.trans n3)).mono ?_
    rintro e w3 ⟨rfl, n4⟩
    have n5 := n3.trans n4
    clear g0 g1 g2 g3 g4 n3 n4
    obtain ⟨g0, g1, g2, g3, g4⟩ := HG.out _ n5
    go_wp2_with fail
    refine (QF.out _ (N0.out.trans n5)).mono ?_
    rintro e w4 ⟨rfl, n6⟩
    have n7 := n5.trans n6
    clear g0 g1 g2 g3 g4 n5 n6
    have N7 := Lib.hid n7
    clear n7
    go_wp2_with fail
    have RF : Hid (∀ u v W, Sl Fl.enc 3 W u T → Sl Fl.enc 3 W v T → Calls Try.prog 11 #[u, v] W fun e w' => e = .returned (.bool true) ∧ New W w') := Lib.hid (fun u v W p q => by
      have h8 := HT8.out
      have := rg_floors_sl (l := T) (m := T) (by omega) (by omega) W p q
      rwa [(Fl.allEq_iff T T).2 rfl] at this)
    refine wp_region_gloose2 41 (fun i w' v => match i with
      | 0 => v = .agg #[.int .i64 gx, .int .i64 gz, .int .i64 gw, .int .i64 gd, .slice ga n gc]
      | 1 => v = .int .i64 ge
      | 2 => v = .agg #[.int .i64 gx, .int .i64 gz, .int .i64 gw, .int .i64 gd, .slice ga n gc]
      | 3 => v = .int .i64 ge
      | 4 => v = .bool false
      | 5 => v = .bool false
      | 6 => v = .agg #[.int .i64 gx, .int .i64 gz, .int .i64 gw, .int .i64 gd, .slice ga n gc]
      | 7 => v = .int .i64 x
      | 8 => v = .int .i64 z
      | 9 => ∃ a c, v = .slice a T.length c ∧ Sl Fl.enc 3 w' (.slice a T.length c) T
      | 10 => v = .agg #[.int .i64 gx, .int .i64 gz, .int .i64 gw, .int .i64 gd, .slice ga n gc]
      | 11 => v = .int .i64 x
      | 12 => v = .int .i64 z
      | 13 => ∃ a c, v = .slice a T.length c ∧ Sl Fl.enc 3 w' (.slice a T.length c) T
      | 14 => v = .bool true
      | 15 => v = .bool false
      | 16 => v = .bool false
      | 17 => v = .bool false
      | 18 => v = .int .i64 fI
      | 19 => v = .int .i64 fI
      | 20 => v = .bool false
      | 21 => v = .bool false
      | 22 => v = .bool false
      | 23 => v = .bool fB
      | 24 => v = .bool fB
      | 25 => v = .bool false
      | 26 => v = .bool false
      | 27 => v = .bool false
      | 28 => v = .agg #[.int .i64 gx, .int .i64 gz, .int .i64 gw, .int .i64 gd, .slice ga n gc]
      | 29 => v = .agg #[.int .i64 ox, .int .i64 oz, .int .i64 ow, .int .i64 od, .slice oa m oc]
      | 30 => v = .bool sm
      | 31 => v = .agg #[.int .i64 gx, .int .i64 gz, .int .i64 gw, .int .i64 gd, .slice ga n gc]
      | 32 => v = .agg #[.int .i64 ox, .int .i64 oz, .int .i64 ow, .int .i64 od, .slice oa m oc]
      | 33 => v = .bool sm
      | 34 => v = .bool false
      | 35 => v = .bool false
      | 36 => v = .bool false
      | 37 => v = .agg #[.int .i64 gx, .int .i64 gz, .int .i64 gw, .int .i64 gd, .slice ga n gc]
      | 38 => v = .agg #[.int .i64 gx, .int .i64 gz, .int .i64 gw, .int .i64 gd, .slice ga n gc]
      | 39 => v = .bool true
      | 40 => v = .bool false
      | _ => True) (by kernel_rfl) (by kernel_rfl) ?_ ?_ ?_ ?_
    · intro i w1 w2 v h n
      match i, h with
      | 0, h => exact h
      | 1, h => exact h
      | 2, h => exact h
      | 3, h => exact h
      | 4, h => exact h
      | 5, h => exact h
      | 6, h => exact h
      | 7, h => exact h
      | 8, h => exact h
      | 9, ⟨a, c, e, s⟩ => exact ⟨a, c, e, s.keep n⟩
      | 10, h => exact h
      | 11, h => exact h
      | 12, h => exact h
      | 13, ⟨a, c, e, s⟩ => exact ⟨a, c, e, s.keep n⟩
      | 14, h => exact h
      | 15, h => exact h
      | 16, h => exact h
      | 17, h => exact h
      | 18, h => exact h
      | 19, h => exact h
      | 20, h => exact h
      | 21, h => exact h
      | 22, h => exact h
      | 23, h => exact h
      | 24, h => exact h
      | 25, h => exact h
      | 26, h => exact h
      | 27, h => exact h
      | 28, h => exact h
      | 29, h => exact h
      | 30, h => exact h
      | 31, h => exact h
      | 32, h => exact h
      | 33, h => exact h
      | 34, h => exact h
      | 35, h => exact h
      | 36, h => exact h
      | 37, h => exact h
      | 38, h => exact h
      | 39, h => exact h
      | 40, h => exact h
      | i + 41, _ => trivial
    · intro i o hi ho a' w' nn hd
      rcases (show i = 0 ∨ i = 1 ∨ i = 2 ∨ i = 3 ∨ i = 4 ∨ i = 5 ∨ i = 6 ∨ i = 7 ∨ i = 8 ∨ i = 9 ∨ i = 10 ∨ i = 11 ∨ i = 12 ∨ i = 13 ∨ i = 14 ∨ i = 15 ∨ i = 16 ∨ i = 17 ∨ i = 18 ∨ i = 19 ∨ i = 20 ∨ i = 21 ∨ i = 22 ∨ i = 23 ∨ i = 24 ∨ i = 25 ∨ i = 26 ∨ i = 27 ∨ i = 28 ∨ i = 29 ∨ i = 30 ∨ i = 31 ∨ i = 32 ∨ i = 33 ∨ i = 34 ∨ i = 35 ∨ i = 36 ∨ i = 37 ∨ i = 38 ∨ i = 39 ∨ i = 40 by omega) with rfl | rfl | rfl | rfl | rfl | rfl | rfl | rfl | rfl | rfl | rfl | rfl | rfl | rfl | rfl | rfl | rfl | rfl | rfl | rfl | rfl | rfl | rfl | rfl | rfl | rfl | rfl | rfl | rfl | rfl | rfl | rfl | rfl | rfl | rfl | rfl | rfl | rfl | rfl | rfl | rfl <;> obtain rfl := Option.some.inj ho
      · exact wanted_none rfl
      · exact wanted_none rfl
      · exact wanted_none rfl
      · exact wanted_none rfl
      · exact wanted_none rfl
      · exact wanted_none rfl
      · exact wanted_met rfl (by kernel_rfl) ((eval_get a' 65).symm.trans (hd 5 65 (by omega) (by kernel_rfl) (by kernel_rfl)))
      · exact wanted_met rfl (by kernel_rfl) ((eval_get a' 65).symm.trans (hd 5 65 (by omega) (by kernel_rfl) (by kernel_rfl)))
      · exact wanted_met rfl (by kernel_rfl) ((eval_get a' 65).symm.trans (hd 5 65 (by omega) (by kernel_rfl) (by kernel_rfl)))
      · exact wanted_met rfl (by kernel_rfl) ((eval_get a' 65).symm.trans (hd 5 65 (by omega) (by kernel_rfl) (by kernel_rfl)))
      · exact wanted_met rfl (by kernel_rfl) ((eval_get a' 65).symm.trans (hd 5 65 (by omega) (by kernel_rfl) (by kernel_rfl)))
      · exact wanted_met rfl (by kernel_rfl) ((eval_get a' 65).symm.trans (hd 5 65 (by omega) (by kernel_rfl) (by kernel_rfl)))
      · exact wanted_met rfl (by kernel_rfl) ((eval_get a' 65).symm.trans (hd 5 65 (by omega) (by kernel_rfl) (by kernel_rfl)))
      · exact wanted_met rfl (by kernel_rfl) ((eval_get a' 65).symm.trans (hd 5 65 (by omega) (by kernel_rfl) (by kernel_rfl)))
      · exact wanted_met rfl (by kernel_rfl) ((eval_get a' 65).symm.trans (hd 5 65 (by omega) (by kernel_rfl) (by kernel_rfl)))
      · exact wanted_met rfl (by kernel_rfl) ((eval_get a' 65).symm.trans (hd 5 65 (by omega) (by kernel_rfl) (by kernel_rfl)))
      · exact wanted_none rfl
      · exact wanted_none rfl
      · exact wanted_met rfl (by kernel_rfl) ((eval_get a' 77).symm.trans (hd 17 77 (by omega) (by kernel_rfl) (by kernel_rfl)))
      · exact wanted_met rfl (by kernel_rfl) ((eval_get a' 77).symm.trans (hd 17 77 (by omega) (by kernel_rfl) (by kernel_rfl)))
      · exact wanted_met rfl (by kernel_rfl) ((eval_get a' 77).symm.trans (hd 17 77 (by omega) (by kernel_rfl) (by kernel_rfl)))
      · exact wanted_none rfl
      · exact wanted_none rfl
      · exact wanted_met rfl (by kernel_rfl) ((eval_get a' 82).symm.trans (hd 22 82 (by omega) (by kernel_rfl) (by kernel_rfl)))
      · exact wanted_met rfl (by kernel_rfl) ((eval_get a' 82).symm.trans (hd 22 82 (by omega) (by kernel_rfl) (by kernel_rfl)))
      · exact wanted_met rfl (by kernel_rfl) ((eval_get a' 82).symm.trans (hd 22 82 (by omega) (by kernel_rfl) (by kernel_rfl)))
      · exact wanted_none rfl
      · exact wanted_none rfl
      · exact wanted_met rfl (by kernel_rfl) ((eval_get a' 87).symm.trans (hd 27 87 (by omega) (by kernel_rfl) (by kernel_rfl)))
      · exact wanted_met rfl (by kernel_rfl) ((eval_get a' 87).symm.trans (hd 27 87 (by omega) (by kernel_rfl) (by kernel_rfl)))
      · exact wanted_met rfl (by kernel_rfl) ((eval_get a' 87).symm.trans (hd 27 87 (by omega) (by kernel_rfl) (by kernel_rfl)))
      · exact wanted_met rfl (by kernel_rfl) ((eval_get a' 87).symm.trans (hd 27 87 (by omega) (by kernel_rfl) (by kernel_rfl)))
      · exact wanted_met rfl (by kernel_rfl) ((eval_get a' 87).symm.trans (hd 27 87 (by omega) (by kernel_rfl) (by kernel_rfl)))
      · exact wanted_met rfl (by kernel_rfl) ((eval_get a' 87).symm.trans (hd 27 87 (by omega) (by kernel_rfl) (by kernel_rfl)))
      · exact wanted_met rfl (by kernel_rfl) ((eval_get a' 87).symm.trans (hd 27 87 (by omega) (by kernel_rfl) (by kernel_rfl)))
      · exact wanted_none rfl
      · exact wanted_none rfl
      · exact wanted_met rfl (by kernel_rfl) ((eval_get a' 96).symm.trans (hd 36 96 (by omega) (by kernel_rfl) (by kernel_rfl)))
      · exact wanted_met rfl (by kernel_rfl) ((eval_get a' 96).symm.trans (hd 36 96 (by omega) (by kernel_rfl) (by kernel_rfl)))
      · exact wanted_met rfl (by kernel_rfl) ((eval_get a' 96).symm.trans (hd 36 96 (by omega) (by kernel_rfl) (by kernel_rfl)))
      · exact wanted_met rfl (by kernel_rfl) ((eval_get a' 96).symm.trans (hd 36 96 (by omega) (by kernel_rfl) (by kernel_rfl)))
    · intro i o hi ho a' w' nn hr hd
      rcases (show i = 0 ∨ i = 1 ∨ i = 2 ∨ i = 3 ∨ i = 4 ∨ i = 5 ∨ i = 6 ∨ i = 7 ∨ i = 8 ∨ i = 9 ∨ i = 10 ∨ i = 11 ∨ i = 12 ∨ i = 13 ∨ i = 14 ∨ i = 15 ∨ i = 16 ∨ i = 17 ∨ i = 18 ∨ i = 19 ∨ i = 20 ∨ i = 21 ∨ i = 22 ∨ i = 23 ∨ i = 24 ∨ i = 25 ∨ i = 26 ∨ i = 27 ∨ i = 28 ∨ i = 29 ∨ i = 30 ∨ i = 31 ∨ i = 32 ∨ i = 33 ∨ i = 34 ∨ i = 35 ∨ i = 36 ∨ i = 37 ∨ i = 38 ∨ i = 39 ∨ i = 40 by omega) with rfl | rfl | rfl | rfl | rfl | rfl | rfl | rfl | rfl | rfl | rfl | rfl | rfl | rfl | rfl | rfl | rfl | rfl | rfl | rfl | rfl | rfl | rfl | rfl | rfl | rfl | rfl | rfl | rfl | rfl | rfl | rfl | rfl | rfl | rfl | rfl | rfl | rfl | rfl | rfl | rfl <;> obtain rfl := Option.some.inj ho
      · have r6 : (a'.tmps[6]?).getD undef = .pointer (some ⟨w.heap.size, 0, none⟩) := (eval_get a' 6).symm.trans (hr 6 (by kernel_rfl))
        obtain ⟨g0, g1, g2, g3, g4⟩ := HG.out _ (N7.out.trans nn)
        exact yields_value (.agg #[.int .i64 gx, .int .i64 gz, .int .i64 gw, .int .i64 gd, .slice ga n gc]) (by go_simp) ⟨New.refl _, rfl⟩
      · have r60 : (a'.tmps[60]?).getD undef = .agg #[.int .i64 gx, .int .i64 gz, .int .i64 gw, .int .i64 gd, .slice ga n gc] := (eval_get a' 60).symm.trans (hd 0 60 (by omega) (by kernel_rfl) (by kernel_rfl))
        exact yields_enter 9 #[.agg #[.int .i64 gx, .int .i64 gz, .int .i64 gw, .int .i64 gd, .slice ga n gc]] (by go_simp) ((KC.out w' (N0.out.trans (N7.out.trans nn))).mono fun e w'' ⟨he, hn⟩ => ⟨_, he, hn, rfl⟩)
      · have r6 : (a'.tmps[6]?).getD undef = .pointer (some ⟨w.heap.size, 0, none⟩) := (eval_get a' 6).symm.trans (hr 6 (by kernel_rfl))
        obtain ⟨g0, g1, g2, g3, g4⟩ := HG.out _ (N7.out.trans nn)
        exact yields_value (.agg #[.int .i64 gx, .int .i64 gz, .int .i64 gw, .int .i64 gd, .slice ga n gc]) (by go_simp) ⟨New.refl _, rfl⟩
      · have r62 : (a'.tmps[62]?).getD undef = .agg #[.int .i64 gx, .int .i64 gz, .int .i64 gw, .int .i64 gd, .slice ga n gc] := (eval_get a' 62).symm.trans (hd 2 62 (by omega) (by kernel_rfl) (by kernel_rfl))
        exact yields_enter 10 #[.agg #[.int .i64 gx, .int .i64 gz, .int .i64 gw, .int .i64 gd, .slice ga n gc]] (by go_simp) ((QC.out w' (N0.out.trans (N7.out.trans nn))).mono fun e w'' ⟨he, hn⟩ => ⟨_, he, hn, rfl⟩)
      · have r61 : (a'.tmps[61]?).getD undef = .int .i64 ge := (eval_get a' 61).symm.trans (hd 1 61 (by omega) (by kernel_rfl) (by kernel_rfl))
        have r63 : (a'.tmps[63]?).getD undef = .int .i64 ge := (eval_get a' 63).symm.trans (hd 3 63 (by omega) (by kernel_rfl) (by kernel_rfl))
        exact yields_value (.bool false) (by go_simp) ⟨New.refl _, rfl⟩
      · have r64 : (a'.tmps[64]?).getD undef = .bool false := (eval_get a' 64).symm.trans (hd 4 64 (by omega) (by kernel_rfl) (by kernel_rfl))
        exact yields_value (.bool false) (by go_simp) ⟨New.refl _, rfl⟩
      · have r6 : (a'.tmps[6]?).getD undef = .pointer (some ⟨w.heap.size, 0, none⟩) := (eval_get a' 6).symm.trans (hr 6 (by kernel_rfl))
        obtain ⟨g0, g1, g2, g3, g4⟩ := HG.out _ (N7.out.trans nn)
        exact yields_value (.agg #[.int .i64 gx, .int .i64 gz, .int .i64 gw, .int .i64 gd, .slice ga n gc]) (by go_simp) ⟨New.refl _, rfl⟩
      · have r2 : (a'.tmps[2]?).getD undef = .int .i64 x := (eval_get a' 2).symm.trans (hr 2 (by kernel_rfl))
        exact yields_value (.int .i64 x) (by go_simp) ⟨New.refl _, rfl⟩
      · have r3 : (a'.tmps[3]?).getD undef = .int .i64 z := (eval_get a' 3).symm.trans (hr 3 (by kernel_rfl))
        exact yields_value (.int .i64 z) (by go_simp) ⟨New.refl _, rfl⟩
      · have r66 : (a'.tmps[66]?).getD undef = .agg #[.int .i64 gx, .int .i64 gz, .int .i64 gw, .int .i64 gd, .slice ga n gc] := (eval_get a' 66).symm.trans (hd 6 66 (by omega) (by kernel_rfl) (by kernel_rfl))
        have r67 : (a'.tmps[67]?).getD undef = .int .i64 x := (eval_get a' 67).symm.trans (hd 7 67 (by omega) (by kernel_rfl) (by kernel_rfl))
        have r68 : (a'.tmps[68]?).getD undef = .int .i64 z := (eval_get a' 68).symm.trans (hd 8 68 (by omega) (by kernel_rfl) (by kernel_rfl))
        refine yields_enter 12 #[.agg #[.int .i64 gx, .int .i64 gz, .int .i64 gw, .int .i64 gd, .slice ga n gc], .int .i64 x, .int .i64 z] (by go_simp) ((KA.out w' (N0.out.trans (N7.out.trans nn))).mono ?_)
        rintro e w'' ⟨v, rfl, hs, nq⟩
        have hs' := hs
        obtain ⟨a, ac, rfl, -⟩ := hs
        exact ⟨_, rfl, nq, a, ac, rfl, hs'⟩
      · have r6 : (a'.tmps[6]?).getD undef = .pointer (some ⟨w.heap.size, 0, none⟩) := (eval_get a' 6).symm.trans (hr 6 (by kernel_rfl))
        obtain ⟨g0, g1, g2, g3, g4⟩ := HG.out _ (N7.out.trans nn)
        exact yields_value (.agg #[.int .i64 gx, .int .i64 gz, .int .i64 gw, .int .i64 gd, .slice ga n gc]) (by go_simp) ⟨New.refl _, rfl⟩
      · have r2 : (a'.tmps[2]?).getD undef = .int .i64 x := (eval_get a' 2).symm.trans (hr 2 (by kernel_rfl))
        exact yields_value (.int .i64 x) (by go_simp) ⟨New.refl _, rfl⟩
      · have r3 : (a'.tmps[3]?).getD undef = .int .i64 z := (eval_get a' 3).symm.trans (hr 3 (by kernel_rfl))
        exact yields_value (.int .i64 z) (by go_simp) ⟨New.refl _, rfl⟩
      · have r70 : (a'.tmps[70]?).getD undef = .agg #[.int .i64 gx, .int .i64 gz, .int .i64 gw, .int .i64 gd, .slice ga n gc] := (eval_get a' 70).symm.trans (hd 10 70 (by omega) (by kernel_rfl) (by kernel_rfl))
        have r71 : (a'.tmps[71]?).getD undef = .int .i64 x := (eval_get a' 71).symm.trans (hd 11 71 (by omega) (by kernel_rfl) (by kernel_rfl))
        have r72 : (a'.tmps[72]?).getD undef = .int .i64 z := (eval_get a' 72).symm.trans (hd 12 72 (by omega) (by kernel_rfl) (by kernel_rfl))
        refine yields_enter 13 #[.agg #[.int .i64 gx, .int .i64 gz, .int .i64 gw, .int .i64 gd, .slice ga n gc], .int .i64 x, .int .i64 z] (by go_simp) ((QA.out w' (N0.out.trans (N7.out.trans nn))).mono ?_)
        rintro e w'' ⟨v, rfl, hs, nq⟩
        have hs' := hs
        obtain ⟨a, ac, rfl, -⟩ := hs
        exact ⟨_, rfl, nq, a, ac, rfl, hs'⟩
      · obtain ⟨p, pc, e69, h69⟩ := hd 9 69 (by omega) (by kernel_rfl) (by kernel_rfl)
        have r69 : (a'.tmps[69]?).getD undef = _ := (eval_get a' 69).symm.trans e69
        obtain ⟨q, qc, e73, h73⟩ := hd 13 73 (by omega) (by kernel_rfl) (by kernel_rfl)
        have r73 : (a'.tmps[73]?).getD undef = _ := (eval_get a' 73).symm.trans e73
        exact yields_enter 11 #[.slice p T.length pc, .slice q T.length qc] (by go_simp) ((RF.out _ _ w' h69 h73).mono fun e w'' ⟨he, hn⟩ => ⟨_, he, hn, rfl⟩)
      · have r74 : (a'.tmps[74]?).getD undef = .bool true := (eval_get a' 74).symm.trans (hd 14 74 (by omega) (by kernel_rfl) (by kernel_rfl))
        exact yields_value (.bool false) (by go_simp) ⟨New.refl _, rfl⟩
      · have r65 : (a'.tmps[65]?).getD undef = .bool false := (eval_get a' 65).symm.trans (hd 5 65 (by omega) (by kernel_rfl) (by kernel_rfl))
        have r75 : (a'.tmps[75]?).getD undef = .bool false := (eval_get a' 75).symm.trans (hd 15 75 (by omega) (by kernel_rfl) (by kernel_rfl))
        exact yields_value (.bool false) (by go_simp) ⟨New.refl _, rfl⟩
      · have r76 : (a'.tmps[76]?).getD undef = .bool false := (eval_get a' 76).symm.trans (hd 16 76 (by omega) (by kernel_rfl) (by kernel_rfl))
        exact yields_value (.bool false) (by go_simp) ⟨New.refl _, rfl⟩
      · have r13 : (a'.tmps[13]?).getD undef = .int .i64 fI := (eval_get a' 13).symm.trans (hr 13 (by kernel_rfl))
        exact yields_value (.int .i64 fI) (by go_simp) ⟨New.refl _, rfl⟩
      · have r15 : (a'.tmps[15]?).getD undef = .int .i64 fI := (eval_get a' 15).symm.trans (hr 15 (by kernel_rfl))
        exact yields_value (.int .i64 fI) (by go_simp) ⟨New.refl _, rfl⟩
      · have r78 : (a'.tmps[78]?).getD undef = .int .i64 fI := (eval_get a' 78).symm.trans (hd 18 78 (by omega) (by kernel_rfl) (by kernel_rfl))
        have r79 : (a'.tmps[79]?).getD undef = .int .i64 fI := (eval_get a' 79).symm.trans (hd 19 79 (by omega) (by kernel_rfl) (by kernel_rfl))
        exact yields_value (.bool false) (by go_simp) ⟨New.refl _, rfl⟩
      · have r77 : (a'.tmps[77]?).getD undef = .bool false := (eval_get a' 77).symm.trans (hd 17 77 (by omega) (by kernel_rfl) (by kernel_rfl))
        have r80 : (a'.tmps[80]?).getD undef = .bool false := (eval_get a' 80).symm.trans (hd 20 80 (by omega) (by kernel_rfl) (by kernel_rfl))
        exact yields_value (.bool false) (by go_simp) ⟨New.refl _, rfl⟩
      · have r81 : (a'.tmps[81]?).getD undef = .bool false := (eval_get a' 81).symm.trans (hd 21 81 (by omega) (by kernel_rfl) (by kernel_rfl))
        exact yields_value (.bool false) (by go_simp) ⟨New.refl _, rfl⟩
      · have r14 : (a'.tmps[14]?).getD undef = .bool fB := (eval_get a' 14).symm.trans (hr 14 (by kernel_rfl))
        exact yields_value (.bool fB) (by go_simp) ⟨New.refl _, rfl⟩
      · have r16 : (a'.tmps[16]?).getD undef = .bool fB := (eval_get a' 16).symm.trans (hr 16 (by kernel_rfl))
        exact yields_value (.bool fB) (by go_simp) ⟨New.refl _, rfl⟩
      · have r83 : (a'.tmps[83]?).getD undef = .bool fB := (eval_get a' 83).symm.trans (hd 23 83 (by omega) (by kernel_rfl) (by kernel_rfl))
        have r84 : (a'.tmps[84]?).getD undef = .bool fB := (eval_get a' 84).symm.trans (hd 24 84 (by omega) (by kernel_rfl) (by kernel_rfl))
        exact yields_value (.bool false) (by go_simp) ⟨New.refl _, rfl⟩
      · have r82 : (a'.tmps[82]?).getD undef = .bool false := (eval_get a' 82).symm.trans (hd 22 82 (by omega) (by kernel_rfl) (by kernel_rfl))
        have r85 : (a'.tmps[85]?).getD undef = .bool false := (eval_get a' 85).symm.trans (hd 25 85 (by omega) (by kernel_rfl) (by kernel_rfl))
        exact yields_value (.bool false) (by go_simp) ⟨New.refl _, rfl⟩
      · have r86 : (a'.tmps[86]?).getD undef = .bool false := (eval_get a' 86).symm.trans (hd 26 86 (by omega) (by kernel_rfl) (by kernel_rfl))
        exact yields_value (.bool false) (by go_simp) ⟨New.refl _, rfl⟩
      · have r6 : (a'.tmps[6]?).getD undef = .pointer (some ⟨w.heap.size, 0, none⟩) := (eval_get a' 6).symm.trans (hr 6 (by kernel_rfl))
        obtain ⟨g0, g1, g2, g3, g4⟩ := HG.out _ (N7.out.trans nn)
        exact yields_value (.agg #[.int .i64 gx, .int .i64 gz, .int .i64 gw, .int .i64 gd, .slice ga n gc]) (by go_simp) ⟨New.refl _, rfl⟩
      · have r7 : (a'.tmps[7]?).getD undef = .pointer (some ⟨w.heap.size + 1, 0, none⟩) := (eval_get a' 7).symm.trans (hr 7 (by kernel_rfl))
        obtain ⟨o0, o1, o2, o3, o4⟩ := HO.out _ (N7.out.trans nn)
        exact yields_value (.agg #[.int .i64 ox, .int .i64 oz, .int .i64 ow, .int .i64 od, .slice oa m oc]) (by go_simp) ⟨New.refl _, rfl⟩
      · have r88 : (a'.tmps[88]?).getD undef = .agg #[.int .i64 gx, .int .i64 gz, .int .i64 gw, .int .i64 gd, .slice ga n gc] := (eval_get a' 88).symm.trans (hd 28 88 (by omega) (by kernel_rfl) (by kernel_rfl))
        have r89 : (a'.tmps[89]?).getD undef = .agg #[.int .i64 ox, .int .i64 oz, .int .i64 ow, .int .i64 od, .slice oa m oc] := (eval_get a' 89).symm.trans (hd 29 89 (by omega) (by kernel_rfl) (by kernel_rfl))
        exact yields_enter 14 #[.agg #[.int .i64 gx, .int .i64 gz, .int .i64 gw, .int .i64 gd, .slice ga n gc], .agg #[.int .i64 ox, .int .i64 oz, .int .i64 ow, .int .i64 od, .slice oa m oc]] (by go_simp) ((KS.out HSM.out.1 HSM.out.2 w' (N0.out.trans (N7.out.trans nn))).mono fun e w'' ⟨he, hn⟩ => ⟨_, he, hn, rfl⟩)
      · have r6 : (a'.tmps[6]?).getD undef = .pointer (some ⟨w.heap.size, 0, none⟩) := (eval_get a' 6).symm.trans (hr 6 (by kernel_rfl))
        obtain ⟨g0, g1, g2, g3, g4⟩ := HG.out _ (N7.out.trans nn)
        exact yields_value (.agg #[.int .i64 gx, .int .i64 gz, .int .i64 gw, .int .i64 gd, .slice ga n gc]) (by go_simp) ⟨New.refl _, rfl⟩
      · have r7 : (a'.tmps[7]?).getD undef = .pointer (some ⟨w.heap.size + 1, 0, none⟩) := (eval_get a' 7).symm.trans (hr 7 (by kernel_rfl))
        obtain ⟨o0, o1, o2, o3, o4⟩ := HO.out _ (N7.out.trans nn)
        exact yields_value (.agg #[.int .i64 ox, .int .i64 oz, .int .i64 ow, .int .i64 od, .slice oa m oc]) (by go_simp) ⟨New.refl _, rfl⟩
      · have r91 : (a'.tmps[91]?).getD undef = .agg #[.int .i64 gx, .int .i64 gz, .int .i64 gw, .int .i64 gd, .slice ga n gc] := (eval_get a' 91).symm.trans (hd 31 91 (by omega) (by kernel_rfl) (by kernel_rfl))
        have r92 : (a'.tmps[92]?).getD undef = .agg #[.int .i64 ox, .int .i64 oz, .int .i64 ow, .int .i64 od, .slice oa m oc] := (eval_get a' 92).symm.trans (hd 32 92 (by omega) (by kernel_rfl) (by kernel_rfl))
        exact yields_enter 15 #[.agg #[.int .i64 gx, .int .i64 gz, .int .i64 gw, .int .i64 gd, .slice ga n gc], .agg #[.int .i64 ox, .int .i64 oz, .int .i64 ow, .int .i64 od, .slice oa m oc]] (by go_simp) ((QS.out HSM.out.1 HSM.out.2 w' (N0.out.trans (N7.out.trans nn))).mono fun e w'' ⟨he, hn⟩ => ⟨_, he, hn, rfl⟩)
      · have r90 : (a'.tmps[90]?).getD undef = .bool sm := (eval_get a' 90).symm.trans (hd 30 90 (by omega) (by kernel_rfl) (by kernel_rfl))
        have r93 : (a'.tmps[93]?).getD undef = .bool sm := (eval_get a' 93).symm.trans (hd 33 93 (by omega) (by kernel_rfl) (by kernel_rfl))
        exact yields_value (.bool false) (by go_simp) ⟨New.refl _, rfl⟩
      · have r87 : (a'.tmps[87]?).getD undef = .bool false := (eval_get a' 87).symm.trans (hd 27 87 (by omega) (by kernel_rfl) (by kernel_rfl))
        have r94 : (a'.tmps[94]?).getD undef = .bool false := (eval_get a' 94).symm.trans (hd 34 94 (by omega) (by kernel_rfl) (by kernel_rfl))
        exact yields_value (.bool false) (by go_simp) ⟨New.refl _, rfl⟩
      · have r95 : (a'.tmps[95]?).getD undef = .bool false := (eval_get a' 95).symm.trans (hd 35 95 (by omega) (by kernel_rfl) (by kernel_rfl))
        exact yields_value (.bool false) (by go_simp) ⟨New.refl _, rfl⟩
      · have r6 : (a'.tmps[6]?).getD undef = .pointer (some ⟨w.heap.size, 0, none⟩) := (eval_get a' 6).symm.trans (hr 6 (by kernel_rfl))
        obtain ⟨g0, g1, g2, g3, g4⟩ := HG.out _ (N7.out.trans nn)
        exact yields_value (.agg #[.int .i64 gx, .int .i64 gz, .int .i64 gw, .int .i64 gd, .slice ga n gc]) (by go_simp) ⟨New.refl _, rfl⟩
      · have r6 : (a'.tmps[6]?).getD undef = .pointer (some ⟨w.heap.size, 0, none⟩) := (eval_get a' 6).symm.trans (hr 6 (by kernel_rfl))
        obtain ⟨g0, g1, g2, g3, g4⟩ := HG.out _ (N7.out.trans nn)
        exact yields_value (.agg #[.int .i64 gx, .int .i64 gz, .int .i64 gw, .int .i64 gd, .slice ga n gc]) (by go_simp) ⟨New.refl _, rfl⟩
      · have r97 : (a'.tmps[97]?).getD undef = .agg #[.int .i64 gx, .int .i64 gz, .int .i64 gw, .int .i64 gd, .slice ga n gc] := (eval_get a' 97).symm.trans (hd 37 97 (by omega) (by kernel_rfl) (by kernel_rfl))
        have r98 : (a'.tmps[98]?).getD undef = .agg #[.int .i64 gx, .int .i64 gz, .int .i64 gw, .int .i64 gd, .slice ga n gc] := (eval_get a' 98).symm.trans (hd 38 98 (by omega) (by kernel_rfl) (by kernel_rfl))
        exact yields_enter 14 #[.agg #[.int .i64 gx, .int .i64 gz, .int .i64 gw, .int .i64 gd, .slice ga n gc], .agg #[.int .i64 gx, .int .i64 gz, .int .i64 gw, .int .i64 gd, .slice ga n gc]] (by go_simp) ((KSS.out HSM.out.1 w' (N0.out.trans (N7.out.trans nn))).mono fun e w'' ⟨he, hn⟩ => ⟨_, he, hn, rfl⟩)
      · have r99 : (a'.tmps[99]?).getD undef = .bool true := (eval_get a' 99).symm.trans (hd 39 99 (by omega) (by kernel_rfl) (by kernel_rfl))
        exact yields_value (.bool false) (by go_simp) ⟨New.refl _, rfl⟩
    · intro vs w5 nn hv
      have e36 := hv 36 (by omega)
      have e40 := hv 40 (by omega)
      simp only [] at e36 e40
      clear hv
      simp only [List.take_succ_cons, List.take_zero, List.drop_succ_cons, List.drop_zero, putL, Act.put, List.setIfInBounds_toArray, List.set_cons_zero, List.set_cons_succ, Nat.reduceAdd, Nat.zero_add]
      rw [e36, e40]
      clear e36 e40
      have n8 := N7.out.trans nn
      clear nn
      obtain ⟨g0, g1, g2, g3, g4⟩ := HG.out _ n8
      go_wp2_with fail
      refine (QL.out _ (N0.out.trans n8)).mono ?_
      rintro e w6 ⟨v6, rfl, hw6, n9⟩
      obtain ⟨wa, wc, rfl, -, -, -, hwr⟩ := hw6
      have HWR := Lib.hid hwr
      have n10 := n8.trans n9
      clear g0 g1 g2 g3 g4 n8 n9 hwr
      obtain ⟨k, hk⟩ : ∃ q, q = L.length := ⟨_, rfl⟩
      rw [← hk] at hLB ⊢
      have HK := Lib.hid hk
      clear hk
      go_upto_region 10 with fail
      refine Code.at (fun w7 hW => ?_)
      have n11 : New w6 w7 := by subst hW; (repeat (first | (with_reducible exact New.refl _) | (with_reducible assumption) | ((with_reducible refine New.setB ?_ ?_ _); focus (first | omega | (simp; omega) | (simp; done))) | (with_reducible refine New.alloc ?_ _) | (with_reducible refine New.drew ?_) | (with_reducible refine New.drewN ?_ _) | (with_reducible refine New.hat ?_ _) | ((with_reducible apply New.snart); (with_reducible assumption))))
      have b17 : Boxed w7 w6.heap.size 35 (.slice wa k wc) := by subst hW; exact World.alloc_heap_new w6 _
      clear hW
      have n12 := n10.trans n11
      obtain ⟨g0, g1, g2, g3, g4⟩ := HG.out _ n12
      go_wp2_with fail
      refine (KL.out _ (N0.out.trans n12)).mono ?_
      rintro e w8 ⟨n13, B, at0, cap, rfl, hSt, -⟩
      have n14 := n12.trans n13
      replace b17 := New.stays n13 b17
      have HWR8 := Lib.hid (HWR.out.keep (n11.trans n13))
      have kn := fun W => og_eql_nil W 27 #[.pointer (some ⟨B, 0, none⟩)]
      clear g0 g1 g2 g3 g4 n10 n11 n12 n13 KG KO KF QF KC QC KA QA KS QS KSS KL QL
      generalize w6.heap.size = P at *
      go_upto_region 14 with fail
      refine Code.at (fun V1 hW => ?_)
      have n2 : New w8 V1 := by subst hW; (repeat (first | (with_reducible exact New.refl _) | (with_reducible assumption) | ((with_reducible refine New.setB ?_ ?_ _); focus (first | omega | (simp; omega) | (simp; done))) | (with_reducible refine New.alloc ?_ _) | (with_reducible refine New.drew ?_) | (with_reducible refine New.drewN ?_ _) | (with_reducible refine New.hat ?_ _) | ((with_reducible apply New.snart); (with_reducible assumption))))
      have z2 : V1.heap.size = w8.heap.size + 1 := by subst hW; simp
      have bn : Boxed V1 w8.heap.size 3 (.int .i64 0) := by subst hW; exact World.alloc_heap_new w8 _
      clear hW
      have hw8 := n14.size
      have hSlt := hSt.in_lt
      have HSeq := Lib.hid (og_all1 at0 L cap B (by rw [← HK.out]; exact hLB) 7 (by omega) w8 hSt)
      have HB17 := Lib.hid b17
      have N14 := Lib.hid n14
      clear b17 n14 hSt
      obtain ⟨N, hN⟩ : ∃ q, q = w8.heap.size := ⟨_, rfl⟩
      rw [← hN] at bn z2 hw8 hSlt ⊢
      have HNN := Lib.hid hN
      clear hN
      go_wp2_with fail
      refine (wpIn_wide (n := 8)).1 ?_
      refine wpIn_act fun A hA => ?_
      refine wpIn_rangeL rfl (by omega) (gf := 27) (lb := #[.pointer (some ⟨B, 0, none⟩)]) (by rw [hA]; rfl) trivial (enters_of Try.func27 (by kernel_rfl) rfl) HSeq.out (fun h k => h.trans k)
        (fun U o hr => fun b hb => World.putObj_heap_other (by have := hSlt b hb; omega)) n2 (fun _ => rfl)
        (fun i U => Below w8.heap.size w8 U ∧ ∃ iv : Int, iv = i ∧ Boxed U N 3 (.int .i64 iv))
        (fun q i U => (q = Code.exit 0 ∧ (i : Int) = leave) ∧ Below w8.heap.size w8 U ∧ ∃ iv : Int, iv = i ∧ Boxed U N 3 (.int .i64 iv))
        ?hI ?hIx ⟨n2, 0, rfl, bn⟩
        (fun i a' U => ∃ (s : St) (Q1 Q2 : Nat), L[i]? = some s ∧ N < Q1 ∧ N < Q2 ∧ U.heap[Q1]? = some (.cells #[.int .i64 s.x, .int .i64 s.z, .int .i64 s.y] 41 (0, 0)) ∧ U.heap[Q2]? = some (.cells #[.int .i64 s.f.y, .int .i64 s.f.top, .int .i64 s.f.area] 43 (0, 0)) ∧ a' = { tmps := (((A.tmps.setIfInBounds 109 (.agg #[.int .i64 s.x, .int .i64 s.z, .int .i64 s.y])).setIfInBounds 110 (.agg #[.int .i64 s.f.y, .int .i64 s.f.top, .int .i64 s.f.area])).setIfInBounds 20 (.pointer (some ⟨Q1, 0, none⟩))).setIfInBounds 21 (.pointer (some ⟨Q2, 0, none⟩)), defers := [] })
        ?hAx ?assign ?body ?done ?stop
      case hI => exact OwnFrom.and (ownFrom_below (Nat.le_refl _) n2.size) (fun s X Y row hs hg hr => by
        obtain ⟨iv, e, hb⟩ := hs
        exact ⟨iv, e, own_blk (β := Unit) N _ () X Y row hb hg hr⟩)
      case hIx => exact fun q => OwnFrom.and (own_pure _ _) (OwnFrom.and (ownFrom_below (Nat.le_refl _) n2.size) (fun s X Y row hs hg hr => by
        obtain ⟨iv, e, hb⟩ := hs
        exact ⟨iv, e, own_blk (β := Unit) N _ () X Y row hb hg hr⟩))
      case assign =>
        intro i hi' U K hI hK
        generalize hkk : L[i] = s
        simp only [stA]
        rw [hA]
        simp only [List.zip_toArray, List.zip_cons_cons, List.zip_nil_right, List.foldl_toArray', List.foldl_cons, List.foldl_nil, List.setIfInBounds_toArray, List.set_cons_succ, List.set_cons_zero, List.size_toArray, List.length_cons, List.length_nil]
        gi_wp2
        obtain ⟨hB, iv, rfl, yN⟩ := hI
        obtain ⟨Q1, hQ1⟩ : ∃ q, q = U.heap.size := ⟨_, rfl⟩
        obtain ⟨Q2, hQ2⟩ : ∃ q, q = U.heap.size + 1 := ⟨_, rfl⟩
        have hNU := yN.lt
        have nU : New U ((U.alloc (.cells #[.int .i64 s.x, .int .i64 s.z, .int .i64 s.y] 41)).alloc (.cells #[.int .i64 s.f.y, .int .i64 s.f.top, .int .i64 s.f.area] 43)) := by (repeat (first | (with_reducible exact New.refl _) | (with_reducible assumption) | ((with_reducible refine New.setB ?_ ?_ _); focus (first | omega | (simp; omega) | (simp; done))) | (with_reducible refine New.alloc ?_ _) | (with_reducible refine New.drew ?_) | (with_reducible refine New.drewN ?_ _) | (with_reducible refine New.hat ?_ _) | ((with_reducible apply New.snart); (with_reducible assumption))))
        have q1 : ((U.alloc (.cells #[.int .i64 s.x, .int .i64 s.z, .int .i64 s.y] 41)).alloc (.cells #[.int .i64 s.f.y, .int .i64 s.f.top, .int .i64 s.f.area] 43)).heap[U.heap.size]? = some (.cells #[.int .i64 s.x, .int .i64 s.z, .int .i64 s.y] 41 (0, 0)) := ((New.refl _).alloc _).stays (World.alloc_heap_new U _)
        have q2 : ((U.alloc (.cells #[.int .i64 s.x, .int .i64 s.z, .int .i64 s.y] 41)).alloc (.cells #[.int .i64 s.f.y, .int .i64 s.f.top, .int .i64 s.f.area] 43)).heap[U.heap.size + 1]? = some (.cells #[.int .i64 s.f.y, .int .i64 s.f.top, .int .i64 s.f.area] 43 (0, 0)) := by
          have h := World.alloc_heap_new (U.alloc (.cells #[.int .i64 s.x, .int .i64 s.z, .int .i64 s.y] 41)) (.cells #[.int .i64 s.f.y, .int .i64 s.f.top, .int .i64 s.f.area] 43)
          rw [World.size_alloc] at h
          exact h
        rw [← hQ1] at q1
        rw [← hQ2] at q2
        rw [← hQ2, ← hQ1]
        have hBs := hB.size
        refine hK _ _ (keepsFrom_new nU) (KeepS.new (fun b hb => by have := hSlt b hb; have := HNN.out; omega) nU) ⟨New.trans (show New w8 U from hB) nU, _, rfl, nU.stays yN⟩ ⟨s, Q1, Q2, by rw [List.getElem?_eq_getElem hi', hkk], by omega, by omega, q1, q2, by rw [hA]; simp only [List.setIfInBounds_toArray, List.set_cons_succ, List.set_cons_zero]⟩
      case hAx =>
        rintro i a' _ X Y row ⟨s, Q1, Q2, h1, h2, h3, h4, h5, rfl⟩ hg hr
        exact ⟨s, Q1, Q2, h1, h2, h3, own_blk (β := Unit) Q1 _ () X Y row h4 hg hr, own_blk (β := Unit) Q2 _ () X Y row h5 hg hr, rfl⟩
      case body =>
        rintro i hi' a' U - ⟨hB, iv, rfl, yN⟩ ⟨s, Q1, Q2, hs, hq1, hq2, q1, q2, rfl⟩
        rw [hA]
        simp only [List.setIfInBounds_toArray, List.set_cons_succ, List.set_cons_zero]
        obtain ⟨bw, ow, rfl, hRW⟩ := HWR8.out (by omega)
        have hBn : New w8 U := hB
        obtain ⟨d0, d1, d2, d3, d4, d5⟩ := St.cells (hRW.keep hBn) i hi'
        have hsi : L[i] = s := by rw [List.getElem?_eq_getElem hi'] at hs; exact Option.some.inj hs
        rw [hsi] at d0 d1 d2 d3 d4 d5
        have p0 : U.cell? ⟨Q1, 0, none⟩ = some (.int .i64 s.x) := cell_of_heap q1 rfl
        have p1 : U.cell? ⟨Q1, 1, none⟩ = some (.int .i64 s.z) := cell_of_heap q1 rfl
        have p2 : U.cell? ⟨Q1, 2, none⟩ = some (.int .i64 s.y) := cell_of_heap q1 rfl
        have r0 : U.cell? ⟨Q2, 0, none⟩ = some (.int .i64 s.f.y) := cell_of_heap q2 rfl
        have r1 : U.cell? ⟨Q2, 1, none⟩ = some (.int .i64 s.f.top) := cell_of_heap q2 rfl
        have r2 : U.cell? ⟨Q2, 2, none⟩ = some (.int .i64 s.f.area) := cell_of_heap q2 rfl
        have zN := yN.cell
        have zF := yN.frozen
        have c17 := (show Boxed U P _ _ from hBn.stays HB17.out).cell
        have c11 := (H11.out U (N14.out.trans hBn)).cell
        have hik : i < k := by rw [HK.out]; exact hi'
        have hdg : decide ((i : Int) ≥ (k : Int)) = false := decide_eq_false (by omega)
        have hdg2 : decide ((k : Int) ≤ (i : Int)) = false := decide_eq_false (by omega)
        have hdg3 : decide (k ≤ i) = false := decide_eq_false (by omega)
        have hqS := fun W => spot_neq W s.x s.z s.y
        have hqF := fun W => flr_neq W s.f
        have hw1 : IntKind.i64.wrap ((i : Int) + 1) = (i : Int) + 1 := IntWalk.i64_in _ (by omega)
        have hNU := yN.lt
        have hN0 : w.heap.size + 4 ≤ N := by omega
        have HB := Lib.hid hBn
        have HY := Lib.hid yN
        clear hRW hs hsi q1 q2 hB hBn yN hi'
        gi_wp2_with fail
        refine Go.PlainIn.wpIn_region_quiet_lit (by kernel_rfl) (by kernel_rfl) (by kernel_rfl) ?_
        (repeat (go_big_quiet_step (fail)))
        refine wpQuiet_nil ?_
        rintro _ ⟨kk, rfl⟩
        obtain ⟨V, hV⟩ : ∃ V, V = U.drewN kk := ⟨_, rfl⟩
        have nV : New U V := by subst hV; exact ⟨rfl, rfl, rfl, Nat.le_refl _, fun k hk => rfl⟩
        rw [← hV]
        have zF2 := nV.keepF zN zF
        replace zN := nV.keep zN
        replace c11 := nV.keep c11
        have hNV : N < V.heap.size := Nat.lt_of_lt_of_le hNU nV.size
        have yV : Boxed V N 3 (.int .i64 i) := nV.stays HY.out
        have rk : KeepsFrom V1.heap.size U (V.setCell ⟨N, 0, none⟩ (.int .i64 ((i : Int) + 1))) := (keepsFrom_new nV).trans ((KeepsOthers.setCell _ _ _).from _)
        have rs : KeepS (stS B at0 L) U (V.setCell ⟨N, 0, none⟩ (.int .i64 ((i : Int) + 1))) := fun b hb => by
          have := hSlt b hb
          rw [Below.heap_setCell _ _ _ _ (show b ≠ N by omega)]
          exact nV.block b (by omega)
        have rb : Below w8.heap.size w8 (V.setCell ⟨N, 0, none⟩ (.int .i64 ((i : Int) + 1))) := Below.setCell (p := ⟨N, 0, none⟩) (HB.out.trans nV) (by rw [HNN.out]; exact Nat.le_refl _) _
        have RK := Lib.hid (And.intro rk (And.intro rs (And.intro rb (yV.set (.int .i64 ((i : Int) + 1))))))
        clear hV nV rk rs rb yV d0 d1 d2 d3 d4 d5 p0 p1 p2 r0 r1 r2 zF hNU hqS hqF c17
        by_cases hv : (i : Int) + 1 = leave
        · have hd : ((i : Int) + 1 == leave) = true := by rw [beq_iff_eq]; exact hv
          have HV := Lib.hid hv
          clear hv
          gi_wp2_with fail
          exact ⟨RK.out.1, ⟨rfl, by rw [← HV.out]; push_cast; rfl⟩, RK.out.2.2.1, _, by push_cast; rfl, RK.out.2.2.2⟩
        · have hd : ((i : Int) + 1 == leave) = false := by rw [beq_eq_false_iff_ne]; exact hv
          clear hv
          gi_wp2_with fail
          exact ⟨RK.out.1, RK.out.2.1, RK.out.2.2.1, _, by push_cast; rfl, RK.out.2.2.2⟩
      case done =>
        rintro U ⟨hB, iv, rfl, yN⟩ hD
        rw [hA]
        rw [z2] at hD ⊢
        have hBn : New w8 U := hB
        rw [← HK.out] at yN
        have zN := yN.cell
        have c17 := (show Boxed U P _ _ from hBn.stays HB17.out).cell
        have c11 := (H11.out U (N14.out.trans hBn)).cell
        have hd : ((k : Int) == (k : Int)) = true := by simp
        go_wp2_with fail
        refine (KW.out _).mono ?_
        rintro e w9 ⟨rfl, n9⟩
        have q12 := H12.out w9 (N14.out.trans (hBn.trans n9))
        have c12 := q12.cell
        have f12 := q12.frozen
        have hD9 := New.stays n9 hD
        have nn := N0.out.trans (N14.out.trans (hBn.trans n9))
        clear n9 zN c17 c11
        go_wp2_with fail
        exact tells_leaves rfl q12 (by omega) nn hD9 (by omega)
      case stop =>
        rintro i q U hi0 hi1 ⟨⟨rfl, hv⟩, hB, iv, rfl, yN⟩ hD
        rw [hA]
        rw [z2] at hD ⊢
        have hBn : New w8 U := hB
        have zN := yN.cell
        have c17 := (show Boxed U P _ _ from hBn.stays HB17.out).cell
        have c11 := (H11.out U (N14.out.trans hBn)).cell
        have hd2 : ((i : Int) == leave) = true := by rw [beq_iff_eq]; exact hv
        clear hv yN hi0 hi1
        refine wpIn_wide.2 ?_
        cases hd : ((i : Int) == (k : Int))
        · skip
          go_wp2_with fail
          refine (KW.out _).mono ?_
          rintro e w9 ⟨rfl, n9⟩
          have q12 := H12.out w9 (N14.out.trans (hBn.trans n9))
          have c12 := q12.cell
          have f12 := q12.frozen
          have hD9 := New.stays n9 hD
          have nn := N0.out.trans (N14.out.trans (hBn.trans n9))
          clear n9 zN c17 c11
          go_wp2_with fail
          exact tells_leaves rfl q12 (by omega) nn hD9 (by omega)
        · skip
          go_wp2_with fail
          refine (KW.out _).mono ?_
          rintro e w9 ⟨rfl, n9⟩
          have q12 := H12.out w9 (N14.out.trans (hBn.trans n9))
          have c12 := q12.cell
          have f12 := q12.frozen
          have hD9 := New.stays n9 hD
          have nn := N0.out.trans (N14.out.trans (hBn.trans n9))
          clear n9 zN c17 c11
          go_wp2_with fail
          exact tells_leaves rfl q12 (by omega) nn hD9 (by omega)

end Go.Proofs.Ytklopjbpfddgfaa
