import Derived.Test.YtklopjbpfddgfaaGreatSoAZ12
import Derived.Test.YtklopjbpfddgfaaGreatSoBZ12
import Derived.Test.YtklopjbpfddgfaaGreatSpDZ12
import Derived.Test.YtklopjbpfddgfaaGreatSlFs
import Derived.Test.YtklopjbpfddgfaaGreatSpAZ12
import Derived.Test.YtklopjbpfddgfaaGreatSteadyZ12
import Derived.Deep.LoopGhost
import Derived.Deep.DeepCutAuto
import Derived.Test.YtklopjbpfddgfaaGreatSpOZ12
import Derived.Test.YtklopjbpfddgfaaGreatSpJZ12
import Derived.Test.YtklopjbpfddgfaaGreatWholeCZ12

/- Package spans: a row of spans sorted by their lowest heights. -/
namespace Go.Proofs.YtklopjbpfddgfaaGreat
open Go.RowKit Go.Sort Go.Shelf Go.Lib
set_option linter.unusedVariables false

theorem holdsS_of_wrow {w : World} {b : Nat} {d : Array Sn} (h : WRowS w b d.toList) : HoldsK Sn.enc 3 w b 0 d := by
  intro j hj
  rw [size_flatK] at hj
  rw [get_flatK _ _ _ _ hj]
  have h1 : j / 3 < d.size := by omega
  have h2 : j % 3 < 3 := Nat.mod_lt _ (by omega)
  have hl : d.toList.length = d.size := by simp
  refine ⟨?_, by rw [Nat.zero_add]; exact h.free j (by rw [hl]; exact hj)⟩
  have hr := h.row (j / 3) (by rw [hl]; exact h1) (j % 3) (by rw [Sn.enc_len]; exact h2)
  rw [show 0 + j / 3 * 3 + j % 3 = 0 + j by omega] at hr
  rw [hr]
  have e1 : d[j / 3]! = d[j / 3] := getElem!_pos d _ h1
  have e2 : d.toList[j / 3]'(by rw [hl]; exact h1) = d[j / 3] := by simp
  rw [e1]
  show some (d.toList[j / 3].enc[j % 3]) = some ((d[j / 3].enc)[j % 3]!)
  rw [getElem!_pos _ (j % 3) (by rw [Sn.enc_len]; exact h2)]
  simp only [e2]

theorem wrowS_of_holds {w : World} {b : Nat} {d : Array Sn} (h : HoldsK Sn.enc 3 w b 0 d) : WRowS w b d.toList := by
  have hl : d.toList.length = d.size := by simp
  refine ⟨fun j hj i hi => ?_, fun j hj => ?_⟩
  · have hj' : j < d.size := by rw [hl] at hj; exact hj
    have hi' : i < 3 := by rw [Sn.enc_len] at hi; exact hi
    rw [(HoldsK.cell h hj' hi').1]
    have e1 : d[j]! = d[j] := getElem!_pos d _ hj'
    have e2 : d.toList[j] = d[j] := by simp
    rw [e1]
    show some ((d[j].enc)[i]!) = some (d.toList[j].enc[i])
    rw [getElem!_pos _ i (by rw [Sn.enc_len]; exact hi')]
    simp only [e2]
  · rw [hl] at hj
    have := (h j (by rw [size_flatK]; exact hj)).2
    rwa [Nat.zero_add] at this

theorem cmpS_neg {a b : Int} : cmpI a b < 0 ↔ a < b := by unfold cmpI; split <;> (try split) <;> omega
theorem cmpS_zero {a b : Int} : cmpI a b = 0 ↔ a = b := by unfold cmpI; split <;> (try split) <;> omega
/-- The order by lo. -/
def cfS (a b : Sn) : Int := cmpI a.lo b.lo
theorem ltS_of (x y : Sn) : ltOf cfS x y = true ↔ x.lo < y.lo := by
  unfold ltOf cfS; rw [decide_eq_true_eq, cmpS_neg]
theorem ltS_not (x y : Sn) : ltOf cfS x y = false ↔ ¬ x.lo < y.lo := by
  rw [← ltS_of, Bool.not_eq_true]
theorem swoS : SWO (ltOf cfS) where
  irrefl x := (ltS_not x x).2 (by omega)
  trans x y z h1 h2 := (ltS_of x z).2 (by have := (ltS_of x y).1 h1; have := (ltS_of y z).1 h2; omega)
  ntrans x y z h1 h2 := (ltS_not x z).2 (by have := (ltS_not x y).1 h1; have := (ltS_not y z).1 h2; omega)

set_option maxHeartbeats 1000000 in
theorem sp_less (a b : Sn) (w : World) :
    Calls Tryz.prog 66 #[.agg #[.int .i64 a.lo, .int .i64 a.hi, .bool a.wk], .agg #[.int .i64 b.lo, .int .i64 b.hi, .bool b.wk]] w fun e w' => e = .returned (.int .i64 (cfS a b)) ∧ Gro w w' := by
  have K := Lib.hid (fun W => l_cmp a.lo b.lo W)
  unfold cfS
  generalize cmpI a.lo b.lo = r at *
  go_enter Tryz.func66, Tryz.ntmps66
  go_wp2_with fail
  refine (K.out _).mono ?_
  rintro e w' ⟨rfl, rfl⟩
  go_wp2_with fail
  go_ret
  exact ⟨rfl, by (repeat (first | (with_reducible exact Gro.refl _) | (with_reducible assumption) | ((with_reducible refine Gro.setB ?_ ?_ _); focus (first | omega | (simp; omega) | (simp; done))) | (with_reducible refine Gro.alloc ?_ _) | (with_reducible refine Gro.drew ?_) | (with_reducible refine Gro.drewN ?_ _) | ((with_reducible apply Gro.snart); (with_reducible assumption))))⟩

theorem cmpLaysS (blk off size : Nat) (w : World) : CmpLays Tryz.prog 66 #[] Sn.enc 3 cfS blk off size w :=
  fun _ _ _ _ x y => (sp_less x y _).mono fun _ _ ⟨he, hg⟩ => ⟨he, hg.grow⟩

theorem newS_sortWorld {a w : World} (h : New a w) {b : Nat} (hb : a.heap.size ≤ b) (n : Nat) (d : Array Sn) (os : Array Obj) : New a (sortWorldK Sn.enc 3 w b 0 n d os) := by
  have e : ∀ k, k ≠ b → k < w.heap.size → (sortWorldK Sn.enc 3 w b 0 n d os).heap[k]? = w.heap[k]? := fun k hk hs => by
    unfold sortWorldK
    rw [heap_grow_old _ _ (by rw [size_putRowK]; exact hs)]
    show ((w.heap).modify b _)[k]? = _
    rw [Array.getElem?_modify, if_neg (by omega)]
  refine ⟨h.os, h.tape, h.output, Nat.le_trans h.size (size_sortWorldK_c Sn.enc 3 w b 0 n d os), fun k hk => ?_⟩
  rw [e k (by omega) (Nat.lt_of_lt_of_le hk h.size)]
  exact h.block k hk

theorem permS_perm {α : Type} [Inhabited α] {d d' : Array α} (h : PermIn 0 d.size d d') : d'.toList.Perm d.toList := by
  obtain ⟨h1, -, h3⟩ := h
  have e1 : d'.extract 0 d.size = d' := by rw [← h1]; exact Array.extract_size
  have e2 : d.extract 0 d.size = d := Array.extract_size
  rwa [e1, e2] at h3

set_option maxHeartbeats 1000000 in
theorem sp_sort (g cap : Nat) (l : List Sn) (hn : l.length < 4611686018427387904) (w : World) (h : WRowS w g l) (hg : g < w.heap.size) :
    Calls Tryz.prog 65 #[.slice (some ⟨g, 0, none⟩) l.length cap, .func (.func 66) #[] #[]] w fun e w' => e = .returned (.tuple #[]) ∧
      ∃ m : List Sn, m.Perm l ∧ m.Pairwise (fun a b => a.lo ≤ b.lo) ∧ WRowS w' g m ∧ ∀ a, New a w → a.heap.size ≤ g → New a w' := by
  obtain ⟨d, hd⟩ : ∃ d : Array Sn, d.toList = l := ⟨l.toArray, rfl⟩
  subst hd
  have eg : ∀ args w, (callFunc 66 args).run Tryz.prog w = .ok (.enter 66 args) w := enters_of Tryz.func66 (by kernel_rfl) rfl
  have hsz : d.toList.length = d.size := by simp
  rw [hsz] at hn ⊢
  have hH := holdsS_of_wrow h
  have hcon := AnyQ.slices_SortFunc laysSlFs 3 (fun _ => by kernel_rfl) (fun _ => by kernel_rfl) Sn.enc (fun x => Sn.enc_len x) (fun x => Sn.enc_one x) cfS swoS 66 #[] g 0 cap d w eg (cmpLaysS g 0 d.size w) hH hg hn
  change Calls Tryz.prog 65 _ _ _ at hcon
  refine hcon.mono ?_
  rintro e w' ⟨he, d', n, os, hp, hs, rfl⟩
  have hp' := permS_perm hp
  have hds : d'.size = d.size := hp.1
  refine ⟨he, d'.toList, hp', ?_, wrowS_of_holds (holdsK_sortWorldK_c Sn.enc 3 w g 0 d d' n os hH hg hds), fun a ha hb => newS_sortWorld ha hb n d' os⟩
  rw [List.pairwise_iff_getElem]
  intro i j hi hj hij
  simp only [Array.length_toList] at hi hj
  have := hs i j (Nat.zero_le _) hij (by omega)
  rw [ltS_not, getElem!_pos d' j hj, getElem!_pos d' i hi] at this
  have e1 : d'.toList[i] = d'[i] := by simp
  have e2 : d'.toList[j] = d'[j] := by simp
  rw [e1, e2]
  omega

end Go.Proofs.YtklopjbpfddgfaaGreat

/- The library's SortFunc and joined of no pieces at all. -/
namespace Go.Proofs.YtklopjbpfddgfaaGreat
open Go.RowKit
set_option linter.unusedVariables false

set_option maxRecDepth 100000 in
set_option maxHeartbeats 1000000 in
theorem l_len64 (w : World) : Calls Tryz.prog 120 #[.int .u64 0] w fun e w' => e = .returned (.int .i64 0) ∧ w = w' := by
  go_enter Tryz.func120, Tryz.ntmps120
  go_wp2_with fail
  go_ret
  exact ⟨by kernel_rfl, rfl⟩

set_option maxHeartbeats 1000000 in
theorem l_len (w : World) : Calls Tryz.prog 88 #[.int .u64 0] w fun e w' => e = .returned (.int .i64 0) ∧ w = w' := by
  have K := Lib.hid (fun W => l_len64 W)
  go_enter Tryz.func88, Tryz.ntmps88
  go_wp2_with fail
  refine (K.out _).mono ?_
  rintro e w' ⟨rfl, rfl⟩
  go_wp2_with fail
  go_ret
  exact ⟨rfl, rfl⟩

set_option maxHeartbeats 1000000 in
theorem s_ins_nil (w : World) (v f : Value) : Calls Tryz.prog 111 #[v, .int .i64 0, .int .i64 0, f] w fun e w' => e = .returned (.tuple #[]) ∧ New w w' := by
  go_enter Tryz.func111, Tryz.ntmps111
  go_wp2_with fail
  refine wp_loop_rounds 1 ?_
  repeat (rw [rounds_succ]; go_wp2_with fail)
  refine bodyPost_end (v := .tuple #[]) (by simp [results, Tryz.results111, go_sem, *]) rfl ?_
  exact ⟨rfl, New.refl _⟩

set_option maxHeartbeats 1000000 in
theorem s_pdq_nil (w : World) (v f : Value) : Calls Tryz.prog 87 #[v, .int .i64 0, .int .i64 0, .int .i64 0, f] w fun e w' => e = .returned (.tuple #[]) ∧ New w w' := by
  have K := Lib.hid (fun W => s_ins_nil W v f)
  go_enter Tryz.func87, Tryz.ntmps87
  go_wp2_with fail
  refine wp_loop_rounds 1 ?_
  rw [rounds_succ]
  go_wp2_with fail
  refine (K.out _).mono ?_
  rintro e w1 ⟨rfl, n1⟩
  go_wp2_with fail
  refine bodyPost_ret (v := .tuple #[]) (by simp [results, Tryz.results87, go_sem, *]) rfl ?_
  exact ⟨rfl, n1⟩

set_option maxHeartbeats 1000000 in
theorem k_sort_nil (w : World) (f : Value) : Calls Tryz.prog 65 #[.slice none 0 0, f] w fun e w' => e = .returned (.tuple #[]) ∧ New w w' := by
  have K := Lib.hid (fun W => s_pdq_nil W (.slice none 0 0) f)
  have L := Lib.hid (fun W => l_len W)
  go_enter Tryz.func65, Tryz.ntmps65
  go_wp2_with fail
  refine (L.out _).mono ?_
  rintro e w1 ⟨rfl, rfl⟩
  go_wp2_with fail
  refine (K.out _).mono ?_
  rintro e w1 ⟨rfl, n1⟩
  go_wp2_with fail
  refine bodyPost_end (v := .tuple #[]) (by simp [results, Tryz.results65, go_sem, *]) rfl ?_
  exact ⟨rfl, n1⟩

set_option maxHeartbeats 1000000 in
theorem k_joined_nil (w : World) : Calls Tryz.prog 68 #[.slice none 0 0] w fun e w' => e = .returned (.slice none 0 0) ∧ w = w' := by
  go_enter Tryz.func68, Tryz.ntmps68
  go_wp2_with fail
  refine wp_loop_rounds 1 ?_
  repeat (rw [rounds_succ]; go_wp2_with fail)
  go_ret
  exact ⟨rfl, rfl⟩

end Go.Proofs.YtklopjbpfddgfaaGreat

/- Package spans: Merge. -/
namespace Go.Proofs.YtklopjbpfddgfaaGreat
open Go.RowKit
set_option linter.unusedVariables false

theorem sn_part {w : World} {B c : Nat} {a : Option Addr} {l : List Sn} (h : w.cell? ⟨B, 0, none⟩ = some (.slice a l.length c)) (hs : Sl Sn.enc 3 w (.slice a l.length c) l) : PartsAt Sn.enc 3 w B [⟨a, l, c⟩] := fun j hj => by
  have e : j = 0 := by simp at hj; omega
  subst e
  exact ⟨h, hs⟩

/-- What Merge answers of pieces l. -/
def Merged (l : List Sn) (w : World) (e : Ending) (w' : World) : Prop :=
  New w w' ∧ ((fstB badS l = true ∧ e = .returned (.tuple #[.slice none 0 0, .int .i64 2])) ∨
    (fstB badS l = false ∧ ∃ (R : List Sn) (a : Option Addr) (c : Nat), IsM l R ∧ R.length ≤ l.length ∧ e = .returned (.tuple #[.slice a R.length c, .int .i64 0]) ∧ Sl Sn.enc 3 w' (.slice a R.length c) R))

/-- The row sorted and made one. -/
theorem k_row (l : List Sn) (hl : l.length ≤ 1000) (hf : Proper l) (base : Nat) (w : World) (v : Value) (h : w.ownsRow base 45 3 v l.length (l.flatMap Sn.enc)) :
    Calls Tryz.prog 65 #[v, .func (.func 66) #[] #[]] w fun e w1 => e = .returned (.tuple #[]) ∧ (∀ a, New a w → a.heap.size ≤ base → New a w1) ∧
      Calls Tryz.prog 68 #[v] w1 fun e w2 => ∃ (R : List Sn) (a : Option Addr) (c : Nat), IsM l R ∧ R.length ≤ l.length ∧ e = .returned (.slice a R.length c) ∧ Sl Sn.enc 3 w2 (.slice a R.length c) R ∧ (∀ a, New a w → a.heap.size ≤ base → New a w2) := by
  rcases h.2 with ⟨rfl, h0⟩ | ⟨g, cap, cur, rfl, hbg, hg, hc, hm, _⟩
  · obtain rfl := List.eq_nil_of_length_eq_zero h0
    refine (k_sort_nil w _).mono ?_
    rintro e w1 ⟨rfl, n1⟩
    refine ⟨rfl, fun a ha _ => ha.trans n1, ?_⟩
    refine (k_joined_nil w1).mono ?_
    rintro e w2 ⟨rfl, rfl⟩
    exact ⟨[], none, 0, IsM.nil, Nat.le_refl _, rfl, Sl.nil, fun a ha _ => ha.trans n1⟩
  · have hW := WRowS.of_own h
    have hlt : g < w.heap.size := by
      rcases Nat.lt_or_ge g w.heap.size with q | q
      · exact q
      · rw [Array.getElem?_eq_none q] at hg; cases hg
    refine (sp_sort g cap l (by omega) w hW hlt).mono ?_
    rintro e w1 ⟨rfl, m, hp, hs, hW1, hn1⟩
    have hn2 : ∀ a, New a w → a.heap.size ≤ base → New a w1 := fun a ha hb => hn1 a ha (by omega)
    refine ⟨rfl, hn2, ?_⟩
    have hml := hp.length_eq
    have hjo := k_joined g cap m w1 hW1 (by omega) hm hs (fun p hp' => hf p (hp.mem_iff.1 hp'))
    rw [hml] at hjo
    refine hjo.mono ?_
    rintro e w2 ⟨K, rfl, hK, hrow, hu, hkl⟩
    have hkl2 : K.length ≤ maxLen := by omega
    exact ⟨K, _, _, hK.congr (fun p => (hp.mem_iff).symm), by omega, rfl, ⟨_, _, rfl, Nat.le_refl _, hkl2, fun h => (by cases h), fun _ => ⟨g, 0, rfl, hrow⟩⟩, fun a ha hb => hu a (hn2 a ha hb) (by omega)⟩

set_option maxHeartbeats 2000000 in
theorem k_merge (at0 : Option Addr) (l : List Sn) (c : Nat) (hl : l.length ≤ 1000) (w : World) (h : Sl Sn.enc 3 w (.slice at0 l.length c) l) :
    Calls Tryz.prog 47 #[.slice at0 l.length c] w (Merged l w) := by
  have KP := Lib.hid (fun W n => k_pieces at0 l c (by unfold maxLen; omega) W ((h.keep (n : New w W)).row'.2.2.2.2))
  have HS := Lib.hid (fun W n => h.keep (n : New w W))
  clear h
  obtain ⟨b, hb⟩ : ∃ b, b = fstB badS l := ⟨_, rfl⟩
  rw [← hb] at KP
  have HB := Lib.hid hb
  clear hb
  go_enter Tryz.func47, Tryz.ntmps47
  go_wp2_with fail
  refine (KP.out _ (by (repeat (first | (with_reducible exact New.refl _) | (with_reducible assumption) | ((with_reducible refine New.setB ?_ ?_ _); focus (first | omega | (simp; omega) | (simp; done))) | (with_reducible refine New.alloc ?_ _) | (with_reducible refine New.drew ?_) | (with_reducible refine New.drewN ?_ _) | (with_reducible refine New.hat ?_ _) | ((with_reducible apply New.snart); (with_reducible assumption)))))).mono ?_
  rintro e w1 ⟨rfl, n1⟩
  have hn1 : New w w1 := New.trans (by (repeat (first | (with_reducible exact New.refl _) | (with_reducible assumption) | ((with_reducible refine New.setB ?_ ?_ _); focus (first | omega | (simp; omega) | (simp; done))) | (with_reducible refine New.alloc ?_ _) | (with_reducible refine New.drew ?_) | (with_reducible refine New.drewN ?_ _) | (with_reducible refine New.hat ?_ _) | ((with_reducible apply New.snart); (with_reducible assumption))))) n1
  clear n1
  cases b
  · have HF := Lib.hid (not_bad HB.out.symm)
    have HPT := Lib.hid (fun W n h0 => sn_part (B := w1.heap.size) (h0 : W.cell? ⟨w1.heap.size, 0, none⟩ = some (.slice at0 l.length c)) (HS.out W (hn1.trans n)))
    have hz1 := hn1.size
    go_upto_region 4 with fail
    refine (sn_concat w1.heap.size 1 [⟨at0, l, c⟩] (by simp) (by simpa using hl) _ (HPT.out _ (by (repeat (first | (with_reducible exact New.refl _) | (with_reducible assumption) | ((with_reducible refine New.setB ?_ ?_ _); focus (first | omega | (simp; omega) | (simp; done))) | (with_reducible refine New.alloc ?_ _) | (with_reducible refine New.drew ?_) | (with_reducible refine New.drewN ?_ _) | (with_reducible refine New.hat ?_ _) | ((with_reducible apply New.snart); (with_reducible assumption))))) (by go_simp))).mono ?_
    rintro e w2 ⟨v, rfl, hown, n2⟩
    simp only [List.flatMap_cons, List.flatMap_nil, List.append_nil] at hown
    have hb0 : w.heap.size ≤ (w1.alloc (.cells #[.slice at0 l.length c] 24)).heap.size := by simp; omega
    have hn2 : New w w2 := hn1.trans (New.trans (by (repeat (first | (with_reducible exact New.refl _) | (with_reducible assumption) | ((with_reducible refine New.setB ?_ ?_ _); focus (first | omega | (simp; omega) | (simp; done))) | (with_reducible refine New.alloc ?_ _) | (with_reducible refine New.drew ?_) | (with_reducible refine New.drewN ?_ _) | (with_reducible refine New.hat ?_ _) | ((with_reducible apply New.snart); (with_reducible assumption))))) n2)
    have KR := Lib.hid (k_row l hl (fun p hp => (HF.out p hp).2.1) _ w2 v hown)
    generalize (w1.alloc (.cells #[.slice at0 l.length c] 24)).heap.size = base at *
    clear hown n2
    go_wp2_with fail
    refine KR.out.mono ?_
    rintro e w3 ⟨rfl, hn3, hj⟩
    have KJ := Lib.hid hj
    clear hj
    go_wp2_with fail
    refine KJ.out.mono ?_
    rintro e w4 ⟨R, a, c', hR, hRl, rfl, hSl, hn4⟩
    have HE := Lib.hid (And.intro hR (And.intro hRl (And.intro hSl (hn4 w hn2 hb0))))
    clear hR hRl hSl hn4
    go_wp2_with fail
    refine bodyPost_ret (v := .tuple #[.slice a R.length c', .int .i64 0]) (by simp [results, Tryz.results47, go_sem, *]) rfl ?_
    exact ⟨HE.out.2.2.2, .inr ⟨HB.out.symm, R, a, c', HE.out.1, HE.out.2.1, rfl, HE.out.2.2.1⟩⟩
  · go_wp2_with fail
    refine bodyPost_ret (v := .tuple #[.slice none 0 0, .int .i64 2]) (by simp [results, Tryz.results47, go_sem, *]) rfl ?_
    exact ⟨hn1, .inl ⟨HB.out.symm, rfl⟩⟩

end Go.Proofs.YtklopjbpfddgfaaGreat
