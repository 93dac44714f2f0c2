/- Package spans: a row of spans sorted by their lowest heights. -/
import Derived.Test.YtekdajoglekejaaGro
import Derived.Test.YtekdajoglekejaaSoB
import Derived.Test.YtekdajoglekejaaSpD
import Derived.Test.YtekdajoglekejaaSlFn
namespace Go.Proofs.Ytekdajoglekejaa
open Go.RowKit Go.Sort Go.Shelf Go.Lib
set_option linter.unusedVariables false

theorem holds_of_wrow {w : World} {b : Nat} {d : Array Sn} (h : WRow w b d.toList) : HoldsK Sn.enc 3 w b 0 d := by
  intro j hj
  rw [size_flatK] at hj
  rw [get_flatK _ _ _ _ hj]
  have h1 : j / 3 < d.size := by omega
  have h2 : j % 3 < 3 := Nat.mod_lt _ (by omega)
  have hl : d.toList.length = d.size := by simp
  refine ⟨?_, by rw [Nat.zero_add]; exact h.free j (by rw [hl]; exact hj)⟩
  have hr := h.row (j / 3) (by rw [hl]; exact h1) (j % 3) (by rw [Sn.enc_len]; exact h2)
  rw [show 0 + j / 3 * 3 + j % 3 = 0 + j by omega] at hr
  rw [hr]
  have e1 : d[j / 3]! = d[j / 3] := getElem!_pos d _ h1
  have e2 : d.toList[j / 3]'(by rw [hl]; exact h1) = d[j / 3] := by simp
  rw [e1]
  show some (d.toList[j / 3].enc[j % 3]) = some ((d[j / 3].enc)[j % 3]!)
  rw [getElem!_pos _ (j % 3) (by rw [Sn.enc_len]; exact h2)]
  simp only [e2]

theorem wrow_of_holds {w : World} {b : Nat} {d : Array Sn} (h : HoldsK Sn.enc 3 w b 0 d) : WRow w b d.toList := by
  have hl : d.toList.length = d.size := by simp
  refine ⟨fun j hj i hi => ?_, fun j hj => ?_⟩
  · have hj' : j < d.size := by rw [hl] at hj; exact hj
    have hi' : i < 3 := by rw [Sn.enc_len] at hi; exact hi
    rw [(HoldsK.cell h hj' hi').1]
    have e1 : d[j]! = d[j] := getElem!_pos d _ hj'
    have e2 : d.toList[j] = d[j] := by simp
    rw [e1]
    show some ((d[j].enc)[i]!) = some (d.toList[j].enc[i])
    rw [getElem!_pos _ i (by rw [Sn.enc_len]; exact hi')]
    simp only [e2]
  · rw [hl] at hj
    have := (h j (by rw [size_flatK]; exact hj)).2
    rwa [Nat.zero_add] at this

theorem cmp_neg {a b : Int} : cmpI a b < 0 ↔ a < b := by unfold cmpI; split <;> (try split) <;> omega
theorem cmp_zero {a b : Int} : cmpI a b = 0 ↔ a = b := by unfold cmpI; split <;> (try split) <;> omega
/-- The order by lo. -/
def cfS (a b : Sn) : Int := cmpI a.lo b.lo
theorem lt_of (x y : Sn) : ltOf cfS x y = true ↔ x.lo < y.lo := by
  unfold ltOf cfS; rw [decide_eq_true_eq, cmp_neg]
theorem lt_not (x y : Sn) : ltOf cfS x y = false ↔ ¬ x.lo < y.lo := by
  rw [← lt_of, Bool.not_eq_true]
theorem swoS : SWO (ltOf cfS) where
  irrefl x := (lt_not x x).2 (by omega)
  trans x y z h1 h2 := (lt_of x z).2 (by have := (lt_of x y).1 h1; have := (lt_of y z).1 h2; omega)
  ntrans x y z h1 h2 := (lt_not x z).2 (by have := (lt_not x y).1 h1; have := (lt_not y z).1 h2; omega)

set_option maxHeartbeats 1000000 in
theorem k_less (a b : Sn) (w : World) :
    Calls Try.prog 23 #[.agg #[.int .i64 a.lo, .int .i64 a.hi, .bool a.wk], .agg #[.int .i64 b.lo, .int .i64 b.hi, .bool b.wk]] w fun e w' => e = .returned (.int .i64 (cfS a b)) ∧ Gro w w' := by
  have K := Lib.hid (fun W => l_cmp a.lo b.lo W)
  unfold cfS
  generalize cmpI a.lo b.lo = r at *
  go_enter Try.func23, Try.ntmps23
  go_wp2_with fail
  refine (K.out _).mono ?_
  rintro e w' ⟨rfl, rfl⟩
  go_wp2_with fail
  go_ret
  exact ⟨rfl, by (repeat (first | (with_reducible exact Gro.refl _) | (with_reducible assumption) | ((with_reducible refine Gro.setB ?_ ?_ _); focus (first | omega | (simp; omega) | (simp; done))) | (with_reducible refine Gro.alloc ?_ _) | (with_reducible refine Gro.drew ?_) | (with_reducible refine Gro.drewN ?_ _) | ((with_reducible apply Gro.snart); (with_reducible assumption))))⟩

theorem cmpLaysS (blk off size : Nat) (w : World) : CmpLays Try.prog 23 #[] Sn.enc 3 cfS blk off size w :=
  fun _ _ _ _ x y => (k_less x y _).mono fun _ _ ⟨he, hg⟩ => ⟨he, hg.grow⟩

theorem new_sortWorld {a w : World} (h : New a w) {b : Nat} (hb : a.heap.size ≤ b) (n : Nat) (d : Array Sn) (os : Array Obj) : New a (sortWorldK Sn.enc 3 w b 0 n d os) := by
  have e : ∀ k, k ≠ b → k < w.heap.size → (sortWorldK Sn.enc 3 w b 0 n d os).heap[k]? = w.heap[k]? := fun k hk hs => by
    unfold sortWorldK
    rw [heap_grow_old _ _ (by rw [size_putRowK]; exact hs)]
    show ((w.heap).modify b _)[k]? = _
    rw [Array.getElem?_modify, if_neg (by omega)]
  refine ⟨h.os, h.tape, h.output, Nat.le_trans h.size (size_sortWorldK_c Sn.enc 3 w b 0 n d os), fun k hk => ?_⟩
  rw [e k (by omega) (Nat.lt_of_lt_of_le hk h.size)]
  exact h.block k hk

theorem permIn_perm {α : Type} [Inhabited α] {d d' : Array α} (h : PermIn 0 d.size d d') : d'.toList.Perm d.toList := by
  obtain ⟨h1, -, h3⟩ := h
  have e1 : d'.extract 0 d.size = d' := by rw [← h1]; exact Array.extract_size
  have e2 : d.extract 0 d.size = d := Array.extract_size
  rwa [e1, e2] at h3

set_option maxHeartbeats 1000000 in
theorem k_sort (g cap : Nat) (l : List Sn) (hn : l.length < 4611686018427387904) (w : World) (h : WRow w g l) (hg : g < w.heap.size) :
    Calls Try.prog 22 #[.slice (some ⟨g, 0, none⟩) l.length cap, .func (.func 23) #[] #[]] w fun e w' => e = .returned (.tuple #[]) ∧
      ∃ m : List Sn, m.Perm l ∧ m.Pairwise (fun a b => a.lo ≤ b.lo) ∧ WRow w' g m ∧ ∀ a, New a w → a.heap.size ≤ g → New a w' := by
  obtain ⟨d, hd⟩ : ∃ d : Array Sn, d.toList = l := ⟨l.toArray, rfl⟩
  subst hd
  have eg : ∀ args w, (callFunc 23 args).run Try.prog w = .ok (.enter 23 args) w := enters_of Try.func23 (by kernel_rfl) rfl
  have hsz : d.toList.length = d.size := by simp
  rw [hsz] at hn ⊢
  have hH := holds_of_wrow h
  have hcon := AnyQ.slices_SortFunc laysSortF 3 (fun _ => by kernel_rfl) (fun _ => by kernel_rfl) Sn.enc (fun x => Sn.enc_len x) (fun x => Sn.enc_one x) cfS swoS 23 #[] g 0 cap d w eg (cmpLaysS g 0 d.size w) hH hg hn
  change Calls Try.prog 22 _ _ _ at hcon
  refine hcon.mono ?_
  rintro e w' ⟨he, d', n, os, hp, hs, rfl⟩
  have hp' := permIn_perm hp
  have hds : d'.size = d.size := hp.1
  refine ⟨he, d'.toList, hp', ?_, wrow_of_holds (holdsK_sortWorldK_c Sn.enc 3 w g 0 d d' n os hH hg hds), fun a ha hb => new_sortWorld ha hb n d' os⟩
  rw [List.pairwise_iff_getElem]
  intro i j hi hj hij
  simp only [Array.length_toList] at hi hj
  have := hs i j (Nat.zero_le _) hij (by omega)
  rw [lt_not, getElem!_pos d' j hj, getElem!_pos d' i hi] at this
  have e1 : d'.toList[i] = d'[i] := by simp
  have e2 : d'.toList[j] = d'[j] := by simp
  rw [e1, e2]
  omega

end Go.Proofs.Ytekdajoglekejaa
