import Derived.Test.YteoongcajfcgcaaClDZ7
import Derived.Test.YteoongcajfcgcaaSoWZ7
import Derived.Test.YteoongcajfcgcaaSlFn

/- Package clip: a row of corners sorted. -/
namespace Go.Proofs.Yteoongcajfcgcaa
open Go.RowKit Go.Sort Go.Shelf Go.Lib
set_option linter.unusedVariables false

structure GC where
  c : Co
  ok : Okc c
instance : Inhabited GC := ⟨⟨⟨0, 0, 0, 1⟩, by unfold Okc; simp⟩⟩
def GC.enc (g : GC) : List Value := g.c.enc
theorem GC.pos (g : GC) : 0 < g.c.d := by have := g.ok.1; omega

/-- A row of corners at a block's head that may be written. -/
structure WRow (w : World) (b : Nat) (l : List Co) : Prop where
  row : RowAt Co.enc 4 w b 0 l
  free : ∀ j, j < l.length * 4 → w.frozen? ⟨b, j, none⟩ = false

theorem WRow.of_own {w : World} {base g cap : Nat} {e : TypeId} {l : List Co} (h : w.ownsRow base e 4 (.slice (some ⟨g, 0, none⟩) l.length cap) l.length (l.flatMap Co.enc)) : WRow w g l :=
  ⟨fun j hj => by
    obtain ⟨-, -, -, -, hr⟩ := (own_sl Co.enc_len h).row
    obtain ⟨b, off, e, hA⟩ := hr (by omega)
    injection e with e; injection e with e1 e2
    subst e1 e2
    exact hA j hj, fun j _ => World.ownsRow.frozenAt h j⟩

theorem holds_of_wrow {w : World} {b : Nat} {d : Array GC} (h : WRow w b (d.toList.map GC.c)) : HoldsK GC.enc 4 w b 0 d := by
  intro j hj
  rw [size_flatK] at hj
  rw [get_flatK _ _ _ _ hj]
  have h1 : j / 4 < d.size := by omega
  have h2 : j % 4 < 4 := Nat.mod_lt _ (by omega)
  have hl : (d.toList.map GC.c).length = d.size := by simp
  refine ⟨?_, by rw [Nat.zero_add]; exact h.free j (by rw [hl]; exact hj)⟩
  have hr := h.row (j / 4) (by rw [hl]; exact h1) (j % 4) (by rw [Co.enc_len]; exact h2)
  rw [show 0 + j / 4 * 4 + j % 4 = 0 + j by omega] at hr
  rw [hr]
  have e1 : d[j / 4]! = d[j / 4] := getElem!_pos d _ h1
  have e2 : (d.toList.map GC.c)[j / 4]'(by rw [hl]; exact h1) = d[j / 4].c := by simp
  rw [e1]
  show some ((d.toList.map GC.c)[j / 4].enc[j % 4]) = some ((d[j / 4].c.enc)[j % 4]!)
  rw [getElem!_pos _ (j % 4) (by rw [Co.enc_len]; exact h2)]
  simp only [e2]

theorem wrow_of_holds {w : World} {b : Nat} {d : Array GC} (h : HoldsK GC.enc 4 w b 0 d) : WRow w b (d.toList.map GC.c) := by
  have hl : (d.toList.map GC.c).length = d.size := by simp
  refine ⟨fun j hj i hi => ?_, fun j hj => ?_⟩
  · have hj' : j < d.size := by rw [hl] at hj; exact hj
    have hi' : i < 4 := by rw [Co.enc_len] at hi; exact hi
    rw [(HoldsK.cell h hj' hi').1]
    have e1 : d[j]! = d[j] := getElem!_pos d _ hj'
    have e2 : (d.toList.map GC.c)[j] = d[j].c := by simp
    rw [e1]
    show some ((d[j].c.enc)[i]!) = some ((d.toList.map GC.c)[j].enc[i])
    rw [getElem!_pos _ i (by rw [Co.enc_len]; exact hi')]
    simp only [e2]
  · rw [hl] at hj
    have := (h j (by rw [size_flatK]; exact hj)).2
    rwa [Nat.zero_add] at this

theorem cmp_neg {a b : Int} : cmpI a b < 0 ↔ a < b := by unfold cmpI; split <;> (try split) <;> omega
theorem cmp_zero {a b : Int} : cmpI a b = 0 ↔ a = b := by unfold cmpI; split <;> (try split) <;> omega
theorem cf_lt (a b : Co) : cfC a b < 0 ↔ ltC a b := by
  unfold cfC orI ltC
  split
  · rename_i h
    rw [cmp_zero] at h
    rw [cmp_neg]
    omega
  · rename_i h
    rw [cmp_zero] at h
    rw [cmp_neg]
    omega
theorem lt_of (x y : GC) : ltOf (fun a b : GC => cfC a.c b.c) x y = true ↔ ltC x.c y.c := by
  unfold ltOf; rw [decide_eq_true_eq, cf_lt]
theorem lt_not (x y : GC) : ltOf (fun a b : GC => cfC a.c b.c) x y = false ↔ ¬ ltC x.c y.c := by
  rw [← lt_of, Bool.not_eq_true]
theorem swoC : SWO (ltOf fun a b : GC => cfC a.c b.c) where
  irrefl x := (lt_not x x).2 (ltC_irrefl _)
  trans x y z h1 h2 := (lt_of x z).2 (ltC_trans x.pos y.pos z.pos ((lt_of x y).1 h1) ((lt_of y z).1 h2))
  ntrans x y z h1 h2 := (lt_not x z).2 (nlt_trans x.pos y.pos z.pos ((lt_not x y).1 h1) ((lt_not y z).1 h2))

theorem cmpLaysC (blk off size : Nat) (w : World) : CmpLays Try.prog 25 #[] GC.enc 4 (fun a b => cfC a.c b.c) blk off size w :=
  fun _ _ _ _ x y => (k_less x.c y.c _ x.ok y.ok).mono fun _ _ ⟨he, hg⟩ => ⟨he, hg.grow⟩

theorem new_sortWorld {a w : World} (h : New a w) {b : Nat} (hb : a.heap.size ≤ b) (n : Nat) (d : Array GC) (os : Array Obj) : New a (sortWorldK GC.enc 4 w b 0 n d os) := by
  have e : ∀ k, k ≠ b → k < w.heap.size → (sortWorldK GC.enc 4 w b 0 n d os).heap[k]? = w.heap[k]? := fun k hk hs => by
    unfold sortWorldK
    rw [heap_grow_old _ _ (by rw [size_putRowK]; exact hs)]
    show ((w.heap).modify b _)[k]? = _
    rw [Array.getElem?_modify, if_neg (by omega)]
  refine ⟨h.os, h.tape, h.output, Nat.le_trans h.size (size_sortWorldK_c GC.enc 4 w b 0 n d os), fun k hk => ?_⟩
  rw [e k (by omega) (Nat.lt_of_lt_of_le hk h.size)]
  exact h.block k hk

theorem permIn_perm {α : Type} [Inhabited α] {d d' : Array α} (h : PermIn 0 d.size d d') : d'.toList.Perm d.toList := by
  obtain ⟨h1, -, h3⟩ := h
  have e1 : d'.extract 0 d.size = d' := by rw [← h1]; exact Array.extract_size
  have e2 : d.extract 0 d.size = d := Array.extract_size
  rwa [e1, e2] at h3

set_option maxHeartbeats 1000000 in
theorem k_sort (g cap : Nat) (l : List Co) (hl : ∀ c ∈ l, Okc c) (hn : l.length < 4611686018427387904) (w : World) (h : WRow w g l) (hg : g < w.heap.size) :
    Calls Try.prog 24 #[.slice (some ⟨g, 0, none⟩) l.length cap, .func (.func 25) #[] #[]] w fun e w' => e = .returned (.tuple #[]) ∧
      ∃ m : List Co, m.Perm l ∧ m.Pairwise (fun a b => ¬ ltC b a) ∧ WRow w' g m ∧ ∀ a, New a w → a.heap.size ≤ g → New a w' := by
  obtain ⟨L, hL⟩ : ∃ L : List GC, L.map GC.c = l := list_map_of GC.c Okc l hl fun y hy => ⟨⟨y, hy⟩, rfl⟩
  obtain ⟨d, hd⟩ : ∃ d : Array GC, d.toList = L := ⟨L.toArray, rfl⟩
  subst hd
  subst hL
  have eg : ∀ args w, (callFunc 25 args).run Try.prog w = .ok (.enter 25 args) w := enters_of Try.func25 (by kernel_rfl) rfl
  have hsz : ((d.toList.map GC.c).length) = d.size := by simp
  rw [hsz] at hn ⊢
  have hH := holds_of_wrow h
  have hcon := AnyQ.slices_SortFunc laysSortF 4 (fun _ => by kernel_rfl) (fun _ => by kernel_rfl) GC.enc (fun x => Co.enc_len x.c) (fun x => Co.enc_one x.c) (fun a b => cfC a.c b.c) swoC 25 #[] g 0 cap d w eg (cmpLaysC g 0 d.size w) hH hg hn
  change Calls Try.prog 24 _ _ _ at hcon
  refine hcon.mono ?_
  rintro e w' ⟨he, d', n, os, hp, hs, rfl⟩
  have hp' := permIn_perm hp
  have hds : d'.size = d.size := hp.1
  refine ⟨he, d'.toList.map GC.c, hp'.map _, ?_, wrow_of_holds (holdsK_sortWorldK_c GC.enc 4 w g 0 d d' n os hH hg hds), fun a ha hb => new_sortWorld ha hb n d' os⟩
  rw [List.pairwise_map, List.pairwise_iff_getElem]
  intro i j hi hj hij
  simp only [Array.length_toList] at hi hj
  have := hs i j (Nat.zero_le _) hij (by omega)
  rw [lt_not, getElem!_pos d' j hj, getElem!_pos d' i hi] at this
  simpa using this

end Go.Proofs.Yteoongcajfcgcaa
