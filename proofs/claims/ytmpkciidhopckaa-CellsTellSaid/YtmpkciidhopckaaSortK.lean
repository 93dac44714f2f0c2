/- sort.Slice at structs, whatever the comparison lays: a permutation, in order. -/
import Derived.Test.YtmpkciidhopckaaSortJ
import Derived.Shelf.GgSortFunc.SmallK
import Derived.Shelf.GgSortFunc.Tiny
namespace Go.Proofs.Ytmpkciidhopckaa
open Go.RowKit Go.Sort Go.Shelf Go.Lib
set_option linter.unusedVariables false
variable {α : Type} [Inhabited α]

theorem swapper9 (gS : Bool) (args : Array Value) (W : World) (h : gS = false) : (callFunc 85 args).run Try.prog W = ((Extern.ReflectliteSwapper.swap gS args).run Try.prog W).andThen fun v w' => .ok (.value v) w' := by
  subst h
  exact run_callFunc_extern Try.func85 (by kernel_rfl) (by kernel_rfl) (by kernel_rfl) (e := Extern.ReflectliteSwapper.swap false) (by kernel_rfl) args W

theorem s_slice (t e : TypeId) (i ie : TypeInfo) (hi : Try.prog.info? t = some i) (hd : i.desc = .slice e) (hpk : Try.prog.packed t = false) (hie : Try.prog.info? e = some ie) (ke : Nat) (hke : ∀ w, (Extern.Rtype.kind e).run Try.prog w = .ok ke w)
    (h9 : ∀ n, 2 ≤ n → swapperK n ie ke = 9)
    (enc : α → List Value) (k : Nat) (hk : ∀ x, (enc x).length = k) (hs1 : ie.size = k) (hagg : ∀ w, (isAgg e).run Try.prog w = .ok true w) (h1 : ∀ x, ∀ v ∈ enc x, v.oneCell' = true) (lt : α → α → Bool) (hO : SWO lt) (g : Nat) (lb : Array Value)
    (eg : ∀ args w, (callFunc g args).run Try.prog w = .ok (.enter g args) w) (blk off c : Nat) (d : Array α) (hsz : d.size < 4611686018427387904) (w : World)
    (hless : ∀ (W : World) (d' : Array α), But blk w W → HoldsK enc k W blk off d' → d'.size = d.size → ∀ i j : Nat, i < d.size → j < d.size →
      Calls Try.prog g (#[.int .i64 i, .int .i64 j] ++ lb) W fun e w' => e = .returned (.bool (lt d'[i]! d'[j]!)) ∧ New W w')
    (hH : HoldsK enc k w blk off d) (hblk : blk < w.heap.size) :
    Calls Try.prog 37 #[.iface t (.slice (some ⟨blk, off, none⟩) d.size c), .func (.func g) #[] lb] w fun e w' =>
      e = .returned (.tuple #[]) ∧ But blk w w' ∧ ∃ d', (PermIn 0 d.size d d' ∧ SortedIn lt 0 d.size d') ∧ HoldsK enc k w' blk off d' := by
  by_cases h2 : 2 ≤ d.size
  · refine Go.Proofs.Any.sort_Slice_of_pdq (P := Try.prog) (ρ := laysSort_ren) laysSort t e i ie hi hd hpk hie ke hke _ d.size c hsz 85 (by rw [h9 _ h2]; kernel_rfl) (.func g) #[] lb w _ ?_
    have hB : Go.Proofs.sliceBound Try.prog e ie ke (some ⟨blk, off, none⟩) d.size c = #[.slice (some ⟨blk, off, none⟩) d.size c, typeHandle Try.prog e] := by
      unfold Go.Proofs.sliceBound; rw [h9 _ h2]; rfl
    rw [hB]
    have hn : New w (Go.Proofs.sliceWorld Try.prog laysSort_ren t (some ⟨blk, off, none⟩) d.size c w) := by
      unfold Go.Proofs.sliceWorld
      exact ((New.refl w).alloc _).alloc _
    generalize Go.Proofs.sliceWorld Try.prog laysSort_ren t (some ⟨blk, off, none⟩) d.size c w = W at hn
    have C : Sorting Try.prog g lb 85 #[.slice (some ⟨blk, off, none⟩) d.size c, typeHandle Try.prog e] enc k lt blk off d.size w :=
      ⟨hk, hO, eg, hsz, hblk, hless, Go.Proofs.swapSwapsK_of_literal false _ (fun args W => swapper9 false args W rfl) e ie hie enc k hk hs1 hagg h1 blk off d.size c⟩
    have hlim : Lib.bitLen d.size < 4611686018427387904 := Nat.lt_of_le_of_lt (Lib.bitLen_le d.size 62 (by omega) (by omega)) (by omega)
    refine (s_pdq C (d.size + 1) 0 d.size (Lib.bitLen d.size) d W (by omega) ⟨But.of_new hn, holdsK_new hH hn, rfl⟩ (Nat.zero_le _) (Nat.le_refl _) hlim (Or.inl rfl)).mono ?_
    rintro e w' ⟨rfl, p, d', q, r⟩
    exact ⟨rfl, p.snd hn, d', q, r.holds⟩
  · have h1' : d.size ≤ 1 := by omega
    suffices hz : Calls Try.prog 37 #[.iface t (.slice (some ⟨blk, off, none⟩) d.size c), .func (.func g) #[] lb] w fun e w' => e = .returned (.tuple #[]) ∧ ∃ os, w' = Sort.grow w os by
      refine hz.mono ?_
      rintro e w' ⟨rfl, os, rfl⟩
      have hn : New w (Sort.grow w os) := by
        refine ⟨rfl, rfl, rfl, ?_, fun k hk => ?_⟩
        · show w.heap.size ≤ (w.heap ++ os).size
          rw [Array.size_append]; omega
        · show (w.heap ++ os)[k]? = _
          rw [Array.getElem?_append_left hk]
      exact ⟨rfl, But.of_new hn, d, ⟨permIn_refl _ _ _, fun i j _ h3 h4 => by omega⟩, holdsK_new hH hn⟩
    rcases Nat.eq_zero_or_pos d.size with h0 | h0
    · have hk0 : swapperK d.size ie ke = 1 := by rw [h0]; rfl
      exact Go.Proofs.Any.sort_Slice_tiny (P := Try.prog) (ρ := laysSort_ren) laysSort t e i ie hi hd hpk hie ke hke _ d.size c h1' 77 (by rw [hk0]; kernel_rfl) (.func g) #[] lb w
    · have hk1 : swapperK d.size ie ke = 2 := by rw [show d.size = 1 by omega]; rfl
      exact Go.Proofs.Any.sort_Slice_tiny (P := Try.prog) (ρ := laysSort_ren) laysSort t e i ie hi hd hpk hie ke hke _ d.size c h1' 78 (by rw [hk1]; kernel_rfl) (.func g) #[] lb w

end Go.Proofs.Ytmpkciidhopckaa
