import Derived.Test.YtklopjbpfddgfaaGreatSpMZ12
import Derived.Test.YtklopjbpfddgfaaGreatRaC0Z12
import Derived.Maps.AppendAt
import Derived.Deep.LoopGhost
import Derived.WalkMore

/- Package spans: Merge, of pieces that may be: its row is a new one. (SpM's walk, with where the row lies told, too.) -/
namespace Go.Proofs.YtklopjbpfddgfaaGreat
open Go.RowKit
set_option linter.unusedVariables false

/-- The row sorted and made one. -/
theorem k_row_own (l : List Sn) (hl : l.length ≤ 1000) (hf : Proper l) (base : Nat) (w : World) (v : Value) (h : w.ownsRow base 45 3 v l.length (l.flatMap Sn.enc)) :
    Calls Tryz.prog 65 #[v, .func (.func 66) #[] #[]] w fun e w1 => e = .returned (.tuple #[]) ∧ (∀ a, New a w → a.heap.size ≤ base → New a w1) ∧
      Calls Tryz.prog 68 #[v] w1 fun e w2 => ∃ (R : List Sn) (a : Option Addr) (c : Nat), IsM l R ∧ R.length ≤ l.length ∧ e = .returned (.slice a R.length c) ∧ Sl Sn.enc 3 w2 (.slice a R.length c) R ∧ (∀ x, a = some x → base ≤ x.block) ∧ (∀ a, New a w → a.heap.size ≤ base → New a w2) := by
  rcases h.2 with ⟨rfl, h0⟩ | ⟨g, cap, cur, rfl, hbg, hg, hc, hm, _⟩
  · obtain rfl := List.eq_nil_of_length_eq_zero h0
    refine (k_sort_nil w _).mono ?_
    rintro e w1 ⟨rfl, n1⟩
    refine ⟨rfl, fun a ha _ => ha.trans n1, ?_⟩
    refine (k_joined_nil w1).mono ?_
    rintro e w2 ⟨rfl, rfl⟩
    exact ⟨[], none, 0, IsM.nil, Nat.le_refl _, rfl, Sl.nil, fun x h => (by cases h), fun a ha _ => ha.trans n1⟩
  · have hW := WRowS.of_own h
    have hlt : g < w.heap.size := by
      rcases Nat.lt_or_ge g w.heap.size with q | q
      · exact q
      · rw [Array.getElem?_eq_none q] at hg; cases hg
    refine (sp_sort g cap l (by omega) w hW hlt).mono ?_
    rintro e w1 ⟨rfl, m, hp, hs, hW1, hn1⟩
    have hn2 : ∀ a, New a w → a.heap.size ≤ base → New a w1 := fun a ha hb => hn1 a ha (by omega)
    refine ⟨rfl, hn2, ?_⟩
    have hml := hp.length_eq
    have hjo := k_joined g cap m w1 hW1 (by omega) hm hs (fun p hp' => hf p (hp.mem_iff.1 hp'))
    rw [hml] at hjo
    refine hjo.mono ?_
    rintro e w2 ⟨K, rfl, hK, hrow, hu, hkl⟩
    have hkl2 : K.length ≤ maxLen := by omega
    exact ⟨K, _, _, hK.congr (fun p => (hp.mem_iff).symm), by omega, rfl, ⟨_, _, rfl, Nat.le_refl _, hkl2, fun h => (by cases h), fun _ => ⟨g, 0, rfl, hrow⟩⟩, fun x h => (by cases h; exact hbg), fun a ha hb => hu a (hn2 a ha hb) (by omega)⟩

set_option maxHeartbeats 2000000 in
theorem k_merge_own (at0 : Option Addr) (l : List Sn) (c : Nat) (hl : l.length ≤ 1000) (w : World) (h : Sl Sn.enc 3 w (.slice at0 l.length c) l) (hbad : fstB badS l = false) :
    Calls Tryz.prog 47 #[.slice at0 l.length c] w fun e w' => New w w' ∧ ∃ (R : List Sn) (a : Option Addr) (c : Nat), IsM l R ∧ R.length ≤ l.length ∧ e = .returned (.tuple #[.slice a R.length c, .int .i64 0]) ∧ Sl Sn.enc 3 w' (.slice a R.length c) R ∧ (∀ x, a = some x → w.heap.size ≤ x.block) := by
  have KP := Lib.hid (fun W n => k_pieces at0 l c (by unfold maxLen; omega) W ((h.keep (n : New w W)).row'.2.2.2.2))
  have HS := Lib.hid (fun W n => h.keep (n : New w W))
  clear h
  rw [hbad] at KP
  have HB := Lib.hid hbad.symm
  clear hbad
  go_enter Tryz.func47, Tryz.ntmps47
  go_wp2_with fail
  refine (KP.out _ (by (repeat (first | (with_reducible exact New.refl _) | (with_reducible assumption) | ((with_reducible refine New.setB ?_ ?_ _); focus (first | omega | (simp; omega) | (simp; done))) | (with_reducible refine New.alloc ?_ _) | (with_reducible refine New.drew ?_) | (with_reducible refine New.drewN ?_ _) | (with_reducible refine New.hat ?_ _) | ((with_reducible apply New.snart); (with_reducible assumption)))))).mono ?_
  rintro e w1 ⟨rfl, n1⟩
  have hn1 : New w w1 := New.trans (by (repeat (first | (with_reducible exact New.refl _) | (with_reducible assumption) | ((with_reducible refine New.setB ?_ ?_ _); focus (first | omega | (simp; omega) | (simp; done))) | (with_reducible refine New.alloc ?_ _) | (with_reducible refine New.drew ?_) | (with_reducible refine New.drewN ?_ _) | (with_reducible refine New.hat ?_ _) | ((with_reducible apply New.snart); (with_reducible assumption))))) n1
  clear n1
  have HF := Lib.hid (not_bad HB.out.symm)
  have HPT := Lib.hid (fun W n h0 => sn_part (B := w1.heap.size) (h0 : W.cell? ⟨w1.heap.size, 0, none⟩ = some (.slice at0 l.length c)) (HS.out W (hn1.trans n)))
  have hz1 := hn1.size
  go_upto_region 4 with fail
  refine (sn_concat w1.heap.size 1 [⟨at0, l, c⟩] (by simp) (by simpa using hl) _ (HPT.out _ (by (repeat (first | (with_reducible exact New.refl _) | (with_reducible assumption) | ((with_reducible refine New.setB ?_ ?_ _); focus (first | omega | (simp; omega) | (simp; done))) | (with_reducible refine New.alloc ?_ _) | (with_reducible refine New.drew ?_) | (with_reducible refine New.drewN ?_ _) | (with_reducible refine New.hat ?_ _) | ((with_reducible apply New.snart); (with_reducible assumption))))) (by go_simp))).mono ?_
  rintro e w2 ⟨v, rfl, hown, n2⟩
  simp only [List.flatMap_cons, List.flatMap_nil, List.append_nil] at hown
  have hb0 : w.heap.size ≤ (w1.alloc (.cells #[.slice at0 l.length c] 24)).heap.size := by simp; omega
  have hn2 : New w w2 := hn1.trans (New.trans (by (repeat (first | (with_reducible exact New.refl _) | (with_reducible assumption) | ((with_reducible refine New.setB ?_ ?_ _); focus (first | omega | (simp; omega) | (simp; done))) | (with_reducible refine New.alloc ?_ _) | (with_reducible refine New.drew ?_) | (with_reducible refine New.drewN ?_ _) | (with_reducible refine New.hat ?_ _) | ((with_reducible apply New.snart); (with_reducible assumption))))) n2)
  have KR := Lib.hid (k_row_own l hl (fun p hp => (HF.out p hp).2.1) _ w2 v hown)
  generalize (w1.alloc (.cells #[.slice at0 l.length c] 24)).heap.size = base at *
  clear hown n2
  go_wp2_with fail
  refine KR.out.mono ?_
  rintro e w3 ⟨rfl, hn3, hj⟩
  have KJ := Lib.hid hj
  clear hj
  go_wp2_with fail
  refine KJ.out.mono ?_
  rintro e w4 ⟨R, a, c', hR, hRl, rfl, hSl, hbl, hn4⟩
  have HE := Lib.hid (And.intro hR (And.intro hRl (And.intro hSl (And.intro (hn4 w hn2 hb0) (fun x h => Nat.le_trans hb0 (hbl x h) : ∀ x, a = some x → w.heap.size ≤ x.block)))))
  clear hR hRl hSl hn4 hbl
  go_wp2_with fail
  refine bodyPost_ret (v := .tuple #[.slice a R.length c', .int .i64 0]) (by simp [results, Tryz.results47, go_sem, *]) rfl ?_
  exact ⟨HE.out.2.2.2.1, R, a, c', HE.out.1, HE.out.2.1, rfl, HE.out.2.2.1, HE.out.2.2.2.2⟩

end Go.Proofs.YtklopjbpfddgfaaGreat

/- Package raster: one column, made of what was gathered. -/
namespace Go.Proofs.YtklopjbpfddgfaaGreat
open Go.RowKit Go.Sort
set_option linter.unusedVariables false

/-- A column of such pieces: its number, its spans. -/
def fE (l : List Sn) : Int := if 8 < (mrg l).length then 51 else 0
def fR (l : List Sn) : List Sn := if 8 < (mrg l).length then [] else mrg l
/-- Pieces that may be. -/
def FitS (l : List Sn) : Prop := ∀ p ∈ l, -2048 ≤ p.lo ∧ p.lo ≤ p.hi ∧ p.hi ≤ 2048
theorem FitS.bad {l : List Sn} (h : FitS l) : fstB badS l = false := by
  unfold fstB
  rw [List.any_eq_false]
  intro p hp
  rw [(badS_not p).2 (h p hp)]
  simp
theorem FitS.proper {l : List Sn} (h : FitS l) : Proper l := fun p hp => (h p hp).2.1

theorem own_at {a : Option Addr} {n c g : Nat} {B : Nat} (h : ∀ x, a = some x → B ≤ x.block) (e : (Value.slice a n c).ownBlock = some g) : B ≤ g := by
  cases a with
  | none => simp [Value.ownBlock] at e
  | some x =>
    have := h x rfl
    obtain rfl : x.block = g := by simpa [Value.ownBlock] using e
    exact this

set_option maxHeartbeats 1000000 in
theorem d_column (L : Nat → List Sn) (n0 G Gb N k : Nat) (hk : k < N) (hN : N ≤ 4096) (hl : (L k).length ≤ 1000) (hf : FitS (L k)) (W : World) (hb : Boxed W Gb 55 (.slice (some ⟨G, 0, none⟩) N N)) (hG : Gth 24 45 W n0 G N L) :
    Calls Tryz.prog 46 #[.int .i64 k, .pointer (some ⟨Gb, 0, none⟩)] W fun e w' => ∃ v, e = .returned (.tuple #[v, .int .i64 (fE (L k))]) ∧ Sl Sn.enc 3 w' v (fR (L k)) ∧ (∀ g, v.ownBlock = some g → W.heap.size ≤ g) ∧ New W w' := by
  obtain ⟨vs, hv⟩ := hG
  have c0 := hb.cell
  obtain ⟨c1, -⟩ := hv.cell hk
  have hS : Sl Sn.enc 3 W (vs k) (L k) := own_sl Sn.enc_len (hv.rows k hk)
  obtain ⟨at0, c, e, hrest⟩ := hS
  have hS' : Sl Sn.enc 3 W (.slice at0 (L k).length c) (L k) := ⟨at0, c, rfl, hrest⟩
  rw [e] at c1
  have HS := Lib.hid hS'
  have HB := Lib.hid hf.bad
  have HP := Lib.hid hf.proper
  have HL := Lib.hid hl
  clear hb hv hrest hS' e vs hf hl
  obtain ⟨z, hz⟩ : ∃ z, z = fE (L k) := ⟨_, rfl⟩
  rw [← hz]
  have HZ := Lib.hid hz
  clear hz
  generalize L k = l at *
  go_enter Tryz.func46, Tryz.ntmps46
  go_wp2_with fail
  refine (k_merge_own at0 l c HL.out W HS.out HB.out).mono ?_
  rintro e w1 ⟨n1, R, a, c', hM, hR, rfl, hs, hbl⟩
  have eR : R = mrg l := mrg_eq HP.out hM
  have hm : c' ≤ maxLen := hs.row'.2.2.1
  have hc' : R.length ≤ c' := hs.row'.2.1
  unfold maxLen at hm
  by_cases h8 : 8 < R.length
  · have HE : Hid (z = 51 ∧ fR l = []) := Lib.hid (by rw [HZ.out]; unfold fE fR; rw [← eR, if_pos h8, if_pos h8]; exact ⟨rfl, rfl⟩)
    have hd : ((R.length : Int) > 8) := by omega
    have H1 := Lib.hid (And.intro n1 (And.intro hs hbl))
    clear n1 hs eR hM hbl
    go_wp2_with fail
    rw [HE.out.1, HE.out.2]
    refine bodyPost_ret (v := .tuple #[.slice none 0 0, .int .i64 51]) (by simp [results, Tryz.results46, go_sem, *]) rfl ?_
    exact ⟨_, rfl, Sl.nil, fun g h => (by simp [Value.ownBlock] at h), H1.out.1⟩
  · have HE : Hid (z = 0 ∧ fR l = R) := Lib.hid (by rw [HZ.out]; unfold fE fR; rw [← eR, if_neg h8, if_neg h8]; exact ⟨rfl, rfl⟩)
    have hd : ¬ ((R.length : Int) > 8) := by omega
    have H1 := Lib.hid (And.intro n1 (And.intro hs hbl))
    clear n1 hs eR hM hbl
    go_wp2_with fail
    rw [HE.out.1, HE.out.2]
    refine bodyPost_ret (v := .tuple #[.slice a R.length c', .int .i64 0]) (by simp [results, Tryz.results46, go_sem, *]) rfl ?_
    exact ⟨_, rfl, H1.out.2.1, fun g h => own_at H1.out.2.2 h, H1.out.1⟩

end Go.Proofs.YtklopjbpfddgfaaGreat

/- Package raster: a box's columns, row by row. -/
namespace Go.Proofs.YtklopjbpfddgfaaGreat
open Go.RowKit Go.Sort
set_option linter.unusedVariables false

def oneC (u : Value) : List Value := [u]
theorem oneC_flat (us : List Value) : us.flatMap oneC = us := by
  induction us with
  | nil => rfl
  | cons u us ih => rw [List.flatMap_cons, ih]; rfl
/-- Rows of spans, in a row. -/
def RowsV (w : World) (v : Value) (L : List (List Sn)) : Prop := ∃ us : List Value, us.length = L.length ∧ Sl oneC 1 w v us ∧ ∀ j (h : j < L.length), ∃ u, us[j]? = some u ∧ Sl Sn.enc 3 w u L[j]
theorem RowsV.keep {w w' : World} {v : Value} {L : List (List Sn)} (h : RowsV w v L) (n : New w w') : RowsV w' v L := by
  obtain ⟨us, h1, h2, h3⟩ := h
  exact ⟨us, h1, h2.keep n, fun j hj => by obtain ⟨u, e, hs⟩ := h3 j hj; exact ⟨u, e, hs.keep n⟩⟩
theorem RowsV.nil {w : World} : RowsV w (.slice none 0 0) [] := ⟨[], rfl, Sl.nil, fun j h => absurd h (by simp)⟩

/-- Such a row while it is made. -/
structure RowsO (tG : TypeId) (base : Nat) (W : World) (v : Value) (us : List Value) (L : List (List Sn)) : Prop where
  len : us.length = L.length
  own : W.ownsRow base tG 1 v us.length us
  each : ∀ j (h : j < L.length), ∃ u, us[j]? = some u ∧ Sl Sn.enc 3 W u L[j] ∧ (0 < L[j].length → ∀ g, u.ownBlock = some g → v.ownBlock ≠ some g)

theorem sl_other {w w' : World} {row : Option Nat} {u : Value} {l : List Sn} (h : Sl Sn.enc 3 w u l) (hg : w.grownBy w' row) (hne : 0 < l.length → ∀ g, u.ownBlock = some g → row ≠ some g) : Sl Sn.enc 3 w' u l := by
  obtain ⟨a, c, rfl, h1, h2, h3, h4⟩ := h
  refine ⟨a, c, rfl, h1, h2, h3, fun h0 => ?_⟩
  obtain ⟨b, off, rfl, hr⟩ := h4 h0
  refine ⟨b, off, rfl, fun j hj i hi => ?_⟩
  have hc := hr j hj i hi
  have := hg.cell hc (fun e => hne h0 b (by simp [Value.ownBlock]) e.symm)
  exact this
theorem sl_lt {w : World} {u : Value} {l : List Sn} (h : Sl Sn.enc 3 w u l) (h0 : 0 < l.length) {g : Nat} (e : u.ownBlock = some g) : g < w.heap.size := by
  obtain ⟨a, c, rfl, h1, h2, h3, h4⟩ := h
  obtain ⟨b, off, rfl, hr⟩ := h4 h0
  obtain rfl : b = g := by simpa [Value.ownBlock] using e
  exact World.block_lt_of_cell? _ _ (hr 0 h0 0 (by rw [Sn.enc_len]; omega))
theorem sl_one {w : World} {u : Value} {l : List Sn} (h : Sl Sn.enc 3 w u l) : u.oneCell' = true := by
  obtain ⟨a, c, rfl, -⟩ := h
  rfl

section
variable {tG : TypeId} {base : Nat} {W W1 : World} {v v' : Value} {us : List Value} {L : List (List Sn)}
theorem RowsO.nil : RowsO tG base W (.slice none 0 0) [] [] := ⟨rfl, World.ownsRow_nil _ _ _ _, fun j h => absurd h (by simp)⟩
theorem RowsO.new (h : RowsO tG base W v us L) (n : New W W1) : RowsO tG base W1 v us L := ⟨h.len, own_new h.own n, fun j hj => by obtain ⟨u, e, hs, hn⟩ := h.each j hj; exact ⟨u, e, hs.keep n, hn⟩⟩
theorem RowsO.push (h : RowsO tG base W v us L) {u : Value} {l : List Sn} (hs : Sl Sn.enc 3 W u l) (hn : 0 < l.length → ∀ g, u.ownBlock = some g → v.ownBlock ≠ some g) (hown : W1.ownsRow base tG 1 v' (us.length + 1) (us ++ [u])) (hg : W.grownBy W1 v.ownBlock) (hat : v'.ownBlock = v.ownBlock ∨ v'.ownBlock = some W.heap.size) :
    RowsO tG base W1 v' (us ++ [u]) (L ++ [l]) := by
  have one : ∀ (x : Value) (m : List Sn), Sl Sn.enc 3 W x m → (0 < m.length → ∀ g, x.ownBlock = some g → v.ownBlock ≠ some g) → Sl Sn.enc 3 W1 x m ∧ (0 < m.length → ∀ g, x.ownBlock = some g → v'.ownBlock ≠ some g) := fun x m hx hxn =>
    ⟨sl_other hx hg hxn, fun h0 g e => by
      rcases hat with q | q
      · rw [q]; exact hxn h0 g e
      · rw [q]
        have := sl_lt hx h0 e
        intro e2
        injection e2 with e2
        omega⟩
  refine ⟨by simp [h.len], by simpa using hown, fun j hj => ?_⟩
  by_cases hjl : j < L.length
  · obtain ⟨x, e, hx, hxn⟩ := h.each j hjl
    have e2 : (L ++ [l])[j] = L[j] := List.getElem_append_left hjl
    rw [e2]
    exact ⟨x, by rw [List.getElem?_append_left (by rw [h.len]; exact hjl)]; exact e, one x _ hx hxn⟩
  · have hjl' : j = L.length := by simp at hj; omega
    subst hjl'
    have e2 : (L ++ [l])[L.length] = l := by simp
    rw [e2]
    exact ⟨u, by rw [List.getElem?_append_right (by rw [h.len]; exact Nat.le_refl _), h.len]; simp, one u _ hs hn⟩
theorem RowsO.rows (h : RowsO tG base W v us L) : RowsV W v L :=
  ⟨us, h.len, own_sl (enc := oneC) (k := 1) (l := us) (fun _ => rfl) (by rw [oneC_flat]; exact h.own), fun j hj => by obtain ⟨u, e, hs, _⟩ := h.each j hj; exact ⟨u, e, hs⟩⟩
end

/-- What build answers of n columns. -/
def anyE (L : Nat → List Sn) (n : Nat) : Bool := (List.range n).any fun k => fE (L k) != 0
def bldE (L : Nat → List Sn) (n : Nat) : Int := if anyE L n then 51 else 0
def rowsF (L : Nat → List Sn) (n : Nat) : List (List Sn) := (List.range n).map fun k => fR (L k)
def bldR (L : Nat → List Sn) (n : Nat) : List (List Sn) := if anyE L n then [] else rowsF L n
theorem rowsF_succ (L : Nat → List Sn) (n : Nat) : rowsF L (n + 1) = rowsF L n ++ [fR (L n)] := by unfold rowsF; rw [List.range_succ, List.map_append]; rfl
theorem rowsF_len (L : Nat → List Sn) (n : Nat) : (rowsF L n).length = n := by unfold rowsF; simp
theorem anyE_false {L : Nat → List Sn} {n : Nat} (h : ∀ k, k < n → fE (L k) = 0) : anyE L n = false := by
  unfold anyE
  rw [List.any_eq_false]
  intro k hk
  rw [h k (List.mem_range.1 hk)]
  simp
theorem anyE_true {L : Nat → List Sn} {n k : Nat} (hk : k < n) (h : fE (L k) ≠ 0) : anyE L n = true := List.any_eq_true.2 ⟨k, List.mem_range.2 hk, by simpa using h⟩
theorem fE_two (l : List Sn) : fE l = 0 ∨ fE l = 51 := by unfold fE; split <;> simp

theorem rows_info : (Tryz.prog.info? 24).map (fun i => (i.zero, i.size, i.bytes)) = some (some (.slice none 0 0), 1, 24) := by kernel_rfl

end Go.Proofs.YtklopjbpfddgfaaGreat
