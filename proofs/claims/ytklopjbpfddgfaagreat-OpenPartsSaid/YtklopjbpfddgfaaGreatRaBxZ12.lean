import Derived.Test.YtklopjbpfddgfaaGreatOgIZ12
import Derived.RangeFuncNested
import Derived.Test.YtklopjbpfddgfaaGreatTriGZ12
import Derived.Test.YtklopjbpfddgfaaGreatSteadyZ12
import Derived.Test.YtklopjbpfddgfaaGreatSoBZ12
import Derived.Test.YtklopjbpfddgfaaGreatRaRZ12

/- Package open: columnsOf, at. -/
namespace Go.Proofs.YtklopjbpfddgfaaGreat
open Go.RowKit
set_option linter.unusedVariables false

def Gd.zero : Gd := ⟨0, 0, 0, 0, [], none, 0⟩
theorem Gd.zero_ok (w : World) : Gd.zero.ok w := RowsK.nil
theorem Gd.zero_E : gE Gd.zero = 0 := by kernel_rfl
theorem Gd.ok.keep {G : Gd} {w w' : World} (h : G.ok w) (n : New w w') : G.ok w' := RowsK.keep h n
/-- A grid's columns: of one that may not be there are none. -/
def colG (G : Gd) : Gd := if gE G = 0 then G else Gd.zero
theorem colG_ok {G : Gd} {w : World} (h : G.ok w) : (colG G).ok w := by
  unfold colG
  split
  · exact h
  · exact Gd.zero_ok w
theorem colG_E (G : Gd) : gE (colG G) = 0 := by
  unfold colG
  split
  · rename_i h; exact h
  · exact Gd.zero_E

end Go.Proofs.YtklopjbpfddgfaaGreat

/- Rows of rows while they are made. No function of the program in sight. -/
namespace Go.Proofs.YtklopjbpfddgfaaGreat
open Go.RowKit
set_option linter.unusedVariables false

section
variable {α : Type} {enc : α → List Value} {k : Nat}
structure RowsOK (enc : α → List Value) (k : Nat) (tG : TypeId) (base : Nat) (W : World) (v : Value) (us : List Value) (L : List (List α)) : Prop where
  len : us.length = L.length
  own : W.ownsRow base tG 1 v us.length us
  each : ∀ j (h : j < L.length), ∃ u, us[j]? = some u ∧ Sl enc k W u L[j] ∧ (0 < L[j].length → ∀ g, u.ownBlock = some g → v.ownBlock ≠ some g)
theorem slk_other {w w' : World} {row : Option Nat} {u : Value} {l : List α} (h : Sl enc k w u l) (hg : w.grownBy w' row) (hne : 0 < l.length → ∀ g, u.ownBlock = some g → row ≠ some g) : Sl enc k w' u l := by
  obtain ⟨a, c, rfl, h1, h2, h3, h4⟩ := h
  refine ⟨a, c, rfl, h1, h2, h3, fun h0 => ?_⟩
  obtain ⟨b, off, rfl, hr⟩ := h4 h0
  refine ⟨b, off, rfl, fun j hj i hi => ?_⟩
  have hc := hr j hj i hi
  exact hg.cell hc (fun e => hne h0 b (by simp [Value.ownBlock]) e.symm)
theorem slk_lt (hk : ∀ a, (enc a).length = k) (hk0 : 0 < k) {w : World} {u : Value} {l : List α} (h : Sl enc k w u l) (h0 : 0 < l.length) {g : Nat} (e : u.ownBlock = some g) : g < w.heap.size := by
  obtain ⟨a, c, rfl, h1, h2, h3, h4⟩ := h
  obtain ⟨b, off, rfl, hr⟩ := h4 h0
  obtain rfl : b = g := by simpa [Value.ownBlock] using e
  exact World.block_lt_of_cell? _ _ (hr 0 h0 0 (by rw [hk]; exact hk0))
theorem slk_one {w : World} {u : Value} {l : List α} (h : Sl enc k w u l) : u.oneCell' = true := by
  obtain ⟨a, c, rfl, -⟩ := h
  rfl
variable {tG : TypeId} {base : Nat} {W W1 : World} {v v' : Value} {us : List Value} {L : List (List α)}
theorem RowsOK.nil : RowsOK enc k tG base W (.slice none 0 0) [] [] := ⟨rfl, World.ownsRow_nil _ _ _ _, fun j h => absurd h (by simp)⟩
theorem RowsOK.new (h : RowsOK enc k tG base W v us L) (n : New W W1) : RowsOK enc k tG base W1 v us L := ⟨h.len, own_new h.own n, fun j hj => by obtain ⟨u, e, hs, hn⟩ := h.each j hj; exact ⟨u, e, hs.keep n, hn⟩⟩
theorem RowsOK.push (hk : ∀ a, (enc a).length = k) (hk0 : 0 < k) (h : RowsOK enc k tG base W v us L) {u : Value} {l : List α} (hs : Sl enc k W u l) (hn : 0 < l.length → ∀ g, u.ownBlock = some g → v.ownBlock ≠ some g) (hown : W1.ownsRow base tG 1 v' (us.length + 1) (us ++ [u])) (hg : W.grownBy W1 v.ownBlock) (hat : v'.ownBlock = v.ownBlock ∨ v'.ownBlock = some W.heap.size) :
    RowsOK enc k tG base W1 v' (us ++ [u]) (L ++ [l]) := by
  have one : ∀ (x : Value) (m : List α), Sl enc k W x m → (0 < m.length → ∀ g, x.ownBlock = some g → v.ownBlock ≠ some g) → Sl enc k W1 x m ∧ (0 < m.length → ∀ g, x.ownBlock = some g → v'.ownBlock ≠ some g) := fun x m hx hxn =>
    ⟨slk_other hx hg hxn, fun h0 g e => by
      rcases hat with q | q
      · rw [q]; exact hxn h0 g e
      · rw [q]
        have := slk_lt hk hk0 hx h0 e
        intro e2
        injection e2 with e2
        omega⟩
  refine ⟨by simp [h.len], by simpa using hown, fun j hj => ?_⟩
  by_cases hjl : j < L.length
  · obtain ⟨x, e, hx, hxn⟩ := h.each j hjl
    have e2 : (L ++ [l])[j] = L[j] := List.getElem_append_left hjl
    rw [e2]
    exact ⟨x, by rw [List.getElem?_append_left (by rw [h.len]; exact hjl)]; exact e, one x _ hx hxn⟩
  · have hjl' : j = L.length := by simp at hj; omega
    subst hjl'
    have e2 : (L ++ [l])[L.length] = l := by simp
    rw [e2]
    exact ⟨u, by rw [List.getElem?_append_right (by rw [h.len]; exact Nat.le_refl _), h.len]; simp, one u _ hs hn⟩
/-- A store into a block below the rows' own. -/
theorem RowsOK.put (hk : ∀ a, (enc a).length = k) (hk0 : 0 < k) (h : RowsOK enc k tG base W v us L) {p : Addr} (hp : p.block < base) (hb : ∀ j (hj : j < L.length), 0 < L[j].length → ∀ u, us[j]? = some u → u.ownBlock ≠ some p.block) (x : Value) : RowsOK enc k tG base (W.setCell p x) v us L := by
  refine ⟨h.len, ownsRow_setCell_below h.own hp x, fun j hj => ?_⟩
  obtain ⟨u, e, hs, hn⟩ := h.each j hj
  refine ⟨u, e, ?_, hn⟩
  obtain ⟨a, c, rfl, h1, h2, h3, h4⟩ := hs
  refine ⟨a, c, rfl, h1, h2, h3, fun h0 => ?_⟩
  obtain ⟨b, off, rfl, hr⟩ := h4 h0
  have hne : b ≠ p.block := fun q => hb j hj h0 _ e (by simp [Value.ownBlock, q])
  refine ⟨b, off, rfl, fun i hi q hq => ?_⟩
  rw [World.cell?_of_block (a := ⟨b, off + i * k + q, none⟩) (Below.heap_setCell _ _ _ _ hne)]
  exact hr i hi q hq
theorem RowsOK.rows (h : RowsOK enc k tG base W v us L) : RowsK enc k W v L :=
  ⟨us, h.len, own_sl (enc := oneV) (k := 1) (l := us) (fun _ => rfl) (by rw [oneV_flat]; exact h.own), fun j hj => by obtain ⟨u, e, hs, _⟩ := h.each j hj; exact ⟨u, e, hs⟩⟩
end

end Go.Proofs.YtklopjbpfddgfaaGreat

/- Package raster: Box. -/
namespace Go.Proofs.YtklopjbpfddgfaaGreat
open Go.RowKit Go.Sort
set_option linter.unusedVariables false

theorem any_E (C : CfgR) (l : List TriR) (b : Bx) (n : Nat) : anyE (atL C l b) n = anyF C l b.x b.z b.w n := by
  unfold anyE anyF
  congr 1
  funext k
  unfold atL atF
  rw [fE_full]
  cases fullB C l (plX b.x b.w k) (plZ b.z b.w k) <;> rfl
theorem bld_E (C : CfgR) (l : List TriR) (b : Bx) (n : Nat) : bldE (atL C l b) n = if anyF C l b.x b.z b.w n then 51 else 0 := by unfold bldE; rw [any_E]
theorem bld_R {C : CfgR} {l : List TriR} {b : Bx} {n : Nat} (h : anyF C l b.x b.z b.w n = false) : bldR (atL C l b) n = rowsL C l b.x b.z b.w n := by
  have h' := h
  rw [← any_E] at h
  unfold bldR
  rw [h]
  unfold rowsF rowsL
  simp only [Bool.false_eq_true, if_false]
  refine List.map_congr_left fun k hk => ?_
  unfold atL atQ
  rw [fR_full]
  unfold anyF at h'
  rw [List.any_eq_false] at h'
  have := h' k hk
  unfold atF at this
  rw [if_neg this]
theorem bx_ok {x z w d : Int} (h : boxB x z w d = true) : (⟨x, z, w, d⟩ : Bx).ok := by
  have := boxB_iff.1 h
  refine ⟨?_, ?_, ?_, ?_, ?_, ?_, ?_, ?_⟩ <;> (dsimp only; (try unfold i64B); omega)

set_option maxHeartbeats 1000000 in
theorem r_bx (C : CfgR) (at0 : Option Addr) (l : List TriR) (cap : Nat) (hl : l.length ≤ maxLen) (x z wi d : Int) (w : World) (H : RowIn TriR.enc 10 w at0 l) :
    Calls Tryz.prog 19 #[.agg #[.int .i64 C.cl, .int .i64 C.cb, .int .i64 C.ht, .int .i64 C.ri, .int .i64 C.ru, .int .i64 C.wd, .int .i64 C.dp], .slice at0 l.length cap, .int .i64 x, .int .i64 z, .int .i64 wi, .int .i64 d] w fun e w' =>
      ∃ v, e = .returned (.tuple #[v, .int .i64 (bE C l x z wi d)]) ∧ RowsV w' v (bR C l x z wi d) ∧ New w w' := by
  have HC := Lib.hid (fun W (n : New w W) => c_check C at0 l cap hl W (H.keep n))
  have KM := Lib.hid (fun W => a_may x z wi d W)
  obtain ⟨ev, hev⟩ : ∃ ev, ev = rchk C l := ⟨_, rfl⟩
  rw [← hev] at HC
  by_cases h0 : ev = 0
  · have h0' : rchk C l = 0 := by rw [← hev]; exact h0
    subst h0
    obtain ⟨k1, k2, k3⟩ := rchk_zero h0'
    cases hb : boxB x z wi d
    · rw [hb] at KM
      obtain ⟨e1, e2⟩ := b_not (x := x) (z := z) (w := wi) (d := d) h0' hb
      rw [e1, e2]
      clear e1 e2 k1 k2 k3 hb h0'
      go_enter Tryz.func19, Tryz.ntmps19
      go_wp2_with fail
      generalize hW : World.alloc (World.alloc _ _) _ = W1
      have n1 : New w W1 := by subst hW; (repeat (first | (with_reducible exact New.refl _) | (with_reducible assumption) | ((with_reducible refine New.setB ?_ ?_ _); focus (first | omega | (simp; omega) | (simp; done))) | (with_reducible refine New.alloc ?_ _) | (with_reducible refine New.drew ?_) | (with_reducible refine New.drewN ?_ _) | (with_reducible refine New.hat ?_ _) | ((with_reducible apply New.snart); (with_reducible assumption))))
      have hC1 : W1.heap[w.heap.size]? = some (.cells (cfgA C) 23 (0, 0)) := by subst hW; exact ((New.refl _).alloc _).blk (World.alloc_heap_new w _)
      have hB1 : W1.heap[w.heap.size + 1]? = some (.cells (boxA ⟨x, z, wi, d⟩) 68 (0, 0)) := by
        subst hW
        have h := World.alloc_heap_new (w.alloc (.cells (cfgA C) 23)) (.cells (boxA ⟨x, z, wi, d⟩) 68)
        rw [World.size_alloc] at h
        exact h
      clear hW
      refine (HC.out _ n1).mono ?_
      rintro e w2 ⟨rfl, n2⟩
      obtain ⟨b0, b1, b2, b3⟩ := box_cs (n2.blk hB1)
      go_wp2_with fail
      refine (KM.out _).mono ?_
      rintro e w3 ⟨rfl, n3⟩
      clear b0 b1 b2 b3
      have N3 := Lib.hid (n1.trans (n2.trans n3))
      clear n1 n2 n3 hC1 hB1
      go_wp2_with fail
      refine bodyPost_ret (v := .tuple #[.slice none 0 0, .int .i64 2]) (by simp [results, Tryz.results19, go_sem, *]) rfl ?_
      exact ⟨_, rfl, RowsV.nil, N3.out⟩
    · rw [hb] at KM
      have KK := Lib.hid (fun W (n : New w W) => callsIn_wide.1 (k_columns_ok C (CfgR.fine_of k1) ⟨x, z, wi, d⟩ (bx_ok hb) at0 l cap k2 (fun T hT => mayT_ok (CfgR.fine_of k1) (k3 T hT)) W (H.keep n)))
      rw [bld_E] at KK
      have hbn : (⟨x, z, wi, d⟩ : Bx).n = (wi * d).toNat := rfl
      have HE : Hid (bE C l x z wi d = (if anyF C l x z wi (⟨x, z, wi, d⟩ : Bx).n then 51 else 0) ∧ bR C l x z wi d = bldR (atL C l ⟨x, z, wi, d⟩) (⟨x, z, wi, d⟩ : Bx).n) := Lib.hid (by
        rw [hbn]
        cases hf : anyF C l x z wi (wi * d).toNat
        · obtain ⟨e1, e2⟩ := b_fine h0' hb hf
          rw [e1, e2, bld_R (b := ⟨x, z, wi, d⟩) hf]
          exact ⟨rfl, rfl⟩
        · obtain ⟨e1, e2⟩ := b_full h0' hb hf
          rw [e1, e2]
          refine ⟨rfl, ?_⟩
          unfold bldR
          rw [any_E]
          simp only [hf, if_true])
      rw [HE.out.1, HE.out.2]
      clear hb h0' k1 k2 k3 hbn
      generalize (if anyF C l x z wi (⟨x, z, wi, d⟩ : Bx).n then (51 : Int) else 0) = ee at *
      generalize bldR (atL C l ⟨x, z, wi, d⟩) (⟨x, z, wi, d⟩ : Bx).n = LL at *
      go_enter Tryz.func19, Tryz.ntmps19
      go_wp2_with fail
      generalize hW : World.alloc (World.alloc _ _) _ = W1
      have n1 : New w W1 := by subst hW; (repeat (first | (with_reducible exact New.refl _) | (with_reducible assumption) | ((with_reducible refine New.setB ?_ ?_ _); focus (first | omega | (simp; omega) | (simp; done))) | (with_reducible refine New.alloc ?_ _) | (with_reducible refine New.drew ?_) | (with_reducible refine New.drewN ?_ _) | (with_reducible refine New.hat ?_ _) | ((with_reducible apply New.snart); (with_reducible assumption))))
      have hC1 : W1.heap[w.heap.size]? = some (.cells (cfgA C) 23 (0, 0)) := by subst hW; exact ((New.refl _).alloc _).blk (World.alloc_heap_new w _)
      have hB1 : W1.heap[w.heap.size + 1]? = some (.cells (boxA ⟨x, z, wi, d⟩) 68 (0, 0)) := by
        subst hW
        have h := World.alloc_heap_new (w.alloc (.cells (cfgA C) 23)) (.cells (boxA ⟨x, z, wi, d⟩) 68)
        rw [World.size_alloc] at h
        exact h
      clear hW
      refine (HC.out _ n1).mono ?_
      rintro e w2 ⟨rfl, n2⟩
      obtain ⟨b0, b1, b2, b3⟩ := box_cs (n2.blk hB1)
      go_wp2_with fail
      refine (KM.out _).mono ?_
      rintro e w3 ⟨rfl, n3⟩
      clear b0 b1 b2 b3
      obtain ⟨c0, c1, c2, c3, c4, c5, c6⟩ := cfg_cs (n3.blk (n2.blk hC1))
      obtain ⟨b0, b1, b2, b3⟩ := box_cs (n3.blk (n2.blk hB1))
      have N3 := Lib.hid (n1.trans (n2.trans n3))
      clear n1 n2 n3 hC1 hB1
      go_wp2_with fail
      clear b0 b1 b2 b3 c0 c1 c2 c3 c4 c5 c6
      refine (KK.out _ N3.out).mono ?_
      rintro e w4 ⟨v, rfl, hr, n4⟩
      have HR := Lib.hid hr
      obtain ⟨us, -, ⟨va, vc, rfl, -⟩, -⟩ := hr
      have N4 := Lib.hid (N3.out.trans n4)
      clear n4
      go_wp2_with fail
      refine bodyPost_ret (v := .tuple #[.slice va us.length vc, .int .i64 ee]) (by simp [results, Tryz.results19, go_sem, *]) rfl ?_
      exact ⟨_, rfl, HR.out, N4.out⟩
  · have h0' : rchk C l ≠ 0 := by rw [← hev]; exact h0
    obtain ⟨e1, e2⟩ := b_no (x := x) (z := z) (w := wi) (d := d) h0'
    rw [e1, e2, ← hev]
    clear e1 e2 h0' hev
    have hb : (ev == 0) = false := by rw [beq_eq_false_iff_ne]; exact h0
    have hb2 : (ev != 0) = true := by rw [bne_iff_ne]; exact h0
    go_enter Tryz.func19, Tryz.ntmps19
    go_wp2_with fail
    generalize hW : World.alloc (World.alloc _ _) _ = W1
    have n1 : New w W1 := by subst hW; (repeat (first | (with_reducible exact New.refl _) | (with_reducible assumption) | ((with_reducible refine New.setB ?_ ?_ _); focus (first | omega | (simp; omega) | (simp; done))) | (with_reducible refine New.alloc ?_ _) | (with_reducible refine New.drew ?_) | (with_reducible refine New.drewN ?_ _) | (with_reducible refine New.hat ?_ _) | ((with_reducible apply New.snart); (with_reducible assumption))))
    have hC1 : W1.heap[w.heap.size]? = some (.cells (cfgA C) 23 (0, 0)) := by subst hW; exact ((New.refl _).alloc _).blk (World.alloc_heap_new w _)
    have hB1 : W1.heap[w.heap.size + 1]? = some (.cells (boxA ⟨x, z, wi, d⟩) 68 (0, 0)) := by
      subst hW
      have h := World.alloc_heap_new (w.alloc (.cells (cfgA C) 23)) (.cells (boxA ⟨x, z, wi, d⟩) 68)
      rw [World.size_alloc] at h
      exact h
    clear hW
    refine (HC.out _ n1).mono ?_
    rintro e w2 ⟨rfl, n2⟩
    have N3 := Lib.hid (n1.trans n2)
    clear n1 n2 hC1 hB1
    go_wp2_with fail
    refine bodyPost_ret (v := .tuple #[.slice none 0 0, .int .i64 ev]) (by simp [results, Tryz.results19, go_sem, *]) rfl ?_
    exact ⟨_, rfl, RowsV.nil, N3.out⟩

end Go.Proofs.YtklopjbpfddgfaaGreat
