import Derived.Test.YtdbhlepbaepngaaGreatDoorArDZ15
import Derived.Test.YtdbhlepbaepngaaGreatDoorArEZ15

/- Package area: Mark. -/
namespace Go.Proofs.YtdbhlepbaepngaaGreatDoor
open Go.RowKit
set_option linter.unusedVariables false

theorem Gd.enc_one (G : Gd) : ∀ u ∈ G.enc, u.oneCell' = true := by
  intro u hu
  simp [Gd.enc] at hu
  rcases hu with rfl | rfl | rfl | rfl | rfl <;> rfl
theorem heap_setCells_other (b : Nat) : ∀ (vs : List Value) (o : Nat) (W : World) (k : Nat), k ≠ b → (W.setCells b o vs).heap[k]? = W.heap[k]?
  | [], o, W, k, h => rfl
  | v :: vs, o, W, k, h => by rw [World.setCells, heap_setCells_other b vs _ _ k h]; exact Below.heap_setCell _ _ _ _ h
/-- The store: the world behind it under a name; all other blocks stay. -/
theorem wpList_store_blk {P : Program} {ops : Array Oper} {rest : List Oper} {op : Oper} {a : Act} {w : World} {Q : Exit → Act → World → Prop} (hgd : op.guard = none) (ty : TypeId) (x y : Operand) (ho : op.op = .store ty x y)
    (b : Nat) (cells : Array Value) (hx : a.eval x = .pointer (some ⟨b, 0, none⟩)) (hy : a.eval y = .agg cells)
    (ht : Thr w b cells.size) (hi : (P.info? ty).map (·.size) = some cells.size) (h1 : ∀ v ∈ cells.toList, v.oneCell' = true)
    (h : ∀ W, (∀ a0, New a0 w → a0.heap.size ≤ b → New a0 W) → (∀ b', b' ≠ b → W.heap[b']? = w.heap[b']?) → CellsAt W b 0 cells.toList → wpList P ops Q rest (a.put op.dst undef) W) : wpList P ops Q (op :: rest) a w := by
  have ht' : w.there b 0 cells.size := fun j hj => by
    obtain ⟨⟨v, hv⟩, hf⟩ := ht j hj
    rw [Nat.zero_add]
    exact ⟨by rw [hv]; rfl, hf⟩
  refine wpList_store_mid hgd ty x y ho b 0 cells hx hy ht' hi (all_oneCell_toArray h1) (h _ (fun a0 h0 hb => new_setCells h0 hb _ _) (fun b' hne => heap_setCells_other b _ _ _ _ hne) fun j hj => ?_)
  have := World.rangeAt_setCells_same w b 0 cells.toList (by simpa using ht')
  exact this j _ (List.getElem?_eq_getElem hj)

theorem rowsN_nil {α : Type} {enc : α → List Value} {k base : Nat} {tG tS : TypeId} {w : World} : RowsN enc k tG tS base w (.slice none 0 0) ([] : List (List α)) :=
  ⟨[], rfl, ⟨Sl.nil, fun b e => by simp [Value.ownBlock] at e⟩, fun j h => absurd h (by simp)⟩
/-- A grid is answered, or nothing beside an error. -/
def Outs (er : Int) (x z wi d : Int) (F : List (List Fl)) (w : World) (e : Ending) (w' : World) : Prop :=
  ∃ O : Gd, e = .returned (.tuple #[.agg #[.int .i64 O.x, .int .i64 O.z, .int .i64 O.w, .int .i64 O.d, .slice O.ga O.L.length O.gc], .int .i64 er]) ∧ RowsN Fl.enc 3 37 39 w.heap.size w' (.slice O.ga O.L.length O.gc) O.L ∧ (er = 0 → O.x = x ∧ O.z = z ∧ O.w = wi ∧ O.d = d ∧ O.L = F) ∧ (er ≠ 0 → O.x = 0 ∧ O.z = 0 ∧ O.w = 0 ∧ O.d = 0 ∧ O.L = []) ∧ New w w'
/-- A slice of slices, behind a store into another block of the call's own. -/
theorem rowsK_new {α : Type} {enc : α → List Value} {k : Nat} {w w' : World} {v : Value} {L : List (List α)} (h : RowsK enc k w v L) (n : New w w') : RowsK enc k w' v L := h.keep n

set_option maxHeartbeats 4000000 in
set_option maxRecDepth 100000 in
theorem ar_Mark (C : CfgR) (G : Gd) (at0 : Option Addr) (l : List BoxR) (cap : Nat) (hl : l.length ≤ maxLen) (w : World) (hN : Nowhere w) (hG : G.ok w) (H : RowIn BoxR.enc 8 w at0 l) :
    Calls Tryz.prog 6 #[.agg #[.int .i64 C.cl, .int .i64 C.cb, .int .i64 C.ht, .int .i64 C.ri, .int .i64 C.ru, .int .i64 C.wd, .int .i64 C.dp], .agg #[.int .i64 G.x, .int .i64 G.z, .int .i64 G.w, .int .i64 G.d, .slice G.ga G.L.length G.gc], .slice at0 l.length cap] w (Outs (markE C G l) G.x G.z G.w G.d (markL G l) w) := by
  have KC := Lib.hid (fun W n => ar_check C G at0 l cap hl W (hN.new (n : New w W)) (hG.keep n) (H.keep n))
  have KM := Lib.hid (fun h W n => ar_marked G h at0 l cap hl W (hG.keep (n : New w W)) (H.keep n))
  have HZ : Hid (markE C G l = 0 → gE G = 0) := Lib.hid (fun h => (markE_is h).2.1)
  have HGL : Hid (New w w → Gd.ok G w) := Lib.hid (fun _ => hG)
  generalize markE C G l = er at *
  generalize markL G l = F at *
  obtain ⟨n, hn⟩ : ∃ q, q = G.L.length := ⟨_, rfl⟩
  obtain ⟨ln, hln⟩ : ∃ q, q = l.length := ⟨_, rfl⟩
  rw [← hn] at KC KM ⊢
  rw [← hln] at KC KM ⊢
  clear hn hln hl hG H hN
  obtain ⟨Q, hQ⟩ : ∃ Q, Q = Outs er G.x G.z G.w G.d F w := ⟨_, rfl⟩
  rw [← hQ]
  have HQ := Lib.hid hQ
  clear hQ
  go_enter Tryz.func6, Tryz.ntmps6
  go_upto_region 1 with fail
  refine Code.at (fun W0 hW => ?_)
  have n0 : New w W0 := by subst hW; (repeat (first | (with_reducible exact New.refl _) | (with_reducible assumption) | ((with_reducible refine New.setB ?_ ?_ _); focus (first | omega | (simp; omega) | (simp; done))) | (with_reducible refine New.alloc ?_ _) | (with_reducible refine New.drew ?_) | (with_reducible refine New.drewN ?_ _) | (with_reducible refine New.hat ?_ _) | ((with_reducible apply New.snart); (with_reducible assumption))))
  have z0 : W0.heap.size = w.heap.size + 3 := by subst hW; simp
  have c0 : W0.cell? ⟨w.heap.size, 0, none⟩ = some (.int .i64 C.cl) := by subst hW; go_simp
  have c1 : W0.cell? ⟨w.heap.size, 1, none⟩ = some (.int .i64 C.cb) := by subst hW; go_simp
  have c2 : W0.cell? ⟨w.heap.size, 2, none⟩ = some (.int .i64 C.ht) := by subst hW; go_simp
  have c3 : W0.cell? ⟨w.heap.size, 3, none⟩ = some (.int .i64 C.ri) := by subst hW; go_simp
  have c4 : W0.cell? ⟨w.heap.size, 4, none⟩ = some (.int .i64 C.ru) := by subst hW; go_simp
  have c5 : W0.cell? ⟨w.heap.size, 5, none⟩ = some (.int .i64 C.wd) := by subst hW; go_simp
  have c6 : W0.cell? ⟨w.heap.size, 6, none⟩ = some (.int .i64 C.dp) := by subst hW; go_simp
  have bg : W0.heap[w.heap.size + 1]? = some (.cells #[.int .i64 G.x, .int .i64 G.z, .int .i64 G.w, .int .i64 G.d, .slice G.ga n G.gc] 26 (0, 0)) := by
    subst hW
    have h := World.alloc_heap_new (w.alloc (.cells #[.int .i64 C.cl, .int .i64 C.cb, .int .i64 C.ht, .int .i64 C.ri, .int .i64 C.ru, .int .i64 C.wd, .int .i64 C.dp] 23)) (.cells #[.int .i64 G.x, .int .i64 G.z, .int .i64 G.w, .int .i64 G.d, .slice G.ga n G.gc] 26)
    rw [World.size_alloc] at h
    exact ((New.refl _).alloc _).stays h
  have hth : Thr W0 (w.heap.size + 1 + 1) 5 := by
    subst hW
    exact Thr.new _ _ _ _ (by simp)
  have br : W0.heap[w.heap.size + 1 + 1]? = some (.cells #[.int .i64 0, .int .i64 0, .int .i64 0, .int .i64 0, .slice none 0 0] 26 (0, 0)) := by
    subst hW
    have h := World.alloc_heap_new ((w.alloc (.cells #[.int .i64 C.cl, .int .i64 C.cb, .int .i64 C.ht, .int .i64 C.ri, .int .i64 C.ru, .int .i64 C.wd, .int .i64 C.dp] 23)).alloc (.cells #[.int .i64 G.x, .int .i64 G.z, .int .i64 G.w, .int .i64 G.d, .slice G.ga n G.gc] 26)) (.cells #[.int .i64 0, .int .i64 0, .int .i64 0, .int .i64 0, .slice none 0 0] 26)
    rw [World.size_alloc, World.size_alloc] at h
    exact h
  clear hW
  have HBR := Lib.hid (fun W (q : New W0 W) => New.stays q br)
  have HTH := Lib.hid (fun W (q : New W0 W) => hth.keep q)
  have g0 := cell_of_heap (o := 0) (v := .int .i64 G.x) bg rfl
  have g1 := cell_of_heap (o := 1) (v := .int .i64 G.z) bg rfl
  have g2 := cell_of_heap (o := 2) (v := .int .i64 G.w) bg rfl
  have g3 := cell_of_heap (o := 3) (v := .int .i64 G.d) bg rfl
  have g4 := cell_of_heap (o := 4) (v := .slice G.ga n G.gc) bg rfl
  have HBG := Lib.hid (fun W (q : New W0 W) => New.stays q bg)
  have N0 := Lib.hid n0
  clear bg br hth n0
  go_wp2_with fail
  refine (KC.out _ N0.out).mono ?_
  rintro e W1 ⟨rfl, n1⟩
  have N1 := Lib.hid n1
  clear c0 c1 c2 c3 c4 c5 c6 g0 g1 g2 g3 g4 n1 KC
  by_cases her : er = 0
  rotate_left
  · have hne : (er != 0) = true := by rw [bne_iff_ne]; exact her
    have HER := Lib.hid her
    have hth := HTH.out _ N1.out
    clear her
    go_wp2_with (refine wpList_store_sto rfl 26 _ _ rfl _ _ rfl rfl hth (by kernel_rfl) (Gd.enc_one Gd.zero) (fun Z nZ kZ cZ => ?_))
    obtain ⟨k0, k1, k2, k3, k4⟩ := Gd.at (G := Gd.zero) cZ.at'
    have nz := nZ w (N0.out.trans N1.out) (by omega)
    clear nZ kZ cZ hth
    refine bodyPost_ret (v := .tuple #[.agg #[.int .i64 Gd.zero.x, .int .i64 Gd.zero.z, .int .i64 Gd.zero.w, .int .i64 Gd.zero.d, .slice Gd.zero.ga Gd.zero.L.length Gd.zero.gc], .int .i64 er]) (by simp [results, Tryz.results6, go_sem, *]) rfl ?_
    rw [HQ.out]
    exact ⟨Gd.zero, rfl, rowsN_nil, fun h => absurd h HER.out, fun _ => ⟨rfl, rfl, rfl, rfl, rfl⟩, nz⟩
  subst her
  have bg := HBG.out _ N1.out
  have g0 := cell_of_heap (o := 0) (v := .int .i64 G.x) bg rfl
  have g1 := cell_of_heap (o := 1) (v := .int .i64 G.z) bg rfl
  have g2 := cell_of_heap (o := 2) (v := .int .i64 G.w) bg rfl
  have g3 := cell_of_heap (o := 3) (v := .int .i64 G.d) bg rfl
  have g4 := cell_of_heap (o := 4) (v := .slice G.ga n G.gc) bg rfl
  clear bg
  go_wp2_with fail
  refine (KM.out (HZ.out trivial) _ (N0.out.trans N1.out)).mono ?_
  rintro e W2 ⟨v, rfl, hv, n2⟩
  clear g0 g1 g2 g3 g4
  have HV := Lib.hid hv
  obtain ⟨va, vc, rfl⟩ := hv.rows.shape
  obtain ⟨fn, hfn⟩ : ∃ q, q = F.length := ⟨_, rfl⟩
  rw [← hfn] at HV ⊢
  have HFN := Lib.hid hfn
  have N12 := Lib.hid (N1.out.trans n2)
  have bg := HBG.out _ N12.out
  have bgT := Lib.hid bg
  have f4 := frozen_of_heap (o := 4) bg
  have g4 := cell_of_heap (o := 4) (v := .slice G.ga n G.gc) bg rfl
  have hs := heap_setCell_same W2 (w.heap.size + 1) 4 _ _ (.slice va fn vc) bg
  have hz1 := N1.out.size
  have hz2 := n2.size
  have hth := HTH.out _ N12.out
  clear hv hfn n2 bg
  go_upto_region 5 with fail
  refine Code.at (fun W3 hW => ?_)
  have nb : ∀ b, b ≠ w.heap.size + 1 → W3.heap[b]? = W2.heap[b]? := fun b hb => by subst hW; exact Below.heap_setCell _ _ _ _ hb
  have hrt := Lib.hid ((nb (w.heap.size + 1 + 1) (by omega)).trans (HBR.out _ N12.out))
  have q := hs
  rw [← hW] at q
  have hth3 : Thr W3 (w.heap.size + 1 + 1) 5 := fun j hj => by
    obtain ⟨⟨u, hu⟩, hf⟩ := hth j hj
    exact ⟨⟨u, (World.cell?_of_block (nb _ (by show w.heap.size + 1 + 1 ≠ _; omega))).trans hu⟩, (World.frozen?_of_block (nb _ (by show w.heap.size + 1 + 1 ≠ _; omega))).trans hf⟩
  have n3 : New w W3 := by subst hW; exact New.setB (p := ⟨w.heap.size + 1, 4, none⟩) (by show w.heap.size ≤ w.heap.size + 1; omega) (N0.out.trans N12.out) _
  have HV3 := Lib.hid (HV.out.kept (W := W3) (fun b cs t hb ht hc => nb b (fun e => by subst e; rw [bgT.out] at hc; injection hc with hc; injection hc with _ hc; rcases ht with rfl | rfl <;> exact absurd hc (by decide))))
  clear hW hs nb hth g4 f4
  have g0 := cell_of_heap (o := 0) (v := .int .i64 G.x) q rfl
  have g1 := cell_of_heap (o := 1) (v := .int .i64 G.z) q rfl
  have g2 := cell_of_heap (o := 2) (v := .int .i64 G.w) q rfl
  have g3 := cell_of_heap (o := 3) (v := .int .i64 G.d) q rfl
  have g4 := cell_of_heap (o := 4) (v := .slice va fn vc) q rfl
  clear q
  obtain ⟨O, hO⟩ : ∃ O : Gd, O = ⟨G.x, G.z, G.w, G.d, F, va, vc⟩ := ⟨_, rfl⟩
  have e0 : O.x = G.x := by rw [hO]
  have e1 : O.z = G.z := by rw [hO]
  have e2 : O.w = G.w := by rw [hO]
  have e3 : O.d = G.d := by rw [hO]
  have e4 : O.L = F := by rw [hO]
  have e5 : O.ga = va := by rw [hO]
  have e6 : O.gc = vc := by rw [hO]
  have HO := Lib.hid (And.intro e0 (And.intro e1 (And.intro e2 (And.intro e3 e4))))
  rw [HFN.out] at HV3 g4
  rw [← e4, ← e5, ← e6] at HV3 g4
  rw [← e0] at g0
  rw [← e1] at g1
  rw [← e2] at g2
  rw [← e3] at g3
  clear hO e0 e1 e2 e3 e4 e5 e6
  go_wp2_with (refine wpList_store_blk rfl 26 _ _ rfl _ _ rfl rfl hth3 (by kernel_rfl) (Gd.enc_one O) (fun Z nZ kZ cZ => ?_))
  obtain ⟨k0, k1, k2, k3, k4⟩ := Gd.at (G := O) cZ
  have nz := nZ w n3 (by omega)
  have HVZ := Lib.hid (HV3.out.kept (W := Z) (fun b cs t hb ht hc => kZ b (fun e => by subst e; rw [hrt.out] at hc; injection hc with hc; injection hc with _ hc; rcases ht with rfl | rfl <;> exact absurd hc (by decide))))
  clear nZ kZ cZ hth3 g0 g1 g2 g3 g4
  refine bodyPost_ret (v := .tuple #[.agg #[.int .i64 O.x, .int .i64 O.z, .int .i64 O.w, .int .i64 O.d, .slice O.ga O.L.length O.gc], .int .i64 0]) (by simp [results, Tryz.results6, go_sem, *]) rfl ?_
  rw [HQ.out]
  exact ⟨O, rfl, HVZ.out.mono (by omega), fun _ => HO.out, fun h => absurd rfl h, nz⟩

end Go.Proofs.YtdbhlepbaepngaaGreatDoor
