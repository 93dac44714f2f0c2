import Derived.Test.YtklopjbpfddgfaaGreatRaBxZ12
import Derived.Test.YtklopjbpfddgfaaGreatOgCZ12
import Derived.Test.YtklopjbpfddgfaaGreatLooseZ12
import Derived.Maps.AppendAt

/- Package open: Build. -/
namespace Go.Proofs.YtklopjbpfddgfaaGreat
open Go.RowKit
set_option linter.unusedVariables false

theorem rowsf_info : (Tryz.prog.info? 28).map (fun i => (i.zero, i.size, i.bytes)) = some (some (.slice none 0 0), 1, 24) := by kernel_rfl
theorem bR_len (C : CfgR) (l : List TriR) (x z wi d : Int) : (bR C l x z wi d).length ≤ 4096 := by
  unfold bR
  split
  · rename_i h
    have hb : boxB x z wi d = true := by
      cases hb : boxB x z wi d with
      | true => rfl
      | false =>
        unfold bE at h
        split at h
        · rename_i h1; exact absurd h h1
        · rw [hb] at h; simp at h
    rw [rowsL_len]
    exact Bx.n_le (bx_ok hb)
  · simp
/-- The floors of a box's columns. -/
def bF (C : CfgR) (l : List TriR) (x z wi d : Int) : List (List Fl) := (bR C l x z wi d).map (flX C)

theorem fz_of {W : World} {B : Nat} {cs : Array Value} {t : TypeId} (h : W.heap[B]? = some (.cells cs t (0, 0))) (o : Nat) : W.frozen? ⟨B, o, none⟩ = false := by simp [World.frozen?, h]
/-- A grid that is made: in a block of its own. -/
structure GdAt (W : World) (B : Nat) (x z wi d : Int) (v : Value) : Prop where
  c0 : W.cell? ⟨B, 0, none⟩ = some (.int .i64 x)
  c1 : W.cell? ⟨B, 1, none⟩ = some (.int .i64 z)
  c2 : W.cell? ⟨B, 2, none⟩ = some (.int .i64 wi)
  c3 : W.cell? ⟨B, 3, none⟩ = some (.int .i64 d)
  c4 : W.cell? ⟨B, 4, none⟩ = some v
  fz : W.frozen? ⟨B, 4, none⟩ = false
theorem GdAt.new {W W' : World} {B : Nat} {x z wi d : Int} {v : Value} (h : GdAt W B x z wi d v) (n : New W W') : GdAt W' B x z wi d v :=
  ⟨n.keep h.c0, n.keep h.c1, n.keep h.c2, n.keep h.c3, n.keep h.c4, n.keepF h.c4 h.fz⟩
theorem GdAt.blk {W W' : World} {B : Nat} {x z wi d : Int} {v : Value} (h : GdAt W B x z wi d v) (n : W'.heap[B]? = W.heap[B]?) : GdAt W' B x z wi d v :=
  ⟨(World.cell?_of_block (a := ⟨B, 0, none⟩) n).trans h.c0, (World.cell?_of_block (a := ⟨B, 1, none⟩) n).trans h.c1, (World.cell?_of_block (a := ⟨B, 2, none⟩) n).trans h.c2, (World.cell?_of_block (a := ⟨B, 3, none⟩) n).trans h.c3, (World.cell?_of_block (a := ⟨B, 4, none⟩) n).trans h.c4, frozen_block n h.fz⟩
theorem GdAt.put {W : World} {B : Nat} {x z wi d : Int} {v : Value} (h : GdAt W B x z wi d v) (u : Value) : GdAt (W.setCell ⟨B, 4, none⟩ u) B x z wi d u := by
  have o : ∀ (i : Nat) (t : Value), i ≠ 4 → W.cell? ⟨B, i, none⟩ = some t → (W.setCell ⟨B, 4, none⟩ u).cell? ⟨B, i, none⟩ = some t := fun i t hi hc => by
    rw [World.cell?_setCell_other _ _ _ _ (by intro e; injection e with _ e2; omega)]; exact hc
  exact ⟨o 0 _ (by omega) h.c0, o 1 _ (by omega) h.c1, o 2 _ (by omega) h.c2, o 3 _ (by omega) h.c3, World.cell?_setCell_same _ _ _ h.c4, by rw [World.frozen?_setCell]; exact h.fz⟩

/-- What Build answers: a grid of these floors, or nothing beside an error. -/
def Built (er : Int) (x z wi d : Int) (F : List (List Fl)) (w : World) (e : Ending) (w' : World) : Prop :=
  ∃ G : Gd, e = .returned (.tuple #[.agg #[.int .i64 G.x, .int .i64 G.z, .int .i64 G.w, .int .i64 G.d, .slice G.ga G.L.length G.gc], .int .i64 er]) ∧ G.ok w' ∧ (er = 0 → G.x = x ∧ G.z = z ∧ G.w = wi ∧ G.d = d ∧ G.L = F) ∧ (er ≠ 0 → G.x = 0 ∧ G.z = 0 ∧ G.w = 0 ∧ G.d = 0 ∧ G.L = []) ∧ New w w'

set_option maxHeartbeats 4000000 in
set_option maxRecDepth 100000 in
theorem og_build (C : CfgR) (at0 : Option Addr) (l : List TriR) (cap : Nat) (hl : l.length ≤ maxLen) (x z wi d : Int) (w : World) (H : RowIn TriR.enc 10 w at0 l) :
    Calls Tryz.prog 9 #[.agg #[.int .i64 C.cl, .int .i64 C.cb, .int .i64 C.ht, .int .i64 C.ri, .int .i64 C.ru, .int .i64 C.wd, .int .i64 C.dp], .slice at0 l.length cap, .int .i64 x, .int .i64 z, .int .i64 wi, .int .i64 d] w (Built (bE C l x z wi d) x z wi d (bF C l x z wi d) w) := by
  obtain ⟨i0, hi, hz0, hz1, hz2⟩ := info_parts rowsf_info
  have KB := Lib.hid (fun W n => r_bx C at0 l cap hl x z wi d W (H.keep (n : New w W)))
  have KF := Lib.hid (fun a r c W h => og_floors C a r c W h)
  have KG := Lib.hid (fun a r c Bc Bl W h => og_gather C a r c Bc Bl W h)
  have hRl := bR_len C l x z wi d
  have HF : Hid (bF C l x z wi d = (bR C l x z wi d).map (flX C)) := Lib.hid rfl
  generalize bF C l x z wi d = F at *
  generalize bR C l x z wi d = R at *
  generalize bE C l x z wi d = er at *
  obtain ⟨tn, htn⟩ : ∃ q, q = l.length := ⟨_, rfl⟩
  rw [← htn] at KB ⊢
  clear htn H hl
  obtain ⟨Q, hQ⟩ : ∃ Q, Q = Built er x z wi d F w := ⟨_, rfl⟩
  rw [← hQ]
  have HQ := Lib.hid hQ
  clear hQ
  go_enter Tryz.func9, Tryz.ntmps9
  go_upto_region 1 with fail
  refine Code.at (fun W0 hW => ?_)
  have n0 : New w W0 := by subst hW; (repeat (first | (with_reducible exact New.refl _) | (with_reducible assumption) | ((with_reducible refine New.setB ?_ ?_ _); focus (first | omega | (simp; omega) | (simp; done))) | (with_reducible refine New.alloc ?_ _) | (with_reducible refine New.drew ?_) | (with_reducible refine New.drewN ?_ _) | (with_reducible refine New.hat ?_ _) | ((with_reducible apply New.snart); (with_reducible assumption))))
  have hc : CellsAt W0 w.heap.size 0 C.enc := by subst hW; exact (cells_new w _ _).keep (by (repeat (first | (with_reducible exact New.refl _) | (with_reducible assumption) | ((with_reducible refine New.setB ?_ ?_ _); focus (first | omega | (simp; omega) | (simp; done))) | (with_reducible refine New.alloc ?_ _) | (with_reducible refine New.drew ?_) | (with_reducible refine New.drewN ?_ _) | (with_reducible refine New.hat ?_ _) | ((with_reducible apply New.snart); (with_reducible assumption)))))
  have r0 : W0.heap[w.heap.size + 1]? = some (.cells #[.int .i64 0, .int .i64 0, .int .i64 0, .int .i64 0, .slice none 0 0] 34 (0, 0)) := by
    subst hW
    have h := World.alloc_heap_new (w.alloc (.cells #[.int .i64 C.cl, .int .i64 C.cb, .int .i64 C.ht, .int .i64 C.ri, .int .i64 C.ru, .int .i64 C.wd, .int .i64 C.dp] 23)) (.cells #[.int .i64 0, .int .i64 0, .int .i64 0, .int .i64 0, .slice none 0 0] 34)
    rw [World.size_alloc] at h
    exact h
  have z0 : W0.heap.size = w.heap.size + 2 := by subst hW; simp
  clear hW
  have HC := Lib.hid (fun W (q : New W0 W) => CfgR.at (hc.keep q))
  have HR0 := Lib.hid (fun W (q : New W0 W) => (q.block _ (Array.getElem?_eq_some_iff.1 r0).1).trans r0)
  have N0 := Lib.hid n0
  obtain ⟨c0, c1, c2, c3, c4, c5, c6⟩ := CfgR.at hc
  go_wp2_with fail
  refine (KB.out _ n0).mono ?_
  rintro e W1 ⟨v, rfl, hrows, n1⟩
  clear c0 c1 c2 c3 c4 c5 c6 hc r0 n0
  have hK : RowsK Sn.enc 3 W1 v R := hrows
  clear hrows
  obtain ⟨sa, sc, rfl⟩ := hK.shape
  have HROWS := Lib.hid hK
  have q0 := HR0.out _ n1
  have N1 := Lib.hid n1
  clear hK n1
  by_cases her : er = 0
  rotate_left
  · have hne : (er != 0) = true := by rw [bne_iff_ne]; exact her
    have HER := Lib.hid her
    clear her
    have y0 : W1.cell? ⟨w.heap.size + 1, 0, none⟩ = some (.int .i64 0) := cell_of_heap q0 rfl
    have y1 : W1.cell? ⟨w.heap.size + 1, 1, none⟩ = some (.int .i64 0) := cell_of_heap q0 rfl
    have y2 : W1.cell? ⟨w.heap.size + 1, 2, none⟩ = some (.int .i64 0) := cell_of_heap q0 rfl
    have y3 : W1.cell? ⟨w.heap.size + 1, 3, none⟩ = some (.int .i64 0) := cell_of_heap q0 rfl
    have y4 : W1.cell? ⟨w.heap.size + 1, 4, none⟩ = some (.slice none 0 0) := cell_of_heap q0 rfl
    have f0 : W1.frozen? ⟨w.heap.size + 1, 0, none⟩ = false := by simp [World.frozen?, q0]
    have f1 : W1.frozen? ⟨w.heap.size + 1, 1, none⟩ = false := by simp [World.frozen?, q0]
    have f2 : W1.frozen? ⟨w.heap.size + 1, 2, none⟩ = false := by simp [World.frozen?, q0]
    have f3 : W1.frozen? ⟨w.heap.size + 1, 3, none⟩ = false := by simp [World.frozen?, q0]
    have f4 : W1.frozen? ⟨w.heap.size + 1, 4, none⟩ = false := by simp [World.frozen?, q0]
    have nn := N0.out.trans N1.out
    clear q0
    go_wp2_with fail
    generalize hW5 : World.setCell _ _ _ = W5
    have n5 : New w W5 := by subst hW5; (repeat (first | (with_reducible exact New.refl _) | (with_reducible assumption) | ((with_reducible refine New.setB ?_ ?_ _); focus (first | omega | (simp; omega) | (simp; done))) | (with_reducible refine New.alloc ?_ _) | (with_reducible refine New.drew ?_) | (with_reducible refine New.drewN ?_ _) | (with_reducible refine New.hat ?_ _) | ((with_reducible apply New.snart); (with_reducible assumption))))
    have k0 : W5.cell? ⟨w.heap.size + 1, 0, none⟩ = some (.int .i64 0) := by subst hW5; go_simp
    have k1 : W5.cell? ⟨w.heap.size + 1, 1, none⟩ = some (.int .i64 0) := by subst hW5; go_simp
    have k2 : W5.cell? ⟨w.heap.size + 1, 2, none⟩ = some (.int .i64 0) := by subst hW5; go_simp
    have k3 : W5.cell? ⟨w.heap.size + 1, 3, none⟩ = some (.int .i64 0) := by subst hW5; go_simp
    have k4 : W5.cell? ⟨w.heap.size + 1, 4, none⟩ = some (.slice none 0 0) := by subst hW5; go_simp
    clear hW5 y0 y1 y2 y3 y4 f0 f1 f2 f3 f4
    refine bodyPost_ret (v := .tuple #[.agg #[.int .i64 0, .int .i64 0, .int .i64 0, .int .i64 0, .slice none 0 0], .int .i64 er]) (by simp [results, Tryz.results9, go_sem, *]) rfl ?_
    rw [HQ.out]
    exact ⟨Gd.zero, rfl, Gd.zero_ok _, fun h => absurd h HER.out, fun _ => ⟨rfl, rfl, rfl, rfl, rfl⟩, n5⟩
  subst her
  clear q0
  obtain ⟨n, hn⟩ : ∃ q, q = R.length := ⟨_, rfl⟩
  rw [← hn] at hRl HROWS ⊢
  have HN := Lib.hid hn
  clear hn
  go_upto_region 5 with fail
  refine Code.at (fun W3 hW => ?_)
  have n3 : New W1 W3 := by subst hW; (repeat (first | (with_reducible exact New.refl _) | (with_reducible assumption) | ((with_reducible refine New.setB ?_ ?_ _); focus (first | omega | (simp; omega) | (simp; done))) | (with_reducible refine New.alloc ?_ _) | (with_reducible refine New.drew ?_) | (with_reducible refine New.drewN ?_ _) | (with_reducible refine New.hat ?_ _) | ((with_reducible apply New.snart); (with_reducible assumption))))
  have hg3 : GdAt W3 W1.heap.size x z wi d (.slice none 0 0) := by
    subst hW
    have hz := heap_new W1 (.cells #[.int .i64 x, .int .i64 z, .int .i64 wi, .int .i64 d, .slice none 0 0] 34)
    exact ⟨cell_of_heap hz rfl, cell_of_heap hz rfl, cell_of_heap hz rfl, cell_of_heap hz rfl, cell_of_heap hz rfl, fz_of hz 4⟩
  have z3 : W3.heap.size = W1.heap.size + 1 := by subst hW; simp
  clear hW
  obtain ⟨P, hP⟩ : ∃ q, q = W1.heap.size := ⟨_, rfl⟩
  rw [← hP] at hg3 z3 ⊢
  have HP := Lib.hid hP
  clear hP
  go_wp2_with fail
  go_loopg [40] n (fun gk s40 wr => ∃ (i : Nat) (ra : Option Addr) (rn rc : Nat) (us : List Value), s40 = .int .i64 i ∧ i ≤ n ∧ n - i ≤ gk ∧ Hid (GdAt wr P x z wi d (.slice ra rn rc)) ∧ Hid (RowsOK Fl.enc 3 28 (P + 1) wr (.slice ra rn rc) us ((R.take i).map (flX C))) ∧ Hid (∀ u ∈ us, ∀ g, u.ownBlock = some g → P + 1 ≤ g) ∧ Hid (P + 1 ≤ wr.heap.size) ∧ Hid (New W1 wr))
  case atStart => exact ⟨0, none, 0, 0, [], rfl, by omega, by omega, Lib.hid hg3, Lib.hid (by rw [List.take_zero]; exact RowsOK.nil), Lib.hid (fun u hu => by cases hu), Lib.hid (by omega), Lib.hid n3⟩
  case round =>
    clear hg3 n3
    obtain ⟨i, ra, rn, rc, us, rfl, hi', hgk, HGD, HRO, HUS, HZ, HNR⟩ := hrel
    by_cases hlt : i < n
    · have hiR : i < R.length := by rw [← HN.out]; exact hlt
      obtain ⟨b, off, la, lc, rfl, hcell, hsl⟩ := (HROWS.out.keep HNR.out).at i hiR
      have htake : (R.take (i + 1)).map (flX C) = (R.take i).map (flX C) ++ [flX C R[i]] := by rw [List.take_succ_eq_append_getElem hiR, List.map_append]; rfl
      obtain ⟨r, hr⟩ : ∃ r, r = R[i] := ⟨_, rfl⟩
      rw [← hr] at hcell hsl htake
      have HT := Lib.hid htake
      have HSL := Lib.hid hsl
      clear htake hr hsl
      have hF8 := flX_len8 C r
      go_upto_region 8 with fail
      clear hcell
      obtain ⟨c0, c1, c2, c3, c4, c5, c6⟩ := HC.out _ (N1.out.trans HNR.out)
      have g4 := HGD.out.c4
      refine wp_region_loose 7 (fun i' w' v => match i' with
        | 0 => v = .pointer (some ⟨P, 4, none⟩)
        | 1 => v = .slice ra rn rc
        | 2 => v = .agg #[.int .i64 C.cl, .int .i64 C.cb, .int .i64 C.ht, .int .i64 C.ri, .int .i64 C.ru, .int .i64 C.wd, .int .i64 C.dp]
        | 3 => v = .slice la r.length lc
        | 4 => ∃ Bc Bl, v = .func (.func 26) #[] #[.pointer (some ⟨Bc, 0, none⟩), .pointer (some ⟨Bl, 0, none⟩)] ∧ FloAt w' C Bc Bl la lc r
        | 5 => ∃ a c, v = .slice a (flX C r).length c ∧ Sl Fl.enc 3 w' (.slice a (flX C r).length c) (flX C r) ∧ ∀ g, (Value.slice a (flX C r).length c).ownBlock = some g → wr.heap.size ≤ g
        | 6 => ∃ p a c, v = .slice (some ⟨p, 0, none⟩) 1 1 ∧ w'.cell? ⟨p, 0, none⟩ = some (.slice a (flX C r).length c) ∧ Sl Fl.enc 3 w' (.slice a (flX C r).length c) (flX C r) ∧ ∀ g, (Value.slice a (flX C r).length c).ownBlock = some g → wr.heap.size ≤ g
        | _ => True) (by kernel_rfl) (by kernel_rfl) ?_ ?_ ?_
      · intro i' w1 w2 v h nq
        match i', h with
        | 0, h => exact h
        | 1, h => exact h
        | 2, h => exact h
        | 3, h => exact h
        | 4, ⟨Bc, Bl, e, h⟩ => exact ⟨Bc, Bl, e, h.keep (KeepS.new h.lt nq)⟩
        | 5, ⟨a, c, e, h1, h2⟩ => exact ⟨a, c, e, h1.keep nq, h2⟩
        | 6, ⟨p, a, c, e, h1, h2, h3⟩ => exact ⟨p, a, c, e, nq.keep h1, h2.keep nq, h3⟩
        | i' + 7, _ => trivial
      · intro i' o hi2 ho a' w' nn hr hd
        rcases (show i' = 0 ∨ i' = 1 ∨ i' = 2 ∨ i' = 3 ∨ i' = 4 ∨ i' = 5 ∨ i' = 6 by omega) with rfl | rfl | rfl | rfl | rfl | rfl | rfl <;> obtain rfl := Option.some.inj ho
        · have r16 : (a'.tmps[16]?).getD undef = .pointer (some ⟨P, 0, none⟩) := (eval_get a' 16).symm.trans (hr 16 (by kernel_rfl))
          exact yields_value (.pointer (some ⟨P, 4, none⟩)) (by go_simp) ⟨New.refl _, rfl⟩
        · have r44 : (a'.tmps[44]?).getD undef = .pointer (some ⟨P, 4, none⟩) := (eval_get a' 44).symm.trans (hd 0 44 (by omega) (by kernel_rfl) (by kernel_rfl))
          replace g4 := nn.keep g4
          exact yields_value (.slice ra rn rc) (by go_simp) ⟨New.refl _, rfl⟩
        · have r6 : (a'.tmps[6]?).getD undef = .pointer (some ⟨w.heap.size, 0, none⟩) := (eval_get a' 6).symm.trans (hr 6 (by kernel_rfl))
          obtain ⟨c0, c1, c2, c3, c4, c5, c6⟩ := HC.out _ (N1.out.trans (HNR.out.trans nn))
          exact yields_value (.agg #[.int .i64 C.cl, .int .i64 C.cb, .int .i64 C.ht, .int .i64 C.ri, .int .i64 C.ru, .int .i64 C.wd, .int .i64 C.dp]) (by go_simp) ⟨New.refl _, rfl⟩
        · have r18 : (a'.tmps[18]?).getD undef = .slice la r.length lc := (eval_get a' 18).symm.trans (hr 18 (by kernel_rfl))
          exact yields_value (.slice la r.length lc) (by go_simp) ⟨New.refl _, rfl⟩
        · have r46 : (a'.tmps[46]?).getD undef = .agg #[.int .i64 C.cl, .int .i64 C.cb, .int .i64 C.ht, .int .i64 C.ri, .int .i64 C.ru, .int .i64 C.wd, .int .i64 C.dp] := (eval_get a' 46).symm.trans (hd 2 46 (by omega) (by kernel_rfl) (by kernel_rfl))
          have r47 : (a'.tmps[47]?).getD undef = .slice la r.length lc := (eval_get a' 47).symm.trans (hd 3 47 (by omega) (by kernel_rfl) (by kernel_rfl))
          exact yields_enter 16 #[.agg #[.int .i64 C.cl, .int .i64 C.cb, .int .i64 C.ht, .int .i64 C.ri, .int .i64 C.ru, .int .i64 C.wd, .int .i64 C.dp], .slice la r.length lc] (by go_simp) ((KF.out la r lc w' (HSL.out.keep nn)).mono fun e w'' ⟨he, hn, hf⟩ => ⟨_, he, hn, _, _, rfl, hf⟩)
        · obtain ⟨Bc, Bl, e48, h48⟩ := hd 4 48 (by omega) (by kernel_rfl) (by kernel_rfl)
          have r48 : (a'.tmps[48]?).getD undef = _ := (eval_get a' 48).symm.trans e48
          refine yields_enter 15 #[.func (.func 26) #[] #[.pointer (some ⟨Bc, 0, none⟩), .pointer (some ⟨Bl, 0, none⟩)]] (by go_simp) ((KG.out la r lc Bc Bl w' h48).mono ?_)
          rintro e w'' ⟨v, rfl, ho, hn⟩
          have hs : Sl Fl.enc 3 w'' v (flX C r) := own_sl Fl.enc_len ho
          obtain ⟨a, c, rfl, -⟩ := id hs
          exact ⟨_, rfl, hn, a, c, rfl, hs, fun g hg => Nat.le_trans nn.size (own_block ho g hg)⟩
        · obtain ⟨a, c, e49, h49, h50⟩ := hd 5 49 (by omega) (by kernel_rfl) (by kernel_rfl)
          have r49 : (a'.tmps[49]?).getD undef = .slice a (flX C r).length c := (eval_get a' 49).symm.trans e49
          have na : New w' (w'.alloc (.cells #[.slice a (flX C r).length c] 28)) := by (repeat (first | (with_reducible exact New.refl _) | (with_reducible assumption) | ((with_reducible refine New.setB ?_ ?_ _); focus (first | omega | (simp; omega) | (simp; done))) | (with_reducible refine New.alloc ?_ _) | (with_reducible refine New.drew ?_) | (with_reducible refine New.drewN ?_ _) | (with_reducible refine New.hat ?_ _) | ((with_reducible apply New.snart); (with_reducible assumption))))
          exact yields_value (w' := w'.alloc (.cells #[.slice a (flX C r).length c] 28)) (.slice (some ⟨w'.heap.size, 0, none⟩) 1 1) (by go_simp) ⟨na, w'.heap.size, a, c, rfl, cell_of_heap (heap_new _ _) rfl, h49.keep na, h50⟩
      · intro vs w' nn hv
        have e1 : vs 1 = .slice ra rn rc := hv 1 (by omega)
        obtain ⟨p, a, c, e6, hp, hs6, hb6⟩ := hv 6 (by omega)
        simp only [List.take_succ_cons, List.take_zero, List.drop_succ_cons, List.drop_zero, putL, Act.put, List.setIfInBounds_toArray, List.set_cons_zero, List.set_cons_succ, Nat.reduceAdd, Nat.zero_add]
        rw [e1, e6]
        have hul : us.length = i := by rw [HRO.out.len, List.length_map, List.length_take]; omega
        have HRn := Lib.hid (HRO.out.new nn)
        have hgd := HGD.out.new nn
        have hz' : P + 1 ≤ w'.heap.size := Nat.le_trans HZ.out nn.size
        have HS6 := Lib.hid (And.intro hs6 hb6)
        have HNN := Lib.hid (HNR.out.trans nn)
        have hwz := nn.size
        clear hv e1 e6 nn c0 c1 c2 c3 c4 c5 c6 g4 hs6 hb6
        obtain ⟨fn, hfn⟩ : ∃ q, q = (flX C r).length := ⟨_, rfl⟩
        rw [← hfn] at hp HS6
        have HFN := Lib.hid hfn
        clear hfn
        have hHR := HRn.out.own
        go_upto_region 9 with (at_builtin; refine wpList_append_own_at _ rfl _ _ 32 rfl (P + 1) 28 i0 (.slice none 0 0) 1 24 Tryz.underlying32 hi hz0 hz1 hz2 rfl (by decide) _ _ _ rfl hHR ⟨p, 0, none⟩ 1 1 [.slice a fn c] rfl rfl (by intro j u hj; cases j with | zero => (simp at hj; subst hj; exact hp) | succ j => simp at hj) (by intro u hu; rw [List.mem_singleton] at hu; subst hu; rfl) (by unfold maxLen; omega) (by omega) hz' ?_; intro v' w4 hown' hgrow _ hat; obtain ⟨a', d', N', hN', rfl⟩ := own_shape2 hown'; clear hN'; have hgb := hgd.blk (hgrow.block P (by omega) (fun e => by have := (HRn.out.own.lt P e.symm).1; omega)); have g4 := hgb.c4; have gf := hgb.fz)
        refine Code.at (fun W9 hW => ?_)
        have hgrow' : w'.grownBy w4 (Value.slice ra rn rc).ownBlock := hgrow
        have hat' : (Value.slice a' N' d').ownBlock = (Value.slice ra rn rc).ownBlock ∨ (Value.slice a' N' d').ownBlock = some w'.heap.size := hat
        have hlt1 := fun g h => (HRO.out.own.lt g h)
        have HP1 := HRn.out.push Fl.enc_len (by omega) (l := flX C r) (u := .slice a fn c) HS6.out.1 (fun _ g hg hv => by
          have q1 := HS6.out.2 g hg
          have q2 := (hlt1 g hv).2
          omega) hown' hgrow' hat'
        have hus2 : ∀ u ∈ us ++ [.slice a fn c], ∀ g, u.ownBlock = some g → P + 1 ≤ g := fun u hu g hg => by
          rcases List.mem_append.1 hu with h | h
          · exact HUS.out u h g hg
          · rw [List.mem_singleton] at h
            subst h
            have := HS6.out.2 g hg
            have := HZ.out
            omega
        have HP2 := HP1.put Fl.enc_len (by omega) (p := ⟨P, 4, none⟩) (show P < P + 1 by omega) (fun j _ _ u hu hq => by
          have := hus2 u (List.mem_of_getElem? hu) P hq
          omega) (.slice a' N' d')
        have HG9 : Hid (GdAt W9 P x z wi d (.slice a' N' d')) := Lib.hid (by subst hW; exact hgb.put _)
        have HR9 : Hid (RowsOK Fl.enc 3 28 (P + 1) W9 (.slice a' N' d') (us ++ [.slice a fn c]) ((R.take (i + 1)).map (flX C))) := Lib.hid (by subst hW; rw [HT.out]; exact HP2)
        have hn4 : New W1 w4 := newGrown HNN.out hgrow' (fun j hj => by have := (hlt1 j hj).1; have := HP.out; omega)
        have HN9 : Hid (New W1 W9) := Lib.hid (by subst hW; exact New.setB (p := ⟨P, 4, none⟩) (by rw [HP.out]; exact Nat.le_refl _) hn4 _)
        have HZ9 : Hid (P + 1 ≤ W9.heap.size) := Lib.hid (by
          have := hgrow'.size
          subst hW
          simp
          omega)
        have HUS2 := Lib.hid hus2
        clear hW hgrow hgrow' hat hat' hown' hgb g4 gf HP1 HP2 hn4 hp hgd hHR hus2 hlt1
        go_wp2_with fail
        go_roundg (n - (i + 1))
        case measure => omega
        case rel => exact ⟨i + 1, a', N', d', us ++ [.slice a fn c], by go_num, by omega, by omega, HG9, HR9, HUS2, HZ9, HN9⟩
    · obtain rfl : i = n := by omega
      have HOK : Hid (RowsK Fl.enc 3 wr (.slice ra rn rc) F) := Lib.hid (by
        have h := HRO.out.rows
        rw [List.take_of_length_le (by rw [← HN.out]; exact Nat.le_refl _), ← HF.out] at h
        exact h)
      have hnr : rn = F.length := by
        obtain ⟨a, c, e⟩ := HOK.out.shape
        injection e
      obtain ⟨g0, g1, g2, g3, g4, -⟩ := HGD.out
      have q0 := HR0.out _ (N1.out.trans HNR.out)
      have y0 : wr.cell? ⟨w.heap.size + 1, 0, none⟩ = some (.int .i64 0) := cell_of_heap q0 rfl
      have y1 : wr.cell? ⟨w.heap.size + 1, 1, none⟩ = some (.int .i64 0) := cell_of_heap q0 rfl
      have y2 : wr.cell? ⟨w.heap.size + 1, 2, none⟩ = some (.int .i64 0) := cell_of_heap q0 rfl
      have y3 : wr.cell? ⟨w.heap.size + 1, 3, none⟩ = some (.int .i64 0) := cell_of_heap q0 rfl
      have y4 : wr.cell? ⟨w.heap.size + 1, 4, none⟩ = some (.slice none 0 0) := cell_of_heap q0 rfl
      have f0 := fz_of q0 0
      have f1 := fz_of q0 1
      have f2 := fz_of q0 2
      have f3 := fz_of q0 3
      have f4 := fz_of q0 4
      have nn := N0.out.trans (N1.out.trans HNR.out)
      have HB0 := Lib.hid (And.intro HOK.out (And.intro hnr q0))
      clear q0 hnr
      go_wp2_with fail
      generalize hW5 : World.setCell _ _ _ = W5
      have n5 : New w W5 := by subst hW5; (repeat (first | (with_reducible exact New.refl _) | (with_reducible assumption) | ((with_reducible refine New.setB ?_ ?_ _); focus (first | omega | (simp; omega) | (simp; done))) | (with_reducible refine New.alloc ?_ _) | (with_reducible refine New.drew ?_) | (with_reducible refine New.drewN ?_ _) | (with_reducible refine New.hat ?_ _) | ((with_reducible apply New.snart); (with_reducible assumption))))
      have k0 : W5.cell? ⟨w.heap.size + 1, 0, none⟩ = some (.int .i64 x) := by subst hW5; go_simp
      have k1 : W5.cell? ⟨w.heap.size + 1, 1, none⟩ = some (.int .i64 z) := by subst hW5; go_simp
      have k2 : W5.cell? ⟨w.heap.size + 1, 2, none⟩ = some (.int .i64 wi) := by subst hW5; go_simp
      have k3 : W5.cell? ⟨w.heap.size + 1, 3, none⟩ = some (.int .i64 d) := by subst hW5; go_simp
      have k4 : W5.cell? ⟨w.heap.size + 1, 4, none⟩ = some (.slice ra rn rc) := by subst hW5; go_simp
      have hsz1 := N1.out.size
      have hput : ∀ (W : World) (o : Nat) (v : Value), RowsOK Fl.enc 3 28 (P + 1) W (.slice ra rn rc) us ((R.take i).map (flX C)) → RowsOK Fl.enc 3 28 (P + 1) (W.setCell ⟨w.heap.size + 1, o, none⟩ v) (.slice ra rn rc) us ((R.take i).map (flX C)) := fun W o v h =>
        h.put Fl.enc_len (by omega) (p := ⟨w.heap.size + 1, o, none⟩) (show w.heap.size + 1 < P + 1 by have := HP.out; omega) (fun j _ _ u hu hq => by
          have := HUS.out u (List.mem_of_getElem? hu) _ hq
          have := HP.out
          simp only at *
          omega) v
      have HOK5 : Hid (RowsK Fl.enc 3 W5 (.slice ra rn rc) F) := Lib.hid (by
        have h : RowsOK Fl.enc 3 28 (P + 1) W5 (.slice ra rn rc) us ((R.take i).map (flX C)) := by
          subst hW5
          exact hput _ 4 _ (hput _ 3 _ (hput _ 2 _ (hput _ 1 _ (hput _ 0 _ HRO.out))))
        have h := h.rows
        rw [List.take_of_length_le (by rw [← HN.out]; exact Nat.le_refl _), ← HF.out] at h
        exact h)
      clear hput
      clear hW5 y0 y1 y2 y3 y4 f0 f1 f2 f3 f4 g0 g1 g2 g3 g4
      refine bodyPost_ret (v := .tuple #[.agg #[.int .i64 x, .int .i64 z, .int .i64 wi, .int .i64 d, .slice ra rn rc], .int .i64 0]) (by simp [results, Tryz.results9, go_sem, *]) rfl ?_
      rw [HQ.out]
      have hnr := HB0.out.2.1
      subst hnr
      exact ⟨⟨x, z, wi, d, F, ra, rc⟩, rfl, HOK5.out, fun _ => ⟨rfl, rfl, rfl, rfl, rfl⟩, fun h => absurd rfl h, n5⟩

end Go.Proofs.YtklopjbpfddgfaaGreat
