import Derived.Test.YtgoggogcbjfofaaDoorFdEY14
import Derived.Test.YtgoggogcbjfofaaDoorFdBY14
import Derived.Maps.OwnSet
import Derived.Maps.Views
import Derived.Maps.AppendAt
import Derived.DeepKeys4
import Derived.Test.YtgoggogcbjfofaaDoorOgWY14

/- Package field: edge. -/
namespace Go.Proofs.YtgoggogcbjfofaaDoor
open Go.RowKit
set_option linter.unusedVariables false

/-- Those of a column's first k floors, of the first i columns, of which some of the eight is missing. -/
def edC (N : Net) (i k : Nat) : List Sp := ((List.range k).map (Sp.mk i)).filter (fun s => !fulP N.go s)
def edT (N : Net) : Nat → List Sp
  | 0 => []
  | i + 1 => edT N i ++ edC N i (colM N.M i).length
theorem edC_succ (N : Net) (i k : Nat) : edC N i (k + 1) = edC N i k ++ (if fulP N.go ⟨i, k⟩ = true then [] else [⟨i, k⟩]) := by
  unfold edC
  rw [List.range_succ, List.map_append, List.filter_append]
  congr 1
  cases h : fulP N.go ⟨i, k⟩ <;> simp [h]
theorem edC_len (N : Net) (i k : Nat) : (edC N i k).length ≤ k := by
  unfold edC
  refine Nat.le_trans (List.length_filter_le _ _) ?_
  simp
theorem edT_len (N : Net) : ∀ i, (edT N i).length ≤ 8 * i
  | 0 => by simp [edT]
  | i + 1 => by
    have h1 := edT_len N i
    have h2 := edC_len N i (colM N.M i).length
    have h3 := N.col i
    simp only [edT, List.length_append]
    omega
theorem mem_edT (N : Net) {s : Sp} : ∀ {i : Nat}, s ∈ edT N i ↔ s.c < i ∧ s.k < (colM N.M s.c).length ∧ fulP N.go s = false
  | 0 => by simp [edT]
  | i + 1 => by
    simp only [edT, List.mem_append, mem_edT N (i := i)]
    unfold edC
    simp only [List.mem_filter, List.mem_map, List.mem_range, Bool.not_eq_true']
    constructor
    · rintro (⟨h1, h2, h3⟩ | ⟨⟨k, hk, rfl⟩, h3⟩)
      · exact ⟨by omega, h2, h3⟩
      · exact ⟨by simp, hk, h3⟩
    · rintro ⟨h1, h2, h3⟩
      by_cases e : s.c = i
      · refine .inr ⟨⟨s.k, by rw [← e]; exact h2, ?_⟩, h3⟩
        obtain ⟨c, k⟩ := s
        simp only at e
        rw [e]
      · exact .inl ⟨by omega, h2, h3⟩
def edgeL (N : Net) : List Sp := edT N N.M.length
theorem mem_edge (N : Net) {s : Sp} : s ∈ edgeL N ↔ SpIn N.M s ∧ fulP N.go s = false := by
  unfold edgeL SpIn
  rw [mem_edT]
  constructor
  · rintro ⟨a, b, c⟩; exact ⟨⟨a, b⟩, c⟩
  · rintro ⟨⟨a, b⟩, c⟩; exact ⟨a, b, c⟩
theorem edge_len (N : Net) : (edgeL N).length ≤ 32768 := by
  have h1 := edT_len N N.M.length
  have h2 := N.len
  unfold edgeL
  omega

set_option maxHeartbeats 8000000 in
set_option maxRecDepth 100000 in
theorem fd_edge (N : Net) (la : Option Addr) (lc : Nat) (w0 w : World) (hn0 : New w0 w) (h : RowsK Lk.enc 4 w0 (.slice la N.M.length lc) N.M) (hD : Dirs w) : Calls Tryd.prog 56 #[.agg #[.int .i64 ((N.W : Nat) : Int), .slice la N.M.length lc]] w fun e w' => ∃ a c, e = .returned (.slice a (edgeL N).length c) ∧ Sl Sp.enc 2 w' (.slice a (edgeL N).length c) (edgeL N) ∧ New w w' := by
  obtain ⟨i0, hi0, hz0, hz1, hz2⟩ := info_parts fst_info
  have KA := Lib.hid (fun s hs W (q : New w W) => fd_around N la lc s hs w0 W (hn0.trans q) h (hD.new q))
  have HH := Lib.hid (fun W (q : New w W) => h.keep (hn0.trans q))
  have HC := Lib.hid (fun i => edT_len N i)
  have HCk := Lib.hid (fun i k => edC_len N i k)
  have HCS := Lib.hid (fun i k => edC_succ N i k)
  have HFB : Hid (∀ s, fulP N.go s = decide (8 ≤ (arP N.go s).length)) := Lib.hid (fun s => rfl)
  have HLEN := Lib.hid N.len
  have HCOL := Lib.hid N.col
  have HAL := Lib.hid (fun s => arP_len (go := N.go) s)
  obtain ⟨n, hn⟩ : ∃ n, n = N.M.length := ⟨_, rfl⟩
  rw [← hn] at KA HH HLEN ⊢
  have HN := Lib.hid hn
  unfold edgeL
  rw [← hn]
  obtain ⟨wd, hwd⟩ : ∃ q, q = N.W := ⟨_, rfl⟩
  rw [← hwd] at KA ⊢
  clear hn hwd h hD hn0
  have HTS : Hid (∀ i, edT N (i + 1) = edT N i ++ edC N i (colM N.M i).length) := Lib.hid (fun i => rfl)
  have H0 : Hid (edT N 0 = []) := Lib.hid rfl
  have H1 : Hid (∀ i, edC N i 0 = []) := Lib.hid (fun i => rfl)
  generalize edT N = eT at *
  generalize edC N = eC at *
  go_enter Tryd.func56, Tryd.ntmps56
  go_upto_region 1 with fail
  refine Code.at (fun W hW => ?_)
  have n0 : Hid (New w W) := Lib.hid (by subst hW; (repeat (first | (with_reducible exact New.refl _) | (with_reducible assumption) | ((with_reducible refine New.setB ?_ ?_ _); focus (first | omega | (simp; omega) | (simp; done))) | (with_reducible refine New.alloc ?_ _) | (with_reducible refine New.drew ?_) | (with_reducible refine New.drewN ?_ _) | (with_reducible refine New.hat ?_ _) | ((with_reducible apply New.snart); (with_reducible assumption)))))
  have HG : Hid (GnAt wd (.slice la n lc) W w.heap.size) := Lib.hid (by subst hW; exact ⟨by go_simp, by go_simp⟩)
  clear hW
  obtain ⟨base, hbase⟩ : ∃ q, q = W.heap.size := ⟨_, rfl⟩
  have HB := Lib.hid hbase
  clear hbase
  have hnl := HLEN.out
  obtain ⟨g0, g1⟩ := HG.out
  go_wp2_with fail
  clear g0 g1
  go_loopg [11, 3] n (fun gk s11 s3 wr => ∃ (i : Nat) (ra : Option Addr) (rn rc : Nat), s11 = .int .i64 i ∧ s3 = .slice ra rn rc ∧ i ≤ n ∧ n - i ≤ gk ∧ Hid (wr.ownsRow base 85 2 (.slice ra rn rc) (eT i).length ((eT i).flatMap Sp.enc)) ∧ Hid (New W wr))
  case atStart => exact ⟨0, none, 0, 0, rfl, rfl, by omega, by omega, Lib.hid (by rw [H0.out]; exact World.ownsRow_nil _ _ _ _), Lib.hid (New.refl _)⟩
  case round =>
    obtain ⟨i, ra, rn, rc, rfl, rfl, hi, hgk, hown, hnr⟩ := hrel
    by_cases hlt : i < n
    · have hil : i < N.M.length := by rw [← HN.out]; exact hlt
      obtain ⟨b, off, a, c, rfl, hc, hsl⟩ := (HH.out _ (n0.out.trans hnr.out)).at i hil
      have hcl := colM_at hil
      rw [← hcl] at hc
      have hc8 := HCOL.out i
      obtain ⟨m, hm⟩ : ∃ q, q = (colM N.M i).length := ⟨_, rfl⟩
      rw [← hm] at hc hc8
      have HM := Lib.hid hm
      have hti := HTS.out i
      rw [← hm] at hti
      have HTI := Lib.hid hti
      have hei := HC.out i
      have HGK := Lib.hid hgk
      clear hsl hm hti hcl hgk
      obtain ⟨l0, hl0⟩ : ∃ q, q = eT i := ⟨_, rfl⟩
      rw [← hl0] at hown HTI hei
      clear hl0
      rename World => Wo
      go_wp2_with fail
      clear hc
      go_loopg [18, 3] m (fun gk s18 s3 wr => ∃ (k : Nat) (ca : Option Addr) (cn cc : Nat), s18 = .int .i64 k ∧ s3 = .slice ca cn cc ∧ k ≤ m ∧ m - k ≤ gk ∧ Hid (wr.ownsRow base 85 2 (.slice ca cn cc) (l0 ++ eC i k).length ((l0 ++ eC i k).flatMap Sp.enc)) ∧ Hid (New W wr))
      case atStart => exact ⟨0, ra, rn, rc, rfl, rfl, by omega, by omega, Lib.hid (by rw [H1.out]; simpa using hown.out), hnr⟩
      case round =>
        obtain ⟨k, ca, cn, cc, rfl, rfl, hk, hgk, hown, hnk⟩ := hrel
        by_cases hkt : k < m
        · have hin : SpIn N.M ⟨i, k⟩ := ⟨hil, by rw [← HM.out]; exact hkt⟩
          have KAi := Lib.hid (KA.out ⟨i, k⟩ hin)
          simp only at KAi
          have hcs := HCS.out i k
          rw [HFB.out] at hcs
          have hck := HCk.out i k
          have hal := HAL.out ⟨i, k⟩
          obtain ⟨ar, har⟩ : ∃ q, q = arP N.go ⟨i, k⟩ := ⟨_, rfl⟩
          rw [← har] at KAi hcs hal
          have HCSI := Lib.hid hcs
          obtain ⟨c0, hc0⟩ : ∃ q, q = eC i k := ⟨_, rfl⟩
          rw [← hc0] at HCSI hown hck
          obtain ⟨al, hal2⟩ : ∃ q, q = ar.length := ⟨_, rfl⟩
          rw [← hal2] at KAi HCSI hal
          have hgl : (l0 ++ c0).length ≤ 8 * i + k := by rw [List.length_append]; omega
          clear har hcs hc0 hal2 hin hck
          obtain ⟨g0, g1⟩ := HG.out.new hnk.out
          have hwl := World.block_lt_of_cell? _ _ g0
          simp only [] at hwl
          go_upto_region 9 with fail
          refine Code.at (fun W5 hW => ?_)
          have n5 : New wr W5 := by subst hW; (repeat (first | (with_reducible exact New.refl _) | (with_reducible assumption) | ((with_reducible refine New.setB ?_ ?_ _); focus (first | omega | (simp; omega) | (simp; done))) | (with_reducible refine New.alloc ?_ _) | (with_reducible refine New.drew ?_) | (with_reducible refine New.drewN ?_ _) | (with_reducible refine New.hat ?_ _) | ((with_reducible apply New.snart); (with_reducible assumption))))
          have HQ : Hid (SpAt ⟨i, k⟩ W5 wr.heap.size) := Lib.hid (by subst hW; exact ⟨by go_simp, by go_simp⟩)
          clear hW g0 g1
          obtain ⟨g0, g1⟩ := HG.out.new (hnk.out.trans n5)
          obtain ⟨q0, q1⟩ := HQ.out
          simp only at q0 q1
          have N5 := Lib.hid (hnk.out.trans n5)
          have HO5 := Lib.hid (own_new hown.out n5)
          clear n5 hown
          go_wp2_with fail
          refine (KAi.out _ (n0.out.trans N5.out)).mono ?_
          rintro e w6 ⟨a6, c6, rfl, -, -, n6⟩
          replace HQ := Lib.hid (HQ.out.new n6)
          replace N5 := Lib.hid (N5.out.trans n6)
          replace HO5 := Lib.hid (own_new HO5.out n6)
          clear n6 g0 g1 q0 q1 KAi
          obtain ⟨q0, q1⟩ := HQ.out
          simp only at q0 q1
          have hb : base ≤ w6.heap.size := by rw [HB.out]; exact N5.out.size
          by_cases h8 : al < 8
          · have hd : decide (al < 8) = true := decide_eq_true h8
            have hnx : Hid (eC i (k + 1) = c0 ++ [⟨i, k⟩]) := Lib.hid (by rw [HCSI.out, if_neg (by rw [decide_eq_true_eq]; omega)])
            clear HCSI
            go_wp2_with (at_builtin; refine wpList_append_sl rfl _ _ 96 rfl Sp.enc_len Sp.enc_one base 85 i0 _ 16 Tryd.underlying96 hi0 hz0 hz1 hz2 rfl (by decide) _ (l0 ++ c0) rfl (own_new HO5.out ((New.refl _).alloc _)) _ [⟨i, k⟩] rfl (sp_new _ ⟨i, k⟩ _) (by unfold maxLen; simp only [List.length_singleton]; omega) (by simp only [List.length_singleton]; omega) (by simp; omega) ?_; intro v' w1 hown' hnew _; obtain ⟨a', d', N', hN', rfl⟩ := own_shape2 hown'; clear hN'; have nw1 := hnew W (N5.out.trans ((New.refl _).alloc _)) (Nat.le_of_eq HB.out.symm))
            go_roundg (m - (k + 1))
            case measure => omega
            case rel => exact ⟨k + 1, a', N', d', by go_num, rfl, by omega, by omega, Lib.hid (by rw [hnx.out, ← List.append_assoc]; exact hown'), Lib.hid nw1⟩
          · have hd : decide (al < 8) = false := decide_eq_false h8
            have hnx : Hid (eC i (k + 1) = c0) := Lib.hid (by rw [HCSI.out, if_pos (by rw [decide_eq_true_eq]; omega), List.append_nil])
            clear HCSI
            go_wp2_with fail
            go_roundg (m - (k + 1))
            case measure => omega
            case rel => exact ⟨k + 1, ca, cn, cc, by go_num, rfl, by omega, by omega, Lib.hid (by rw [hnx.out]; exact HO5.out), N5⟩
        · obtain rfl : k = m := by omega
          go_wp2_with fail
          have hgk := HGK.out
          go_roundg (n - (i + 1))
          case measure => omega
          case rel => exact ⟨i + 1, ca, cn, cc, by go_num, rfl, by omega, by omega, Lib.hid (by rw [HTI.out]; exact hown.out), hnk⟩
    · obtain rfl : i = n := by omega
      have hsl := own_sl Sp.enc_len hown.out
      have hnn := n0.out.trans hnr.out
      obtain ⟨a1, c1, e1, -⟩ := id hsl
      injection e1 with e1 e2 e3
      subst e1 e2 e3
      have HSL := Lib.hid (And.intro hsl hnn)
      clear hown hsl hnn
      go_wp2_with fail
      go_ret
      exact ⟨_, _, rfl, HSL.out.1, HSL.out.2⟩

end Go.Proofs.YtgoggogcbjfofaaDoor

/- Layer 14: a map of structs, by what it holds at each place. -/
namespace Go.Proofs.YtgoggogcbjfofaaDoor
open Go.RowKit
set_option linter.unusedVariables false

def spLit (s : Sp) : Lit := .string (keyBytes [.int .i64 ((s.c : Nat) : Int), .int .i64 ((s.k : Nat) : Int)])
theorem mp_deep : Tryd.prog.keyTypeAt 3 85 = true := by kernel_rfl
theorem mp_law : Maps.Keyed Tryd.prog 85 := Maps.Keyed.of_law (deep_law_laid (m := 3) (by kernel_rfl) (by omega) (of_decide_eq_true (by kernel_rfl)) mp_deep (by kernel_rfl))
theorem mp_kt : Tryd.prog.keyType 85 = true := by kernel_rfl
theorem mp_size : 1 ≤ Tryd.prog.types.size := of_decide_eq_true (by kernel_rfl)
theorem mp_cells : Tryd.prog.cellsOf 85 = 2 := by kernel_rfl
theorem mp_cell : Tryd.prog.cellsOf 3 = 1 := by kernel_rfl
theorem sp_key {s : Sp} (h1 : s.c < 4096) (h2 : s.k < 8) : keyOf Tryd.prog 85 (.agg #[.int .i64 ((s.c : Nat) : Int), .int .i64 ((s.k : Nat) : Int)]) = some (spLit s) := by
  obtain ⟨m, hm⟩ : ∃ m, Tryd.prog.types.size = m + 1 := ⟨Tryd.prog.types.size - 1, by have := mp_size; omega⟩
  have w1 : (Lit.int .i64 ((s.c : Nat) : Int)).wf = true := WalkArith.wf_i64 (by omega)
  have w2 : (Lit.int .i64 ((s.k : Nat) : Int)).wf = true := WalkArith.wf_i64 (by omega)
  have hl : Tryd.prog.keyLits (m + 1 + 1) 85 [.int .i64 ((s.c : Nat) : Int), .int .i64 ((s.k : Nat) : Int)] = some [.int .i64 ((s.c : Nat) : Int), .int .i64 ((s.k : Nat) : Int)] := by
    simp [Program.keyLits, Tryd.underlying85, Tryd.underlying3, mp_cells, mp_cell, w1, w2]
  unfold keyOf
  rw [Tryd.underlying85]
  simp only []
  rw [mp_kt, hm]
  simp [Value.formed, Tryd.underlying85, mp_cells, Value.cells, hl, spLit]
theorem spLit_inj {s t : Sp} (h1 : s.c < 4096) (h2 : s.k < 8) (h3 : t.c < 4096) (h4 : t.k < 8) (e : spLit s = spLit t) : s = t := by
  have a := sp_key h1 h2
  rw [e] at a
  have := mp_law.inj a (sp_key h3 h4)
  obtain ⟨sc, sk⟩ := s
  obtain ⟨tc, tk⟩ := t
  simp at this
  obtain ⟨q1, q2⟩ := this
  rw [Sp.mk.injEq]
  omega

/-- Block b is a map of at most n entries, that holds at each place what F says. -/
def HeldAt (w : World) (b n : Nat) (F : Sp → Option Nat) : Prop := ∃ D : DataW Unit, w.ownsMap Tryd.prog 85 (plainElem Tryd.prog 3) b n D ∧ ∀ s : Sp, s.c < 4096 → s.k < 8 → Maps.has D (spLit s) = (F s).isSome ∧ ∀ v : Nat, F s = some v → D.atKey (spLit s) (.lit (.int .i64 0)) = .lit (.int .i64 ((v : Nat) : Int))
theorem HeldAt.congr {w : World} {b n n' : Nat} {F F' : Sp → Option Nat} (h : HeldAt w b n F) (hn : n ≤ n') (e : ∀ s : Sp, s.c < 4096 → s.k < 8 → F s = F' s) : HeldAt w b n' F' := by
  obtain ⟨D, h1, h2⟩ := h
  exact ⟨D, h1.mono hn, fun s a b => by rw [← e s a b]; exact h2 s a b⟩
theorem HeldAt.kept {w w' : World} {b n : Nat} {F : Sp → Option Nat} {row : Option Nat} (h : HeldAt w b n F) (hg : w.grownBy w' row) (hne : some b ≠ row) : HeldAt w' b n F := by
  obtain ⟨D, h1, h2⟩ := h
  exact ⟨D, h1.kept hg hne, h2⟩
theorem HeldAt.made (w : World) : HeldAt (w.alloc (.map #[] 0)) w.heap.size 0 (fun _ => none) :=
  ⟨.map [], World.ownsMap_made w _ _ _, fun s _ _ => ⟨rfl, fun v h => by cases h⟩⟩
theorem HeldAt.lt {w : World} {b n : Nat} {F : Sp → Option Nat} (h : HeldAt w b n F) : b < w.heap.size := by
  obtain ⟨D, h1, h2⟩ := h
  exact h1.lt
theorem HeldAt.new {w w' : World} {b n : Nat} {F : Sp → Option Nat} (h : HeldAt w b n F) (q : New w w') : HeldAt w' b n F := by
  obtain ⟨D, ⟨es, clock, hb, r⟩, h2⟩ := h
  exact ⟨D, ⟨es, clock, (q.block b (Array.getElem?_eq_some_iff.1 hb).1).trans hb, r⟩, h2⟩
/-- The block is no cells. -/
theorem HeldAt.nocell {w : World} {b n : Nat} {F : Sp → Option Nat} (h : HeldAt w b n F) {c o : Nat} {v : Value} (hc : w.cell? ⟨c, o, none⟩ = some v) : c ≠ b := by
  obtain ⟨D, ⟨es, clock, hb, -⟩, -⟩ := h
  intro e
  subst e
  simp [World.cell?, hb] at hc
theorem zeroI (w : World) : (zeroValue 3).run Tryd.prog w = .ok (.int .i64 0) w := by kernel_rfl

theorem wpList_held {ops : Array Oper} {rest : List Oper} {o : Oper} {a : Act} {w : World} {Q : Exit → Act → World → Prop} (hg : o.guard = none) (m x : Operand) (hop : o.op = Op.lookup 82 m x true)
    (b n : Nat) (F : Sp → Option Nat) (hm : a.eval m = .map (some b)) (H : HeldAt w b n F) (s : Sp) (h1 : s.c < 4096) (h2 : s.k < 8) (hx : a.eval x = .agg #[.int .i64 ((s.c : Nat) : Int), .int .i64 ((s.k : Nat) : Int)])
    (hK : wpList Tryd.prog ops Q rest (a.put o.dst (.tuple #[.int .i64 (((F s).getD 0 : Nat) : Int), .bool (F s).isSome])) w) : wpList Tryd.prog ops Q (o :: rest) a w := by
  obtain ⟨D, hown, hF⟩ := H
  obtain ⟨e1, e2⟩ := hF s h1 h2
  refine wpList_lookup_own_ok_int w hg m x 82 hop 85 3 .i64 mp_law Tryd.underlying82 Tryd.underlying3 (zeroI w) b n D hm hown _ (spLit s) hx (sp_key h1 h2) ?_
  intro c hat _
  rw [e1]
  have hc : c = (((F s).getD 0 : Nat) : Int) := by
    cases q : F s with
    | none =>
      rw [q] at e1
      rw [Maps.atKey_of_not_has e1] at hat
      simp only [DataW.lit.injEq, Lit.int.injEq, true_and] at hat
      rw [← hat]
      rfl
    | some v =>
      rw [e2 v q] at hat
      simp only [DataW.lit.injEq, Lit.int.injEq, true_and] at hat
      exact hat.symm
  rw [hc]
  exact hK
theorem wpList_held_put {ops : Array Oper} {rest : List Oper} {o : Oper} {a : Act} {w : World} {Q : Exit → Act → World → Prop} (hg : o.guard = none) (m x v : Operand) (hop : o.op = Op.mapUpdate 82 m x v)
    (b n : Nat) (F : Sp → Option Nat) (hm : a.eval m = .map (some b)) (H : HeldAt w b n F) (hn : n < maxLen) (s : Sp) (h1 : s.c < 4096) (h2 : s.k < 8) (hx : a.eval x = .agg #[.int .i64 ((s.c : Nat) : Int), .int .i64 ((s.k : Nat) : Int)]) (r : Nat) (hr : r < 4096) (hv : a.eval v = .int .i64 (r : Int))
    (hK : ∀ w', HeldAt w' b (n + 1) (fun t => if t = s then some r else F t) → w.grownBy w' (some b) → wpList Tryd.prog ops Q rest (a.put o.dst undef) w') : wpList Tryd.prog ops Q (o :: rest) a w := by
  obtain ⟨D, hown, hF⟩ := H
  refine wpList_mapUpdate_own w hg m x v 82 hop 85 3 mp_law Tryd.underlying82 _ b n D hm hown hn _ _ (spLit s) hx hv (sp_key h1 h2) _ [] (plainElem_int Tryd.underlying3 (WalkArith.wf_i64 (by omega))) ?_
  intro w' hown' hgrow
  refine hK w' ⟨_, hown', fun t a b => ?_⟩ hgrow
  have hD : Maps.IsMap D := by
    obtain ⟨es, clock, _, _, _, e⟩ := hown
    exact ⟨_, e⟩
  by_cases e : t = s
  · subst e
    simp only [if_true]
    refine ⟨by rw [Maps.has_put_same hD (mp_law.key (sp_key a b))]; rfl, fun v hv => ?_⟩
    injection hv with hv
    subst hv
    exact Maps.atKey_put_same hD (mp_law.key (sp_key a b)) _ _
  · simp only [if_neg e]
    have ne : spLit t ≠ spLit s := fun q => e (spLit_inj a b h1 h2 q)
    rw [Maps.has_put_other ne]
    refine ⟨(hF t a b).1, fun v hv => ?_⟩
    rw [Maps.atKey_put_other ne]
    exact (hF t a b).2 v hv

end Go.Proofs.YtgoggogcbjfofaaDoor

/- Package field: what is next (the closure of grow). -/
namespace Go.Proofs.YtgoggogcbjfofaaDoor
open Go.RowKit
set_option linter.unusedVariables false

/-- All blocks of a world but one lie as they lay. -/
def Mut (M : Nat) (w w' : World) : Prop := w.heap.size ≤ w'.heap.size ∧ ∀ b, b < w.heap.size → b ≠ M → w'.heap[b]? = w.heap[b]?
theorem Mut.refl (M : Nat) (w : World) : Mut M w w := ⟨Nat.le_refl _, fun _ _ _ => rfl⟩
theorem Mut.trans {M : Nat} {a b c : World} (h : Mut M a b) (k : Mut M b c) : Mut M a c := ⟨Nat.le_trans h.1 k.1, fun x hx hm => (k.2 x (Nat.lt_of_lt_of_le hx h.1) hm).trans (h.2 x hx hm)⟩
theorem Mut.new {M : Nat} {a b : World} (h : New a b) : Mut M a b := ⟨h.size, fun x hx _ => h.block x hx⟩
theorem Mut.grown {M : Nat} {a b : World} (h : a.grownBy b (some M)) : Mut M a b := ⟨h.size, fun x hx hm => h.block x hx (fun e => hm (by injection e))⟩
theorem Mut.cell {M : Nat} {a b : World} (h : Mut M a b) {x o : Nat} {v : Value} (hc : a.cell? ⟨x, o, none⟩ = some v) (hm : x ≠ M) : b.cell? ⟨x, o, none⟩ = some v :=
  (World.cell?_of_block (a := ⟨x, o, none⟩) (h.2 x (World.block_lt_of_cell? _ _ hc) hm)).trans hc
theorem HeldAt.sl {w w' : World} {b n : Nat} {F : Sp → Option Nat} (h : HeldAt w b n F) {u : Value} {l : List Sp} (hs : Sl Sp.enc 2 w u l) (hm : Mut b w w') : Sl Sp.enc 2 w' u l := by
  obtain ⟨a, c, rfl, h1, h2, h3, h4⟩ := hs
  refine ⟨a, c, rfl, h1, h2, h3, fun h0 => ?_⟩
  obtain ⟨x, off, rfl, hr⟩ := h4 h0
  refine ⟨x, off, rfl, fun j hj i hi => ?_⟩
  have hc := hr j hj i hi
  exact hm.cell hc (h.nocell hc)

/-- What is held with those of P put to it. -/
def putF (F : Sp → Option Nat) (r : Nat) (P : List Sp) (s : Sp) : Option Nat := match F s with
  | some v => some v
  | none => if s ∈ P then some r else none
theorem putF_nil (F : Sp → Option Nat) (r : Nat) (s : Sp) : putF F r [] s = F s := by
  unfold putF
  cases F s <;> simp
theorem putF_old {F : Sp → Option Nat} {r : Nat} {P : List Sp} {s : Sp} (h : (putF F r P s).isSome = true) (t : Sp) : putF F r (P ++ [s]) t = putF F r P t := by
  unfold putF at h ⊢
  cases q : F t with
  | some v => rfl
  | none =>
    simp only [List.mem_append, List.mem_singleton]
    by_cases e : t = s
    · subst e
      rw [q] at h
      simp only at h
      by_cases p : t ∈ P
      · rw [if_pos (.inl p), if_pos p]
      · rw [if_neg p] at h; cases h
    · by_cases p : t ∈ P
      · rw [if_pos (.inl p), if_pos p]
      · rw [if_neg (by rintro (q | q); exact p q; exact e q), if_neg p]
theorem putF_new {F : Sp → Option Nat} {r : Nat} {P : List Sp} {s : Sp} (h : putF F r P s = none) (t : Sp) : (if t = s then some r else putF F r P t) = putF F r (P ++ [s]) t := by
  by_cases e : t = s
  · subst e
    rw [if_pos rfl]
    unfold putF at h ⊢
    cases q : F t with
    | some v => rw [q] at h; cases h
    | none => simp
  · rw [if_neg e]
    unfold putF
    cases q : F t with
    | some v => rfl
    | none =>
      simp only [List.mem_append, List.mem_singleton]
      by_cases p : t ∈ P
      · simp [p]
      · simp [p, e]
def MemP (l P : List Sp) (F : Sp → Option Nat) : Prop := ∀ s, s ∈ l ↔ s ∈ P ∧ F s = none
theorem MemP.old {l P : List Sp} {F : Sp → Option Nat} {r : Nat} {s : Sp} (h : MemP l P F) (q : (putF F r P s).isSome = true) : MemP l (P ++ [s]) F := fun t => by
  rw [h t, List.mem_append, List.mem_singleton]
  constructor
  · rintro ⟨a, b⟩; exact ⟨.inl a, b⟩
  · rintro ⟨a | a, b⟩
    · exact ⟨a, b⟩
    · subst a
      unfold putF at q
      rw [b] at q
      simp only at q
      by_cases p : t ∈ P
      · exact ⟨p, b⟩
      · rw [if_neg p] at q; cases q
theorem MemP.put {l P : List Sp} {F : Sp → Option Nat} {r : Nat} {s : Sp} (h : MemP l P F) (q : putF F r P s = none) : MemP (l ++ [s]) (P ++ [s]) F := fun t => by
  rw [List.mem_append, List.mem_append, List.mem_singleton, h t]
  have hs : F s = none := by
    unfold putF at q
    cases p : F s with
    | some v => rw [p] at q; cases q
    | none => rfl
  constructor
  · rintro (⟨a, b⟩ | a)
    · exact ⟨.inl a, b⟩
    · subst a; exact ⟨.inr rfl, hs⟩
  · rintro ⟨a | a, b⟩
    · exact .inl ⟨a, b⟩
    · exact .inr a
theorem own_pos {w : World} {base k : Nat} {t : TypeId} {v : Value} {n : Nat} {xs : List Value} (h : w.ownsRow base t k v n xs) (hn : 0 < n) : base ≤ w.heap.size := by
  rcases h.2 with ⟨rfl, h0⟩ | ⟨g, cap, cur, rfl, hb, hg, -⟩
  · omega
  · have := (Array.getElem?_eq_some_iff.1 hg).1
    omega
/-- Those that come in the first i of a round. -/
def rdP (N : Net) (R : List Sp) (i : Nat) : List Sp := (R.take i).flatMap (arP N.go)
theorem rdP_succ (N : Net) (R : List Sp) {i : Nat} (h : i < R.length) : rdP N R (i + 1) = rdP N R i ++ arP N.go R[i] := by
  unfold rdP
  rw [List.take_succ_eq_append_getElem h, List.flatMap_append]
  simp
theorem rdP_len (N : Net) (R : List Sp) : ∀ i, (rdP N R i).length ≤ 8 * i
  | 0 => by simp [rdP]
  | i + 1 => by
    have h1 := rdP_len N R i
    by_cases h : i < R.length
    · rw [rdP_succ N R h, List.length_append]
      have := arP_len (go := N.go) R[i]
      omega
    · have e : rdP N R (i + 1) = rdP N R i := by
        unfold rdP
        rw [List.take_of_length_le (by omega), List.take_of_length_le (by omega)]
      rw [e]
      omega

set_option maxRecDepth 100000 in
/-- One more, and where the row then lies. -/
theorem wpList_app_sp {ops : Array Oper} {rest : List Oper} {o : Oper} {a : Act} {w : World} {Q : Exit → Act → World → Prop} (hgd : o.guard = none) (s x : Operand) (ho : o.op = .call { callee := .builtin .append, args := #[s, x], argTypes := #[96, 96] })
    (base : Nat) (v : Value) (l : List Sp) (hs : a.eval s = v) (hown : w.ownsRow base 85 2 v l.length (l.flatMap Sp.enc)) (g : Nat) (T : Sp) (hx : a.eval x = .slice (some ⟨g, 0, none⟩) 1 1)
    (h0 : w.cell? ⟨g, 0, none⟩ = some (.int .i64 ((T.c : Nat) : Int))) (h1 : w.cell? ⟨g, 1, none⟩ = some (.int .i64 ((T.k : Nat) : Int))) (hl : l.length ≤ 17179869184) (hbase : base ≤ w.heap.size)
    (h : ∀ v' w', w'.ownsRow base 85 2 v' (l ++ [T]).length ((l ++ [T]).flatMap Sp.enc) → w.grownBy w' v.ownBlock → (v'.ownBlock = v.ownBlock ∨ v'.ownBlock = some w.heap.size) → wpList Tryd.prog ops Q rest (a.put o.dst v') w') : wpList Tryd.prog ops Q (o :: rest) a w := by
  obtain ⟨i0, hi0, hz0, hz1, hz2⟩ := info_parts fst_info
  refine wpList_append_own_at w hgd s x 96 ho base 85 i0 (.agg #[.int .i64 0, .int .i64 0]) 2 16 Tryd.underlying96 hi0 hz0 hz1 hz2 rfl (by decide) v l.length (l.flatMap Sp.enc) hs hown ⟨g, 0, none⟩ 1 1 T.enc hx rfl ?_ (Sp.enc_one T) (by unfold maxLen; omega) (by omega) hbase ?_
  · intro j u hj
    match j, hj with
    | 0, hj =>
      injection hj with hj
      subst hj
      exact h0
    | 1, hj =>
      injection hj with hj
      subst hj
      exact h1
    | j + 2, hj => cases hj
  · intro v' w' h2 h3 _ h5
    exact h v' w' (by simpa using h2) h3 h5

/-- What the closure tells. -/
def Nexted (F : Sp → Option Nat) (r : Nat) (P : List Sp) (wB w : World) (M n : Nat) (e : Ending) (w' : World) : Prop := ∃ a c l, e = .returned (.slice a l.length c) ∧ Sl Sp.enc 2 w' (.slice a l.length c) l ∧ (∀ g, (Value.slice a l.length c).ownBlock = some g → w.heap.size ≤ g) ∧ MemP l P F ∧ l.length ≤ P.length ∧ HeldAt w' M (n + P.length) (putF F r P) ∧ Mut M w w' ∧ New wB w'

set_option maxHeartbeats 16000000 in
set_option maxRecDepth 100000 in
theorem fd_next (N : Net) (la : Option Addr) (lc : Nat) (R : List Sp) (hR : ∀ s ∈ R, SpIn N.M s) (hRl : R.length ≤ 1073741824) (r : Nat) (hr : r < 4096) (wB w : World) (hnB : New wB w) (h : RowsK Lk.enc 4 wB (.slice la N.M.length lc) N.M) (hD : Dirs wB) (B0 B1 B2 M n : Nat) (hM : wB.heap.size ≤ M) (hn : n ≤ 17179869184) (hG : GnAt N.W (.slice la N.M.length lc) wB B0) (ra : Option Addr) (rc : Nat) (c1 : w.cell? ⟨B1, 0, none⟩ = some (.slice ra R.length rc)) (hS : Sl Sp.enc 2 w (.slice ra R.length rc) R) (c2 : w.cell? ⟨B2, 0, none⟩ = some (.map (some M))) (F : Sp → Option Nat) (hH : HeldAt w M n F) : Calls Tryd.prog 57 #[.int .i64 (r : Nat), .pointer (some ⟨B1, 0, none⟩), .pointer (some ⟨B0, 0, none⟩), .pointer (some ⟨B2, 0, none⟩)] w (Nexted F r (rdP N R R.length) wB w M n) := by
  obtain ⟨i0, hi0, hz0, hz1, hz2⟩ := info_parts fst_info
  have KA := Lib.hid (fun s hs W (q : New wB W) => fd_around N la lc s hs wB W q h (hD.new q))
  have HG := Lib.hid (fun W (q : New wB W) => hG.new q)
  have HRI := Lib.hid hR
  have HSM := Lib.hid (fun s hs => N.small (s := s) (hR s hs))
  have HAI : Hid (∀ s ∈ R, ∀ t ∈ arP N.go s, t.c < 4096 ∧ t.k < 8) := Lib.hid (fun s hs t ht => N.small (N.sym s (hR s hs) t ht).1)
  have HPS := Lib.hid (fun i (hi : i < R.length) => rdP_succ N R hi)
  have HPL := Lib.hid (fun i => rdP_len N R i)
  have HP0 : Hid (rdP N R 0 = []) := Lib.hid (by unfold rdP; simp)
  have hM2 : M < w.heap.size := hH.lt
  have hb1 := World.block_lt_of_cell? _ _ c1
  have hb2 := World.block_lt_of_cell? _ _ c2
  simp only [] at hb1 hb2
  have n1 := hH.nocell c1
  have n2 := hH.nocell c2
  have HSL : Hid (∀ W, Mut M w W → Sl Sp.enc 2 W (.slice ra R.length rc) R) := Lib.hid (fun W q => hH.sl hS q)
  have HC2 : Hid (∀ W, Mut M w W → W.cell? ⟨B2, 0, none⟩ = some (.map (some M))) := Lib.hid (fun W q => q.cell c2 n2)
  have HAL := Lib.hid (fun s => arP_len (go := N.go) s)
  obtain ⟨nm, hnm⟩ : ∃ n, n = N.M.length := ⟨_, rfl⟩
  rw [← hnm] at KA HG
  obtain ⟨wd, hwd⟩ : ∃ q, q = N.W := ⟨_, rfl⟩
  rw [← hwd] at KA HG
  obtain ⟨rn, hrn⟩ : ∃ q, q = R.length := ⟨_, rfl⟩
  rw [← hrn] at HSL c1 hRl ⊢
  have HRN := Lib.hid hrn
  have HH := Lib.hid hH
  have HnB := Lib.hid hnB
  have HMB := Lib.hid hM
  have hg0 := World.block_lt_of_cell? _ _ hG.c0
  simp only [] at hg0
  have hgw : B0 < w.heap.size := Nat.lt_of_lt_of_le hg0 hnB.size
  clear hnm hwd h hD hnB hR hG hS hH hrn hM
  generalize rdP N R = pf at *
  obtain ⟨Q, hQ⟩ : ∃ Q, Q = Nexted F r (pf rn) wB w M n := ⟨_, rfl⟩
  rw [← hQ]
  have HQ := Lib.hid hQ
  clear hQ
  obtain ⟨base, hbase⟩ : ∃ q, q = w.heap.size := ⟨_, rfl⟩
  have HB := Lib.hid hbase
  go_enter Tryd.func57, Tryd.ntmps57
  go_wp2_with fail
  clear c1 c2
  rw [← hbase] at hM2
  clear hbase
  go_loopg [14, 5] rn (fun gk s14 s5 wr => ∃ (i : Nat) (ca : Option Addr) (cn cc : Nat) (l : List Sp), s14 = .int .i64 i ∧ s5 = .slice ca cn cc ∧ i ≤ rn ∧ rn - i ≤ gk ∧ Hid (wr.ownsRow base 85 2 (.slice ca cn cc) l.length (l.flatMap Sp.enc)) ∧ Hid (MemP l (pf i) F ∧ l.length ≤ (pf i).length) ∧ Hid (HeldAt wr M (n + (pf i).length) (putF F r (pf i))) ∧ Hid (Mut M w wr) ∧ Hid (New wB wr))
  case atStart => exact ⟨0, none, 0, 0, [], rfl, rfl, by omega, by omega, Lib.hid (World.ownsRow_nil _ _ _ _), Lib.hid ⟨by rw [HP0.out]; intro s; simp, by simp⟩, Lib.hid (HH.out.congr (by omega) (fun s _ _ => by rw [HP0.out, putF_nil])), Lib.hid (Mut.refl _ _), HnB⟩
  case round =>
    obtain ⟨i, ca, cn, cc, l, rfl, rfl, hi, hgk, hown, hl, hheld, hmut, hnr⟩ := hrel
    by_cases hlt : i < rn
    · have hil : i < R.length := by rw [← HRN.out]; exact hlt
      obtain ⟨-, -, -, -, hrow⟩ := (HSL.out _ hmut.out).row'
      obtain ⟨b, off, rfl, hA⟩ := hrow (by omega)
      obtain ⟨e0, e1⟩ := Sp.cells hA i hil
      have hmem : R[i] ∈ R := List.getElem_mem hil
      have hin := HRI.out R[i] hmem
      have KAi := Lib.hid (KA.out R[i] hin)
      have hps := HPS.out i hil
      have hal := HAL.out R[i]
      have hai := Lib.hid (HAI.out R[i] hmem)
      obtain ⟨S, hS⟩ : ∃ q, q = R[i] := ⟨_, rfl⟩
      rw [← hS] at KAi hps hal hai e0 e1
      clear hmem hin hS hA hrow
      obtain ⟨ar, har⟩ : ∃ q, q = arP N.go S := ⟨_, rfl⟩
      rw [← har] at KAi hps hal hai
      have HPSI := Lib.hid hps
      have hpl := HPL.out i
      obtain ⟨P, hP⟩ : ∃ q, q = pf i := ⟨_, rfl⟩
      rw [← hP] at hl hheld HPSI hpl
      obtain ⟨al, hal2⟩ : ∃ q, q = ar.length := ⟨_, rfl⟩
      rw [← hal2] at KAi hal
      have HAR := Lib.hid hal2
      have HGK := Lib.hid hgk
      clear har hps hP hal2 hgk
      rename World => Wo
      go_upto_region 4 with fail
      refine Code.at (fun W5 hW => ?_)
      have n5 : New Wo W5 := by subst hW; (repeat (first | (with_reducible exact New.refl _) | (with_reducible assumption) | ((with_reducible refine New.setB ?_ ?_ _); focus (first | omega | (simp; omega) | (simp; done))) | (with_reducible refine New.alloc ?_ _) | (with_reducible refine New.drew ?_) | (with_reducible refine New.drewN ?_ _) | (with_reducible refine New.hat ?_ _) | ((with_reducible apply New.snart); (with_reducible assumption))))
      have HQ5 : Hid (SpAt S W5 Wo.heap.size) := Lib.hid (by subst hW; exact ⟨by go_simp, by go_simp⟩)
      clear hW e0 e1
      have N5 := Lib.hid (hnr.out.trans n5)
      have M5 := Lib.hid (hmut.out.trans (Mut.new n5))
      have HO5 := Lib.hid (own_new hown.out n5)
      have HH5 := Lib.hid (hheld.out.new n5)
      clear n5 hown hheld hmut hnr
      obtain ⟨q0, q1⟩ := HQ5.out
      obtain ⟨g0, g1⟩ := HG.out _ N5.out
      go_wp2_with fail
      refine (KAi.out _ N5.out).mono ?_
      rintro e w6 ⟨a6, c6, rfl, hs6, hg6, n6⟩
      have HAP : Hid (∀ g, (Value.slice ca cn cc).ownBlock = some g → (Value.slice a6 al c6).ownBlock ≠ some g) := Lib.hid (fun g e e2 => by
        have h1 := (HO5.out.lt g e).2
        have h2 := hg6 g e2
        omega)
      replace N5 := Lib.hid (N5.out.trans n6)
      replace M5 := Lib.hid (M5.out.trans (Mut.new n6))
      replace HO5 := Lib.hid (own_new HO5.out n6)
      replace HH5 := Lib.hid (HH5.out.new n6)
      have HS6 := Lib.hid hs6
      clear n6 g0 g1 q0 q1 KAi hs6 HQ5 hg6
      go_wp2_with fail
      go_loopg [22, 5] al (fun gk s22 s5 wr => ∃ (j : Nat) (ca : Option Addr) (cn cc : Nat) (l : List Sp), s22 = .int .i64 j ∧ s5 = .slice ca cn cc ∧ j ≤ al ∧ al - j ≤ gk ∧ Hid (wr.ownsRow base 85 2 (.slice ca cn cc) l.length (l.flatMap Sp.enc)) ∧ Hid (MemP l (P ++ ar.take j) F ∧ l.length ≤ (P ++ ar.take j).length) ∧ Hid (HeldAt wr M (n + (P ++ ar.take j).length) (putF F r (P ++ ar.take j))) ∧ Hid (Sl Sp.enc 2 wr (.slice a6 al c6) ar) ∧ Hid (∀ g, (Value.slice ca cn cc).ownBlock = some g → (Value.slice a6 al c6).ownBlock ≠ some g) ∧ Hid (Mut M w wr) ∧ Hid (New wB wr))
      case atStart => exact ⟨0, ca, cn, cc, l, rfl, rfl, by omega, by omega, HO5, Lib.hid (by rw [List.take_zero, List.append_nil]; exact hl.out), Lib.hid (by rw [List.take_zero, List.append_nil]; exact HH5.out), HS6, HAP, M5, N5⟩
      case round =>
        clear HO5 HH5 N5 hl M5 HS6 HAP
        obtain ⟨j, ca, cn, cc, l, rfl, rfl, hj, hgk, hown, hl, hheld, HS6, HAP, hmut, hnr⟩ := hrel
        by_cases hjt : j < al
        · have hjl : j < ar.length := by rw [← HAR.out]; exact hjt
          obtain ⟨-, -, -, -, hrow⟩ := HS6.out.row'
          obtain ⟨b, off, rfl, hA⟩ := hrow (by omega)
          obtain ⟨e0, e1⟩ := Sp.cells hA j hjl
          have htk : ar.take (j + 1) = ar.take j ++ [ar[j]] := List.take_succ_eq_append_getElem hjl
          obtain ⟨hsc, hsk⟩ := hai.out ar[j] (List.getElem_mem hjl)
          have hm2 := HC2.out _ hmut.out
          obtain ⟨T, hT⟩ : ∃ q, q = ar[j] := ⟨_, rfl⟩
          rw [← hT] at e0 e1 htk hsc hsk
          have hPl : (P ++ ar.take j).length ≤ 8 * i + 8 := by rw [List.length_append, List.length_take]; omega
          have htk2 : P ++ ar.take (j + 1) = (P ++ ar.take j) ++ [T] := by rw [htk, List.append_assoc]
          have HTK := Lib.hid htk2
          obtain ⟨PP, hPP⟩ : ∃ q, q = P ++ ar.take j := ⟨_, rfl⟩
          rw [← hPP] at hl hheld HTK hPl
          clear hT htk htk2 hPP hA hrow
          rename World => Wi
          go_upto_region 7 with fail
          refine Code.at (fun W7 hW => ?_)
          have n7 : New Wi W7 := by subst hW; (repeat (first | (with_reducible exact New.refl _) | (with_reducible assumption) | ((with_reducible refine New.setB ?_ ?_ _); focus (first | omega | (simp; omega) | (simp; done))) | (with_reducible refine New.alloc ?_ _) | (with_reducible refine New.drew ?_) | (with_reducible refine New.drewN ?_ _) | (with_reducible refine New.hat ?_ _) | ((with_reducible apply New.snart); (with_reducible assumption))))
          have HQ7 : Hid (SpAt T W7 Wi.heap.size) := Lib.hid (by subst hW; exact ⟨by go_simp, by go_simp⟩)
          clear hW e0 e1
          replace hm2 := n7.keep hm2
          have N7 := Lib.hid (hnr.out.trans n7)
          have M7 := Lib.hid (hmut.out.trans (Mut.new n7))
          have HO7 := Lib.hid (own_new hown.out n7)
          have HH7 := Lib.hid (hheld.out.new n7)
          replace HS6 := Lib.hid (HS6.out.keep n7)
          clear n7 hown hheld hmut hnr
          obtain ⟨q0, q1⟩ := HQ7.out
          obtain ⟨o, ho⟩ : ∃ o, o = putF F r PP T := ⟨_, rfl⟩
          have HPO := Lib.hid ho
          clear ho
          go_upto_region 8 with (at_lookup; refine wpList_held rfl _ _ rfl M (n + PP.length) (putF F r PP) rfl HH7.out T hsc hsk rfl ?_; rw [← HPO.out])
          rcases o with _ | v
          · have hF : Hid (putF F r PP T = none) := Lib.hid HPO.out.symm
            clear HPO
            simp only [Option.isSome_none, Option.getD_none]
            go_upto_region 10 with (at_mapUpdate; refine wpList_held_put rfl _ _ _ rfl M (n + PP.length) (putF F r PP) rfl HH7.out (by unfold maxLen; omega) T hsc hsk rfl r hr rfl ?_; intro w8 hheld8 hgrow8)
            have HH8 : Hid (HeldAt w8 M (n + (PP ++ [T]).length) (putF F r (PP ++ [T]))) := Lib.hid (hheld8.congr (by simp; omega) (fun t _ _ => putF_new hF.out t))
            have HO8 := Lib.hid (HO7.out.kept hgrow8 (by
              right
              intro e
              have := own_block HO7.out M e
              omega))
            have M8 := Lib.hid (M7.out.trans (Mut.grown hgrow8))
            have HS8 := Lib.hid (HH7.out.sl HS6.out (Mut.grown hgrow8))
            have N8 := Lib.hid (newGrown N7.out hgrow8 (fun k e => by injection e with e; have := HMB.out; omega))
            have hqn : Wi.heap.size ≠ M := HH7.out.nocell q0
            have q0' := hgrow8.cell q0 (by simpa using hqn)
            have q1' := hgrow8.cell q1 (by simpa using hqn)
            have HML : Hid (MemP (l ++ [T]) (PP ++ [T]) F ∧ (l ++ [T]).length ≤ (PP ++ [T]).length) := Lib.hid ⟨hl.out.1.put hF.out, by have := hl.out.2; simp; omega⟩
            have hll : l.length ≤ 8 * i + 8 := by have := hl.out.2; omega
            have hbz : base ≤ w8.heap.size := by rw [HB.out]; exact M8.out.1
            clear hheld8 hgrow8 HO7 HH7 M7 N7 q0 q1 hl hF hm2 HS6
            go_upto_region 10 with fail
            obtain ⟨w9, hw9⟩ : ∃ q, q = w8.alloc (.cells #[.int .i64 ((T.c : Nat) : Int), .int .i64 ((T.k : Nat) : Int)] 85) := ⟨_, rfl⟩
            have n9 : New w8 w9 := by subst hw9; exact (New.refl _).alloc _
            have t0 : w9.cell? ⟨w8.heap.size, 0, none⟩ = some (.int .i64 ((T.c : Nat) : Int)) := by subst hw9; exact cell_of_heap (heap_new _ _) rfl
            have t1 : w9.cell? ⟨w8.heap.size, 1, none⟩ = some (.int .i64 ((T.k : Nat) : Int)) := by subst hw9; exact cell_of_heap (heap_new _ _) rfl
            have HO9 := Lib.hid (own_new HO8.out n9)
            have HH9 := Lib.hid (HH8.out.new n9)
            have HS9 := Lib.hid (HS8.out.keep n9)
            have M9 := Lib.hid (M8.out.trans (Mut.new n9))
            have N9 := Lib.hid (N8.out.trans n9)
            have hbz9 : base ≤ w9.heap.size := Nat.le_trans hbz n9.size
            go_wp2_with (at_builtin; rw [← hw9]; refine wpList_app_sp rfl _ _ rfl base _ l rfl HO9.out w8.heap.size T rfl t0 t1 (by omega) hbz9 ?_; intro v' w1 hown' hgrow hat; obtain ⟨a', d', N', hN', rfl⟩ := own_shape2 hown'; clear hN')
            have hob := own_block HO9.out
            replace hgrow : w9.grownBy w1 (Value.slice ca cn cc).ownBlock := hgrow
            replace hat : (Value.slice a' N' d').ownBlock = (Value.slice ca cn cc).ownBlock ∨ (Value.slice a' N' d').ownBlock = some w9.heap.size := hat
            have hnx : Hid (Sl Sp.enc 2 w1 (.slice (some ⟨b, off, none⟩) al c6) ar) := Lib.hid (slk_other HS9.out hgrow (fun _ g e e2 => HAP.out g e2 e))
            have HAP' : Hid (∀ g, (Value.slice a' N' d').ownBlock = some g → (Value.slice (some ⟨b, off, none⟩) al c6).ownBlock ≠ some g) := Lib.hid (fun g e e2 => by
              rcases hat with q | q
              · exact HAP.out g (by rw [← q]; exact e) e2
              · have h1 := slk_lt Sp.enc_len (by omega) HS9.out (by omega) e2
                rw [q] at e
                injection e with e
                omega)
            have HH10 : Hid (HeldAt w1 M (n + (P ++ ar.take (j + 1)).length) (putF F r (P ++ ar.take (j + 1)))) := Lib.hid (by
              rw [HTK.out]
              exact HH9.out.kept hgrow (fun e => by have := hob M e.symm; omega))
            have HL10 : Hid (MemP (l ++ [T]) (P ++ ar.take (j + 1)) F ∧ (l ++ [T]).length ≤ (P ++ ar.take (j + 1)).length) := Lib.hid (by rw [HTK.out]; exact HML.out)
            have M10 : Hid (Mut M w w1) := Lib.hid ⟨Nat.le_trans M9.out.1 hgrow.size, fun x hx hne => by
              rw [hgrow.block x (Nat.lt_of_lt_of_le hx M9.out.1) (fun e => by have := hob x e.symm; have := HB.out; omega)]
              exact M9.out.2 x hx hne⟩
            have N10 := Lib.hid (newGrown N9.out hgrow (fun k e => by have := hob k e; have := HB.out; have := HnB.out.size; omega))
            clear hgrow hat hob HO9 HH9 HS9 M9 N9
            go_roundg (al - (j + 1))
            case measure => omega
            case rel => exact ⟨j + 1, a', N', d', l ++ [T], by go_num, rfl, by omega, by omega, Lib.hid hown', HL10, HH10, hnx, HAP', M10, N10⟩
          · have hF : Hid ((putF F r PP T).isSome = true) := Lib.hid (by rw [← HPO.out]; rfl)
            clear HPO
            simp only [Option.isSome_some]
            have HH9 : Hid (HeldAt W7 M (n + (P ++ ar.take (j + 1)).length) (putF F r (P ++ ar.take (j + 1)))) := Lib.hid (by
              rw [HTK.out]
              exact HH7.out.congr (by rw [List.length_append]; omega) (fun t _ _ => (putF_old hF.out t).symm))
            have HL9 : Hid (MemP l (P ++ ar.take (j + 1)) F ∧ l.length ≤ (P ++ ar.take (j + 1)).length) := Lib.hid (by
              rw [HTK.out]
              exact ⟨hl.out.1.old hF.out, by have := hl.out.2; simp; omega⟩)
            clear HH7 hl hF q0 q1 hm2
            go_wp2_with fail
            go_roundg (al - (j + 1))
            case measure => omega
            case rel => exact ⟨j + 1, ca, cn, cc, l, by go_num, rfl, by omega, by omega, HO7, HL9, HH9, HS6, HAP, M7, N7⟩
        · obtain rfl : j = al := by omega
          have hfull : P ++ ar.take j = pf (i + 1) := by rw [HPSI.out, List.take_of_length_le (by rw [HAR.out]; exact Nat.le_refl _)]
          rw [hfull] at hl hheld
          clear hfull
          have hgk := HGK.out
          go_wp2_with fail
          go_roundg (rn - (i + 1))
          case measure => omega
          case rel => exact ⟨i + 1, ca, cn, cc, l, by go_num, rfl, by omega, by omega, hown, hl, hheld, hmut, hnr⟩
    · obtain rfl : i = rn := by omega
      have hsl := own_sl Sp.enc_len hown.out
      obtain ⟨a1, c1, e1, -⟩ := id hsl
      injection e1 with e1 e2 e3
      subst e1 e2 e3
      have hob : ∀ g, (Value.slice ca l.length cc).ownBlock = some g → w.heap.size ≤ g := fun g e => by rw [← HB.out]; exact own_block hown.out g e
      have HOB := Lib.hid hob
      have HEND := Lib.hid (And.intro hsl (And.intro hl.out (And.intro hheld.out (And.intro hmut.out hnr.out))))
      clear hown hsl hl hheld hmut hnr hob
      go_wp2_with fail
      rw [HQ.out]
      exact ⟨_, _, l, rfl, HEND.out.1, HOB.out, HEND.out.2.1.1, HEND.out.2.1.2, HEND.out.2.2.1, HEND.out.2.2.2.1, HEND.out.2.2.2.2⟩

end Go.Proofs.YtgoggogcbjfofaaDoor
