import Derived.Test.YtklopjbpfddgfaaOgOZ11
import Derived.Test.YtklopjbpfddgfaaFiEZ11

/- Package open: All, as a contract by places. -/
namespace Go.Proofs.Ytklopjbpfddgfaa
open Go.RowKit Go.Shelf Go.Sort
set_option linter.unusedVariables false
attribute [local go_sem] Oper.semAt_some

def stA (s : St) : Array Value := #[.agg #[.int .i64 s.x, .int .i64 s.z, .int .i64 s.y], .agg #[.int .i64 s.f.y, .int .i64 s.f.top, .int .i64 s.f.area]]
/-- The block that a row stands in; where there is none, B. -/
def rowBS (l : List St) (at0 : Option Addr) (B : Nat) : Nat := match l, at0 with
  | _ :: _, some a => a.block
  | _, _ => B
theorem rowBS_pos {l : List St} {a : Addr} {B : Nat} (h : 0 < l.length) : rowBS l (some a) B = a.block := by
  cases l with
  | nil => simp at h
  | cons x xs => rfl
/-- A slice in a block of its own. -/
structure StBox (w : World) (B : Nat) (at0 : Option Addr) (cap : Nat) (l : List St) : Prop where
  box : w.heap[B]? = some (.cells #[.slice at0 l.length cap] 64 (0, 0))
  row : RowIn St.enc 6 w at0 l
theorem StBox.lt {w : World} {B : Nat} {at0 : Option Addr} {cap : Nat} {l : List St} (h : StBox w B at0 cap l) : B < w.heap.size := (Array.getElem?_eq_some_iff.1 h.box).1
def stS (B : Nat) (at0 : Option Addr) (l : List St) : List Nat := [B, rowBS l at0 B]
theorem StBox.keep {w W : World} {B : Nat} {at0 : Option Addr} {cap : Nat} {l : List St} (h : StBox w B at0 cap l) (k : KeepS (stS B at0 l) w W) : StBox W B at0 cap l :=
  ⟨(k B (by simp [stS])).trans h.box, fun h0 => by
    obtain ⟨b, off, rfl, hr⟩ := h.row h0
    have k2 := k (rowBS l (some ⟨b, off, none⟩) B) (by simp [stS])
    rw [rowBS_pos h0] at k2
    exact ⟨b, off, rfl, fun j hj i hi => (World.cell?_of_block (a := ⟨b, off + j * 6 + i, none⟩) k2).trans (hr j hj i hi)⟩⟩
theorem StBox.row_lt {w : World} {B : Nat} {at0 : Option Addr} {cap : Nat} {l : List St} (h : StBox w B at0 cap l) : rowBS l at0 B < w.heap.size := by
  cases l with
  | nil => exact h.lt
  | cons x xs =>
    obtain ⟨b, off, rfl, hr⟩ := h.row (by simp)
    exact World.block_lt_of_cell? _ _ (hr 0 (by simp) 0 (by rw [St.enc_len]; omega))
theorem StBox.in_lt {w : World} {B : Nat} {at0 : Option Addr} {cap : Nat} {l : List St} (h : StBox w B at0 cap l) : ∀ b ∈ stS B at0 l, b < w.heap.size := fun b hb => by
  simp only [stS, List.mem_cons, List.not_mem_nil, or_false] at hb
  rcases hb with rfl | rfl
  · exact h.lt
  · exact h.row_lt
theorem StBox.new {w W : World} {B : Nat} {at0 : Option Addr} {cap : Nat} {l : List St} (h : StBox w B at0 cap l) (n : New w W) : StBox W B at0 cap l := h.keep (KeepS.new h.in_lt n)
theorem StBox.cell {w : World} {B : Nat} {at0 : Option Addr} {cap : Nat} {l : List St} (h : StBox w B at0 cap l) : w.cell? ⟨B, 0, none⟩ = some (.slice at0 l.length cap) := cell_of_heap h.box rfl

set_option maxHeartbeats 4000000 in
set_option maxRecDepth 100000 in
theorem og_all1 (at0 : Option Addr) (l : List St) (cap B : Nat) (hl : l.length ≤ 100000) (n : Nat) (hn : 1 ≤ n) (w : World) (H : StBox w B at0 cap l) :
    SeqL Fence.wide n Try.prog 27 #[.pointer (some ⟨B, 0, none⟩)] stA l (KeepS (stS B at0 l)) w := by
  intro lp J Jx W hW hJ hJx hY h0
  have H0 := Lib.hid (H.new hW)
  have HY := Lib.hid hY
  have HJ := Lib.hid hJ
  have HJ0 : Hid (J 0 W) := h0
  clear hY h0 H hW hJ hJx
  simp only [List.append_toArray, List.cons_append, List.nil_append]
  refine callsIn_of_wp Try.func27 rfl trivial ?_ rfl
  simp only [Try.ntmps27, List.size_toArray, List.length_cons, List.length_nil, Nat.reduceAdd, Nat.reduceSub, Array.replicate_succ, Array.replicate_zero, List.push_toArray, List.append_toArray, List.nil_append, List.cons_append]
  have c0 := H0.out.cell
  obtain ⟨m, hm⟩ : ∃ m, m = l.length := ⟨_, rfl⟩
  rw [← hm] at c0 hl ⊢
  have HM := Lib.hid hm
  clear hm
  gi_wp2_with fail
  gi_loopw [7] (fun vz wr => ∃ k : Nat, vz = .int .i64 k ∧ k ≤ m ∧ Hid (J k wr) ∧ Hid (StBox wr B at0 cap l) ∧ Hid (W.heap.size ≤ wr.heap.size))
    (fun vz _ => m - (intOf vz).toNat)
  case atStart => exact ⟨0, by simp, Nat.zero_le _, HJ0, H0, Lib.hid (Nat.le_refl _)⟩
  case round =>
    clear c0 H0 HJ0
    obtain ⟨k, rfl, hk, hJ1, HB, HZ⟩ := hrel
    by_cases hlt : k < m
    · have hkl : k < l.length := by rw [← HM.out]; exact hlt
      obtain ⟨b0, off, rfl, hA⟩ := HB.out.row (by omega)
      obtain ⟨d0, d1, d2, d3, d4, d5⟩ := St.cells hA k hkl
      have hyall := fun U q => HY.out k hkl U q
      unfold stA at hyall
      obtain ⟨s, hs⟩ : ∃ s, s = l[k] := ⟨_, rfl⟩
      rw [← hs] at d0 d1 d2 d3 d4 d5 hyall
      have HYA := Lib.hid hyall
      clear hyall hs hA hkl
      have nU : New wr (wr.alloc (.cells #[.int .i64 s.x, .int .i64 s.z, .int .i64 s.y, .int .i64 s.f.y, .int .i64 s.f.top, .int .i64 s.f.area] 68)) := by (repeat (first | (with_reducible exact New.refl _) | (with_reducible assumption) | ((with_reducible refine New.setB ?_ ?_ _); focus (first | omega | (simp; omega) | (simp; done))) | (with_reducible refine New.alloc ?_ _) | (with_reducible refine New.drew ?_) | (with_reducible refine New.drewN ?_ _) | (with_reducible refine New.hat ?_ _) | ((with_reducible apply New.snart); (with_reducible assumption))))
      obtain ⟨fn, tmps, assign, body, hy, hR⟩ := HYA.out _ (own_over HJ.out hJ1.out nU)
      have HU := Lib.hid (And.intro (HB.out.new nU) (Nat.le_trans HZ.out nU.size))
      have hbz := World.block_lt_of_cell? _ _ d0
      clear HYA nU
      gi_wp2_with fail
      refine hR.mono ?_
      clear hy hR
      rintro e W5 (⟨rfl, kf, kp, hJ5⟩ | ⟨rfl, -, hJx5⟩)
      · have HB5 := Lib.hid (HU.out.1.keep kp)
        have HZ5 : Hid (W.heap.size ≤ W5.heap.size) := Lib.hid (Nat.le_trans HU.out.2 kf.size)
        have hJ6 : Hid (J (k + 1) W5) := hJ5
        clear hJ5 kp kf
        gi_wp2_with fail
        go_roundw
        case rel => exact ⟨k + 1, by congr 1, by omega, hJ6, HB5, HZ5⟩
        case measure => simp [intOf]; omega
      · have hJ6 := Lib.hid hJx5
        gi_wp2_with fail
        refine bodyPost_ret (results_none rfl _ _ _) rfl ?_
        exact ⟨⟨_, rfl⟩, .inr ⟨k + 1, by omega, by omega, hJ6.out⟩⟩
    · obtain rfl : k = m := by omega
      gi_wp2_with fail
      go_end0
      exact ⟨⟨_, rfl⟩, .inl hJ1.out⟩

/-- What All answers: a function that goes over all floors. -/
def Alled (L : List St) (w : World) (e : Ending) (w' : World) : Prop :=
  New w w' ∧ ∃ (B : Nat) (at0 : Option Addr) (cap : Nat), e = .returned (.func (.func 27) #[] #[.pointer (some ⟨B, 0, none⟩)]) ∧ StBox w' B at0 cap L ∧ ∀ b ∈ stS B at0 L, w.heap.size ≤ b

set_option maxHeartbeats 2000000 in
set_option maxRecDepth 100000 in
theorem og_All (G : Gd) (w : World) (h : G.ok w) : Calls Try.prog 17 #[.agg #[.int .i64 G.x, .int .i64 G.z, .int .i64 G.w, .int .i64 G.d, .slice G.ga G.L.length G.gc]] w (Alled (allG (colG G)) w) := by
  have KC := Lib.hid (fun W n => og_columnsOf G W (h.keep (n : New w W)))
  have KA := Lib.hid (fun W n => og_stands (colG G) (colG_E G) W (colG_ok (h.keep (n : New w W))))
  obtain ⟨n, hn⟩ : ∃ n, n = G.L.length := ⟨_, rfl⟩
  rw [← hn] at KC ⊢
  clear hn h
  obtain ⟨n2, hn2⟩ : ∃ n2, n2 = (colG G).L.length := ⟨_, rfl⟩
  obtain ⟨L, hL⟩ : ∃ L, L = allG (colG G) := ⟨_, rfl⟩
  rw [← hL] at KA ⊢
  rw [← hn2] at KC KA
  clear hn2 hL
  generalize (colG G).x = cx at *
  generalize (colG G).z = cz at *
  generalize (colG G).w = cw at *
  generalize (colG G).d = cd at *
  generalize (colG G).ga = cga at *
  generalize (colG G).gc = cgc at *
  obtain ⟨Q, hQ⟩ : ∃ Q, Q = Alled L w := ⟨_, rfl⟩
  rw [← hQ]
  have HQ := Lib.hid hQ
  clear hQ
  go_enter Try.func17, Try.ntmps17
  go_wp2_with fail
  refine (KC.out _ (by (repeat (first | (with_reducible exact New.refl _) | (with_reducible assumption) | ((with_reducible refine New.setB ?_ ?_ _); focus (first | omega | (simp; omega) | (simp; done))) | (with_reducible refine New.alloc ?_ _) | (with_reducible refine New.drew ?_) | (with_reducible refine New.drewN ?_ _) | (with_reducible refine New.hat ?_ _) | ((with_reducible apply New.snart); (with_reducible assumption)))))).mono ?_
  rintro e w1 ⟨rfl, n1⟩
  have N1 : New w w1 := New.trans (by (repeat (first | (with_reducible exact New.refl _) | (with_reducible assumption) | ((with_reducible refine New.setB ?_ ?_ _); focus (first | omega | (simp; omega) | (simp; done))) | (with_reducible refine New.alloc ?_ _) | (with_reducible refine New.drew ?_) | (with_reducible refine New.drewN ?_ _) | (with_reducible refine New.hat ?_ _) | ((with_reducible apply New.snart); (with_reducible assumption))))) n1
  clear n1
  go_wp2_with fail
  refine (KA.out _ N1).mono ?_
  rintro e w2 ⟨v, base, rfl, hbs, ho, n2⟩
  have N2 := N1.trans n2
  have hb1 := Nat.le_trans N1.size hbs
  have hsl : Sl St.enc 6 w2 v L := own_sl St.enc_len ho
  obtain ⟨a, c, rfl, h1, h2, h3, h4⟩ := hsl
  have HO := Lib.hid (And.intro h4 ho)
  clear n2 N1 h1 h2 h3 h4 ho
  go_wp2_with fail
  rw [HQ.out]
  show Alled L w (.returned (.func (.func 27) #[] #[.pointer (some ⟨w2.heap.size, 0, none⟩)])) (w2.alloc (.cells #[.slice a L.length c] 64))
  have n3 : New w2 (w2.alloc (.cells #[.slice a L.length c] 64)) := by (repeat (first | (with_reducible exact New.refl _) | (with_reducible assumption) | ((with_reducible refine New.setB ?_ ?_ _); focus (first | omega | (simp; omega) | (simp; done))) | (with_reducible refine New.alloc ?_ _) | (with_reducible refine New.drew ?_) | (with_reducible refine New.drewN ?_ _) | (with_reducible refine New.hat ?_ _) | ((with_reducible apply New.snart); (with_reducible assumption))))
  have hz := N2.size
  refine ⟨N2.trans n3, w2.heap.size, a, c, rfl, ⟨World.alloc_heap_new _ _, HO.out.1.keep n3⟩, fun b hb => ?_⟩
  simp only [stS, List.mem_cons, List.not_mem_nil, or_false] at hb
  rcases hb with rfl | rfl
  · exact hz
  · have h4 := HO.out.1
    have ho := HO.out.2
    cases L with
    | nil => exact hz
    | cons x xs =>
      obtain ⟨b, off, rfl, -⟩ := h4 (by simp)
      have := own_block ho b rfl
      show w.heap.size ≤ b
      omega

end Go.Proofs.Ytklopjbpfddgfaa
