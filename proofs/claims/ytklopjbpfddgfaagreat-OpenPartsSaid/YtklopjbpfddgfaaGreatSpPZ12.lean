import Derived.Test.YtklopjbpfddgfaaGreatSoAZ12
import Derived.Test.YtklopjbpfddgfaaGreatSpBZ12
import Derived.Deep.DeepCutAuto

/- Triangles, boxes, hops, soups, as they lie in memory. No function of the program in sight. -/
namespace Go.Proofs.YtklopjbpfddgfaaGreat
open Go.ChangeShapes Go.WideShapes Go.RowKit Go.Deep
set_option linter.unusedVariables false

structure TriR where
  (i x0 y0 z0 x1 y1 z1 x2 y2 z2 : Int)
structure BoxR where
  (i x0 z0 x1 z1 y0 y1 ar : Int)
structure HopR where
  (i fx fz fy tx tz ty : Int)
  bo : Bool
  (ar co : Int)
instance : Inhabited TriR := ⟨⟨0, 0, 0, 0, 0, 0, 0, 0, 0, 0⟩⟩
instance : Inhabited BoxR := ⟨⟨0, 0, 0, 0, 0, 0, 0, 0⟩⟩
instance : Inhabited HopR := ⟨⟨0, 0, 0, 0, 0, 0, 0, false, 0, 0⟩⟩
def TriR.zero : TriR := ⟨0, 0, 0, 0, 0, 0, 0, 0, 0, 0⟩
def BoxR.zero : BoxR := ⟨0, 0, 0, 0, 0, 0, 0, 0⟩
def HopR.zero : HopR := ⟨0, 0, 0, 0, 0, 0, 0, false, 0, 0⟩
def TriR.eqB (a b : TriR) : Bool := a.i == b.i && a.x0 == b.x0 && a.y0 == b.y0 && a.z0 == b.z0 && a.x1 == b.x1 && a.y1 == b.y1 && a.z1 == b.z1 && a.x2 == b.x2 && a.y2 == b.y2 && a.z2 == b.z2
def BoxR.eqB (a b : BoxR) : Bool := a.i == b.i && a.x0 == b.x0 && a.z0 == b.z0 && a.x1 == b.x1 && a.z1 == b.z1 && a.y0 == b.y0 && a.y1 == b.y1 && a.ar == b.ar
def HopR.eqB (a b : HopR) : Bool := a.i == b.i && a.fx == b.fx && a.fz == b.fz && a.fy == b.fy && a.tx == b.tx && a.tz == b.tz && a.ty == b.ty && a.bo == b.bo && a.ar == b.ar && a.co == b.co

def TriR.enc (x : TriR) : List Value := #[.int .i64 x.i, .int .i64 x.x0, .int .i64 x.y0, .int .i64 x.z0, .int .i64 x.x1, .int .i64 x.y1, .int .i64 x.z1, .int .i64 x.x2, .int .i64 x.y2, .int .i64 x.z2].toList
theorem TriR.enc_len (x : TriR) : x.enc.length = 10 := rfl
theorem TriR.enc_one (x : TriR) : ∀ u ∈ x.enc, u.oneCell' = true := by
  intro u hu
  simp [TriR.enc] at hu
  rcases hu with rfl | rfl | rfl | rfl | rfl | rfl | rfl | rfl | rfl | rfl <;> rfl
theorem TriR.eqB_iff (a b : TriR) : a.eqB b = true ↔ a = b := by
  obtain ⟨a0, a1, a2, a3, a4, a5, a6, a7, a8, a9⟩ := a
  obtain ⟨b0, b1, b2, b3, b4, b5, b6, b7, b8, b9⟩ := b
  simp [TriR.eqB, and_assoc]
theorem TriR.cells {w : World} {b off : Nat} {l : List TriR} (H : RowAt TriR.enc 10 w b off l) (j : Nat) (h : j < l.length) :
    w.cell? ⟨b, off + j * 10, none⟩ = some (.int .i64 l[j].i) ∧ w.cell? ⟨b, off + j * 10 + 1, none⟩ = some (.int .i64 l[j].x0) ∧ w.cell? ⟨b, off + j * 10 + 2, none⟩ = some (.int .i64 l[j].y0) ∧ w.cell? ⟨b, off + j * 10 + 3, none⟩ = some (.int .i64 l[j].z0) ∧ w.cell? ⟨b, off + j * 10 + 4, none⟩ = some (.int .i64 l[j].x1) ∧ w.cell? ⟨b, off + j * 10 + 5, none⟩ = some (.int .i64 l[j].y1) ∧ w.cell? ⟨b, off + j * 10 + 6, none⟩ = some (.int .i64 l[j].z1) ∧ w.cell? ⟨b, off + j * 10 + 7, none⟩ = some (.int .i64 l[j].x2) ∧ w.cell? ⟨b, off + j * 10 + 8, none⟩ = some (.int .i64 l[j].y2) ∧ w.cell? ⟨b, off + j * 10 + 9, none⟩ = some (.int .i64 l[j].z2) :=
  ⟨H j h 0 (by rw [TriR.enc_len]; omega), H j h 1 (by rw [TriR.enc_len]; omega), H j h 2 (by rw [TriR.enc_len]; omega), H j h 3 (by rw [TriR.enc_len]; omega), H j h 4 (by rw [TriR.enc_len]; omega), H j h 5 (by rw [TriR.enc_len]; omega), H j h 6 (by rw [TriR.enc_len]; omega), H j h 7 (by rw [TriR.enc_len]; omega), H j h 8 (by rw [TriR.enc_len]; omega), H j h 9 (by rw [TriR.enc_len]; omega)⟩

def BoxR.enc (x : BoxR) : List Value := #[.int .i64 x.i, .int .i64 x.x0, .int .i64 x.z0, .int .i64 x.x1, .int .i64 x.z1, .int .i64 x.y0, .int .i64 x.y1, .int .i64 x.ar].toList
theorem BoxR.enc_len (x : BoxR) : x.enc.length = 8 := rfl
theorem BoxR.enc_one (x : BoxR) : ∀ u ∈ x.enc, u.oneCell' = true := by
  intro u hu
  simp [BoxR.enc] at hu
  rcases hu with rfl | rfl | rfl | rfl | rfl | rfl | rfl | rfl <;> rfl
theorem BoxR.eqB_iff (a b : BoxR) : a.eqB b = true ↔ a = b := by
  obtain ⟨a0, a1, a2, a3, a4, a5, a6, a7⟩ := a
  obtain ⟨b0, b1, b2, b3, b4, b5, b6, b7⟩ := b
  simp [BoxR.eqB, and_assoc]
theorem BoxR.cells {w : World} {b off : Nat} {l : List BoxR} (H : RowAt BoxR.enc 8 w b off l) (j : Nat) (h : j < l.length) :
    w.cell? ⟨b, off + j * 8, none⟩ = some (.int .i64 l[j].i) ∧ w.cell? ⟨b, off + j * 8 + 1, none⟩ = some (.int .i64 l[j].x0) ∧ w.cell? ⟨b, off + j * 8 + 2, none⟩ = some (.int .i64 l[j].z0) ∧ w.cell? ⟨b, off + j * 8 + 3, none⟩ = some (.int .i64 l[j].x1) ∧ w.cell? ⟨b, off + j * 8 + 4, none⟩ = some (.int .i64 l[j].z1) ∧ w.cell? ⟨b, off + j * 8 + 5, none⟩ = some (.int .i64 l[j].y0) ∧ w.cell? ⟨b, off + j * 8 + 6, none⟩ = some (.int .i64 l[j].y1) ∧ w.cell? ⟨b, off + j * 8 + 7, none⟩ = some (.int .i64 l[j].ar) :=
  ⟨H j h 0 (by rw [BoxR.enc_len]; omega), H j h 1 (by rw [BoxR.enc_len]; omega), H j h 2 (by rw [BoxR.enc_len]; omega), H j h 3 (by rw [BoxR.enc_len]; omega), H j h 4 (by rw [BoxR.enc_len]; omega), H j h 5 (by rw [BoxR.enc_len]; omega), H j h 6 (by rw [BoxR.enc_len]; omega), H j h 7 (by rw [BoxR.enc_len]; omega)⟩

def HopR.enc (x : HopR) : List Value := #[.int .i64 x.i, .int .i64 x.fx, .int .i64 x.fz, .int .i64 x.fy, .int .i64 x.tx, .int .i64 x.tz, .int .i64 x.ty, .bool x.bo, .int .i64 x.ar, .int .i64 x.co].toList
theorem HopR.enc_len (x : HopR) : x.enc.length = 10 := rfl
theorem HopR.enc_one (x : HopR) : ∀ u ∈ x.enc, u.oneCell' = true := by
  intro u hu
  simp [HopR.enc] at hu
  rcases hu with rfl | rfl | rfl | rfl | rfl | rfl | rfl | rfl | rfl | rfl <;> rfl
theorem HopR.eqB_iff (a b : HopR) : a.eqB b = true ↔ a = b := by
  obtain ⟨a0, a1, a2, a3, a4, a5, a6, a7, a8, a9⟩ := a
  obtain ⟨b0, b1, b2, b3, b4, b5, b6, b7, b8, b9⟩ := b
  simp [HopR.eqB, and_assoc]
theorem HopR.cells {w : World} {b off : Nat} {l : List HopR} (H : RowAt HopR.enc 10 w b off l) (j : Nat) (h : j < l.length) :
    w.cell? ⟨b, off + j * 10, none⟩ = some (.int .i64 l[j].i) ∧ w.cell? ⟨b, off + j * 10 + 1, none⟩ = some (.int .i64 l[j].fx) ∧ w.cell? ⟨b, off + j * 10 + 2, none⟩ = some (.int .i64 l[j].fz) ∧ w.cell? ⟨b, off + j * 10 + 3, none⟩ = some (.int .i64 l[j].fy) ∧ w.cell? ⟨b, off + j * 10 + 4, none⟩ = some (.int .i64 l[j].tx) ∧ w.cell? ⟨b, off + j * 10 + 5, none⟩ = some (.int .i64 l[j].tz) ∧ w.cell? ⟨b, off + j * 10 + 6, none⟩ = some (.int .i64 l[j].ty) ∧ w.cell? ⟨b, off + j * 10 + 7, none⟩ = some (.bool l[j].bo) ∧ w.cell? ⟨b, off + j * 10 + 8, none⟩ = some (.int .i64 l[j].ar) ∧ w.cell? ⟨b, off + j * 10 + 9, none⟩ = some (.int .i64 l[j].co) :=
  ⟨H j h 0 (by rw [HopR.enc_len]; omega), H j h 1 (by rw [HopR.enc_len]; omega), H j h 2 (by rw [HopR.enc_len]; omega), H j h 3 (by rw [HopR.enc_len]; omega), H j h 4 (by rw [HopR.enc_len]; omega), H j h 5 (by rw [HopR.enc_len]; omega), H j h 6 (by rw [HopR.enc_len]; omega), H j h 7 (by rw [HopR.enc_len]; omega), H j h 8 (by rw [HopR.enc_len]; omega), H j h 9 (by rw [HopR.enc_len]; omega)⟩
/-- A soup, and where its lists lie. -/
structure SoupV where
  (ts : List TriR) (bs : List BoxR) (hs : List HopR)
  (a0 a1 a2 : Option Addr) (c0 c1 c2 : Nat)
def SoupV.val (S : SoupV) : Value := .agg #[.slice S.a0 S.ts.length S.c0, .slice S.a1 S.bs.length S.c1, .slice S.a2 S.hs.length S.c2]
structure SoupV.ok (S : SoupV) (w : World) : Prop where
  t : Sl TriR.enc 10 w (.slice S.a0 S.ts.length S.c0) S.ts
  b : Sl BoxR.enc 8 w (.slice S.a1 S.bs.length S.c1) S.bs
  h : Sl HopR.enc 10 w (.slice S.a2 S.hs.length S.c2) S.hs
theorem SoupV.ok.keep {S : SoupV} {w w' : World} (h : S.ok w) (n : New w w') : S.ok w' := ⟨h.t.keep n, h.b.keep n, h.h.keep n⟩
theorem Sl.row {α : Type} {enc : α → List Value} {k : Nat} {w : World} {at0 : Option Addr} {n c : Nat} {l : List α} (h : Sl enc k w (.slice at0 n c) l) : n = l.length ∧ l.length ≤ c ∧ c ≤ maxLen ∧ (at0 = none → c = 0) ∧ RowIn enc k w at0 l := by
  obtain ⟨a, c', e, h1, h2, h3, h4⟩ := h
  injection e with e1 e2 e3
  subst e1 e2 e3
  exact ⟨rfl, h1, h2, h3, h4⟩

end Go.Proofs.YtklopjbpfddgfaaGreat

/- Package spans: Check. -/
namespace Go.Proofs.YtklopjbpfddgfaaGreat
open Go.RowKit
set_option linter.unusedVariables false

/-- Each above the one ahead of it. -/
def sepB (l : List Sn) : Bool := (List.range (l.length - 1)).all fun i => decide ((l[i]!).hi < (l[i + 1]!).lo)
theorem sepB_iff (l : List Sn) : sepB l = true ↔ ∀ i (h : i + 1 < l.length), l[i].hi < l[i + 1].lo := by
  unfold sepB
  rw [List.all_eq_true]
  constructor
  · intro h i hi
    have := h i (List.mem_range.2 (by omega))
    rw [getElem!_pos l i (by omega), getElem!_pos l (i + 1) hi] at this
    exact of_decide_eq_true this
  · intro h i hi
    have hi' := List.mem_range.1 hi
    rw [getElem!_pos l i (by omega), getElem!_pos l (i + 1) (by omega)]
    exact decide_eq_true (h i (by omega))
def chkB (l : List Sn) : Bool := decide (l.length ≤ 8) && !fstB badS l && sepB l
def spE (l : List Sn) : Int := if chkB l = true then 0 else 2
theorem chkE_long {l : List Sn} (h : 8 < l.length) : spE l = 2 := by
  have : decide (l.length ≤ 8) = false := decide_eq_false (by omega)
  unfold spE chkB; simp [this]
theorem chkE_bad {l : List Sn} (h : fstB badS l = true) : spE l = 2 := by unfold spE chkB; simp [h]
theorem chkE_meet {l : List Sn} (i : Nat) (h : i + 1 < l.length) (hm : l[i + 1].lo ≤ l[i].hi) : spE l = 2 := by
  have : sepB l = false := by
    cases hs : sepB l
    · rfl
    · have := (sepB_iff l).1 hs i h; omega
  unfold spE chkB; simp [this]
theorem chkE_fine {l : List Sn} (h : l.length ≤ 8) (hb : fstB badS l = false) (hs : ∀ i (h : i + 1 < l.length), l[i].hi < l[i + 1].lo) : spE l = 0 := by
  have h1 : decide (l.length ≤ 8) = true := decide_eq_true h
  unfold spE chkB; simp [h1, hb, (sepB_iff l).2 hs]
theorem chkE_two (l : List Sn) : spE l = 0 ∨ spE l = 2 := by unfold spE; split <;> simp
theorem chkE_zero {l : List Sn} (h : spE l = 0) : l.length ≤ 8 ∧ (∀ p ∈ l, -2048 ≤ p.lo ∧ p.lo ≤ p.hi ∧ p.hi ≤ 2048) ∧ Sep l := by
  unfold spE at h
  split at h
  · rename_i hc
    unfold chkB at hc
    simp only [Bool.and_eq_true, decide_eq_true_eq, Bool.not_eq_true'] at hc
    obtain ⟨⟨h1, h2⟩, h3⟩ := hc
    have hp : ∀ p ∈ l, -2048 ≤ p.lo ∧ p.lo ≤ p.hi ∧ p.hi ≤ 2048 := fun p hp => by
      unfold fstB at h2
      rw [List.any_eq_false] at h2
      have := h2 p hp
      exact (badS_not p).1 (by cases hb : badS p; rfl; exact absurd hb this)
    refine ⟨h1, hp, ?_⟩
    have hs := (sepB_iff l).1 h3
    unfold Sep
    rw [List.pairwise_iff_getElem]
    intro i j hi hj hij
    have key : ∀ n : Nat, (hn : i + 1 + n < l.length) → l[i].hi < l[i + 1 + n].lo := by
      intro n
      induction n with
      | zero => intro hn; exact hs i hn
      | succ n ih =>
        intro hn
        have h1 := ih (by omega)
        have h2 := hs (i + 1 + n) hn
        have h3 := (hp l[i + 1 + n] (List.getElem_mem _)).2.1
        have e : i + 1 + (n + 1) = i + 1 + n + 1 := by omega
        simp only [e]
        omega
    have := key (j - i - 1) (by omega)
    have e : i + 1 + (j - i - 1) = j := by omega
    simp only [e] at this
    exact this
  · omega

set_option maxHeartbeats 2000000 in
set_option maxRecDepth 100000 in
theorem sp_check (at0 : Option Addr) (l : List Sn) (c : Nat) (hl : l.length ≤ maxLen) (w : World) (H : RowIn Sn.enc 3 w at0 l) :
    Calls Tryz.prog 35 #[.slice at0 l.length c] w fun e w' => e = .returned (.int .i64 (spE l)) ∧ New w w' := by
  have KP := Lib.hid (fun W n => k_pieces at0 l c hl W (H.keep (n : New w W)))
  have HH := Lib.hid H
  unfold maxLen at hl
  clear H
  obtain ⟨r, hr⟩ : ∃ r, r = spE l := ⟨_, rfl⟩
  rw [← hr]
  have HR := Lib.hid hr
  obtain ⟨b, hb⟩ : ∃ b, b = fstB badS l := ⟨_, rfl⟩
  rw [← hb] at KP
  have HB := Lib.hid hb
  obtain ⟨n, hn⟩ : ∃ n, n = l.length := ⟨_, rfl⟩
  rw [← hn] at KP hl ⊢
  have HN := Lib.hid hn
  clear hn hr hb
  by_cases h8 : 8 < n
  · have hd : decide (8 < n) = true := decide_eq_true (by omega)
    have HE : Hid (r = 2) := Lib.hid (by rw [HR.out]; exact chkE_long (by rw [← HN.out]; exact h8))
    go_enter Tryz.func35, Tryz.ntmps35
    go_wp2_with fail
    go_ret
    exact ⟨by rw [HE.out]; rfl, by (repeat (first | (with_reducible exact New.refl _) | (with_reducible assumption) | ((with_reducible refine New.setB ?_ ?_ _); focus (first | omega | (simp; omega) | (simp; done))) | (with_reducible refine New.alloc ?_ _) | (with_reducible refine New.drew ?_) | (with_reducible refine New.drewN ?_ _) | (with_reducible refine New.hat ?_ _) | ((with_reducible apply New.snart); (with_reducible assumption))))⟩
  · have hd : decide (8 < n) = false := decide_eq_false (by omega)
    go_enter Tryz.func35, Tryz.ntmps35
    go_wp2_with fail
    refine (KP.out _ (by (repeat (first | (with_reducible exact New.refl _) | (with_reducible assumption) | ((with_reducible refine New.setB ?_ ?_ _); focus (first | omega | (simp; omega) | (simp; done))) | (with_reducible refine New.alloc ?_ _) | (with_reducible refine New.drew ?_) | (with_reducible refine New.drewN ?_ _) | (with_reducible refine New.hat ?_ _) | ((with_reducible apply New.snart); (with_reducible assumption)))))).mono ?_
    rintro e w1 ⟨rfl, n1⟩
    have hn1 : New w w1 := New.trans (by (repeat (first | (with_reducible exact New.refl _) | (with_reducible assumption) | ((with_reducible refine New.setB ?_ ?_ _); focus (first | omega | (simp; omega) | (simp; done))) | (with_reducible refine New.alloc ?_ _) | (with_reducible refine New.drew ?_) | (with_reducible refine New.drewN ?_ _) | (with_reducible refine New.hat ?_ _) | ((with_reducible apply New.snart); (with_reducible assumption))))) n1
    clear n1
    cases b
    rotate_left
    · have HE : Hid (r = 2) := Lib.hid (by rw [HR.out]; exact chkE_bad HB.out.symm)
      go_wp2_with fail
      go_ret
      exact ⟨by rw [HE.out]; rfl, hn1⟩
    · go_wp2_with fail
      go_loopg [3] n (fun gk s3 wr => ∃ i : Nat, s3 = .int .i64 i ∧ 1 ≤ i ∧ (i ≤ n ∨ n = 0) ∧ n - i ≤ gk ∧ Hid (∀ j (h : j + 1 < l.length), j + 1 < i → l[j].hi < l[j + 1].lo) ∧ Hid (New w wr))
      case atStart => exact ⟨1, rfl, by omega, by omega, by omega, Lib.hid (fun j h hj => by omega), Lib.hid hn1⟩
      case round =>
        obtain ⟨i, rfl, hi1, hi, hgk, HS, hnr⟩ := hrel
        by_cases hlt : i < n
        · have hil : i < l.length := by rw [← HN.out]; exact hlt
          obtain ⟨b0, off, rfl, hA⟩ := HH.out (by omega)
          have hA' := hA.keep hnr.out
          obtain ⟨c0, c1, c2⟩ := Sn.cells hA' i hil
          obtain ⟨d0, d1, d2⟩ := Sn.cells hA' (i - 1) (by omega)
          clear hA hA'
          have hz : IntKind.i64.wrap ((i : Int) - 1) = ((i - 1 : Nat) : Int) := by rw [IntWalk.i64_in _ (by omega)]; omega
          have hlt2 : i - 1 < n := by omega
          obtain ⟨x, hx⟩ : ∃ x, x = l[i].lo := ⟨_, rfl⟩
          obtain ⟨y, hy⟩ : ∃ y, y = l[i - 1].hi := ⟨_, rfl⟩
          rw [← hx] at c0
          rw [← hy] at d1
          have HX := Lib.hid (And.intro hx hy)
          clear hx hy c1 c2 d0 d2
          by_cases hm : x ≤ y
          · have hm' : decide (x ≤ y) = true := decide_eq_true hm
            have HE : Hid (r = 2) := Lib.hid (by
              rw [HR.out]
              refine chkE_meet (i - 1) (by omega) ?_
              have e : i - 1 + 1 = i := by omega
              simp only [e]
              rw [← HX.out.1, ← HX.out.2]; exact hm)
            go_upto_region 6 with fail
            (refine wp_region_hat (by kernel_rfl) (by kernel_rfl) ?_; intro hatc hatf; (repeat (go_big_quiet_step ((fail)))); refine wpQuiet_nil ?_; rintro _ ⟨X, rfl⟩)
            clear hatc hatf
            have n2 := hnr.out.trans X.h
            generalize X.w = W2 at *
            go_wp2_with fail
            go_ret
            exact ⟨by rw [HE.out]; rfl, n2⟩
          · have hm' : decide (x ≤ y) = false := decide_eq_false hm
            have HM := Lib.hid hm
            clear hm
            go_upto_region 6 with fail
            (refine wp_region_hat (by kernel_rfl) (by kernel_rfl) ?_; intro hatc hatf; (repeat (go_big_quiet_step ((fail)))); refine wpQuiet_nil ?_; rintro _ ⟨X, rfl⟩)
            clear hatc hatf
            have n2 := Lib.hid (hnr.out.trans X.h)
            generalize X.w = W2 at *
            go_wp2_with fail
            go_roundg (n - (i + 1))
            case measure => omega
            case rel =>
              refine ⟨i + 1, by go_num, by omega, by omega, by omega, Lib.hid (fun j h hj => ?_), n2⟩
              by_cases e : j + 1 < i
              · exact HS.out j h e
              · have e2 : j + 1 = i := by omega
                subst e2
                have := HM.out
                rw [HX.out.1, HX.out.2] at this
                simpa using this
        · have HE : Hid (r = 0) := Lib.hid (by
            rw [HR.out]
            exact chkE_fine (by rw [← HN.out]; omega) HB.out.symm (fun j h => HS.out j h (by have := HN.out; omega)))
          go_wp2_with fail
          go_ret
          exact ⟨by rw [HE.out]; rfl, hnr.out⟩

end Go.Proofs.YtklopjbpfddgfaaGreat
