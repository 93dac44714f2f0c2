import Derived.Test.YtgoggogcbjfofaaDoorSoAY14

/- Triangles, boxes, hops, soups, as they lie in memory. No function of the program in sight. -/
namespace Go.Proofs.YtgoggogcbjfofaaDoor
open Go.ChangeShapes Go.WideShapes Go.RowKit Go.Deep
set_option linter.unusedVariables false

structure TriR where
  (i x0 y0 z0 x1 y1 z1 x2 y2 z2 : Int)
structure BoxR where
  (i x0 z0 x1 z1 y0 y1 ar : Int)
structure HopR where
  (i fx fz fy tx tz ty : Int)
  bo : Bool
  (ar co : Int)
instance : Inhabited TriR := ⟨⟨0, 0, 0, 0, 0, 0, 0, 0, 0, 0⟩⟩
instance : Inhabited BoxR := ⟨⟨0, 0, 0, 0, 0, 0, 0, 0⟩⟩
instance : Inhabited HopR := ⟨⟨0, 0, 0, 0, 0, 0, 0, false, 0, 0⟩⟩
def TriR.zero : TriR := ⟨0, 0, 0, 0, 0, 0, 0, 0, 0, 0⟩
def BoxR.zero : BoxR := ⟨0, 0, 0, 0, 0, 0, 0, 0⟩
def HopR.zero : HopR := ⟨0, 0, 0, 0, 0, 0, 0, false, 0, 0⟩
def TriR.eqB (a b : TriR) : Bool := a.i == b.i && a.x0 == b.x0 && a.y0 == b.y0 && a.z0 == b.z0 && a.x1 == b.x1 && a.y1 == b.y1 && a.z1 == b.z1 && a.x2 == b.x2 && a.y2 == b.y2 && a.z2 == b.z2
def BoxR.eqB (a b : BoxR) : Bool := a.i == b.i && a.x0 == b.x0 && a.z0 == b.z0 && a.x1 == b.x1 && a.z1 == b.z1 && a.y0 == b.y0 && a.y1 == b.y1 && a.ar == b.ar
def HopR.eqB (a b : HopR) : Bool := a.i == b.i && a.fx == b.fx && a.fz == b.fz && a.fy == b.fy && a.tx == b.tx && a.tz == b.tz && a.ty == b.ty && a.bo == b.bo && a.ar == b.ar && a.co == b.co

def TriR.enc (x : TriR) : List Value := #[.int .i64 x.i, .int .i64 x.x0, .int .i64 x.y0, .int .i64 x.z0, .int .i64 x.x1, .int .i64 x.y1, .int .i64 x.z1, .int .i64 x.x2, .int .i64 x.y2, .int .i64 x.z2].toList
theorem TriR.enc_len (x : TriR) : x.enc.length = 10 := rfl
theorem TriR.enc_one (x : TriR) : ∀ u ∈ x.enc, u.oneCell' = true := by
  intro u hu
  simp [TriR.enc] at hu
  rcases hu with rfl | rfl | rfl | rfl | rfl | rfl | rfl | rfl | rfl | rfl <;> rfl
theorem TriR.eqB_iff (a b : TriR) : a.eqB b = true ↔ a = b := by
  obtain ⟨a0, a1, a2, a3, a4, a5, a6, a7, a8, a9⟩ := a
  obtain ⟨b0, b1, b2, b3, b4, b5, b6, b7, b8, b9⟩ := b
  simp [TriR.eqB, and_assoc]
theorem TriR.cells {w : World} {b off : Nat} {l : List TriR} (H : RowAt TriR.enc 10 w b off l) (j : Nat) (h : j < l.length) :
    w.cell? ⟨b, off + j * 10, none⟩ = some (.int .i64 l[j].i) ∧ w.cell? ⟨b, off + j * 10 + 1, none⟩ = some (.int .i64 l[j].x0) ∧ w.cell? ⟨b, off + j * 10 + 2, none⟩ = some (.int .i64 l[j].y0) ∧ w.cell? ⟨b, off + j * 10 + 3, none⟩ = some (.int .i64 l[j].z0) ∧ w.cell? ⟨b, off + j * 10 + 4, none⟩ = some (.int .i64 l[j].x1) ∧ w.cell? ⟨b, off + j * 10 + 5, none⟩ = some (.int .i64 l[j].y1) ∧ w.cell? ⟨b, off + j * 10 + 6, none⟩ = some (.int .i64 l[j].z1) ∧ w.cell? ⟨b, off + j * 10 + 7, none⟩ = some (.int .i64 l[j].x2) ∧ w.cell? ⟨b, off + j * 10 + 8, none⟩ = some (.int .i64 l[j].y2) ∧ w.cell? ⟨b, off + j * 10 + 9, none⟩ = some (.int .i64 l[j].z2) :=
  ⟨H j h 0 (by rw [TriR.enc_len]; omega), H j h 1 (by rw [TriR.enc_len]; omega), H j h 2 (by rw [TriR.enc_len]; omega), H j h 3 (by rw [TriR.enc_len]; omega), H j h 4 (by rw [TriR.enc_len]; omega), H j h 5 (by rw [TriR.enc_len]; omega), H j h 6 (by rw [TriR.enc_len]; omega), H j h 7 (by rw [TriR.enc_len]; omega), H j h 8 (by rw [TriR.enc_len]; omega), H j h 9 (by rw [TriR.enc_len]; omega)⟩

def BoxR.enc (x : BoxR) : List Value := #[.int .i64 x.i, .int .i64 x.x0, .int .i64 x.z0, .int .i64 x.x1, .int .i64 x.z1, .int .i64 x.y0, .int .i64 x.y1, .int .i64 x.ar].toList
theorem BoxR.enc_len (x : BoxR) : x.enc.length = 8 := rfl
theorem BoxR.enc_one (x : BoxR) : ∀ u ∈ x.enc, u.oneCell' = true := by
  intro u hu
  simp [BoxR.enc] at hu
  rcases hu with rfl | rfl | rfl | rfl | rfl | rfl | rfl | rfl <;> rfl
theorem BoxR.eqB_iff (a b : BoxR) : a.eqB b = true ↔ a = b := by
  obtain ⟨a0, a1, a2, a3, a4, a5, a6, a7⟩ := a
  obtain ⟨b0, b1, b2, b3, b4, b5, b6, b7⟩ := b
  simp [BoxR.eqB, and_assoc]
theorem BoxR.cells {w : World} {b off : Nat} {l : List BoxR} (H : RowAt BoxR.enc 8 w b off l) (j : Nat) (h : j < l.length) :
    w.cell? ⟨b, off + j * 8, none⟩ = some (.int .i64 l[j].i) ∧ w.cell? ⟨b, off + j * 8 + 1, none⟩ = some (.int .i64 l[j].x0) ∧ w.cell? ⟨b, off + j * 8 + 2, none⟩ = some (.int .i64 l[j].z0) ∧ w.cell? ⟨b, off + j * 8 + 3, none⟩ = some (.int .i64 l[j].x1) ∧ w.cell? ⟨b, off + j * 8 + 4, none⟩ = some (.int .i64 l[j].z1) ∧ w.cell? ⟨b, off + j * 8 + 5, none⟩ = some (.int .i64 l[j].y0) ∧ w.cell? ⟨b, off + j * 8 + 6, none⟩ = some (.int .i64 l[j].y1) ∧ w.cell? ⟨b, off + j * 8 + 7, none⟩ = some (.int .i64 l[j].ar) :=
  ⟨H j h 0 (by rw [BoxR.enc_len]; omega), H j h 1 (by rw [BoxR.enc_len]; omega), H j h 2 (by rw [BoxR.enc_len]; omega), H j h 3 (by rw [BoxR.enc_len]; omega), H j h 4 (by rw [BoxR.enc_len]; omega), H j h 5 (by rw [BoxR.enc_len]; omega), H j h 6 (by rw [BoxR.enc_len]; omega), H j h 7 (by rw [BoxR.enc_len]; omega)⟩

def HopR.enc (x : HopR) : List Value := #[.int .i64 x.i, .int .i64 x.fx, .int .i64 x.fz, .int .i64 x.fy, .int .i64 x.tx, .int .i64 x.tz, .int .i64 x.ty, .bool x.bo, .int .i64 x.ar, .int .i64 x.co].toList
theorem HopR.enc_len (x : HopR) : x.enc.length = 10 := rfl
theorem HopR.enc_one (x : HopR) : ∀ u ∈ x.enc, u.oneCell' = true := by
  intro u hu
  simp [HopR.enc] at hu
  rcases hu with rfl | rfl | rfl | rfl | rfl | rfl | rfl | rfl | rfl | rfl <;> rfl
theorem HopR.eqB_iff (a b : HopR) : a.eqB b = true ↔ a = b := by
  obtain ⟨a0, a1, a2, a3, a4, a5, a6, a7, a8, a9⟩ := a
  obtain ⟨b0, b1, b2, b3, b4, b5, b6, b7, b8, b9⟩ := b
  simp [HopR.eqB, and_assoc]
theorem HopR.cells {w : World} {b off : Nat} {l : List HopR} (H : RowAt HopR.enc 10 w b off l) (j : Nat) (h : j < l.length) :
    w.cell? ⟨b, off + j * 10, none⟩ = some (.int .i64 l[j].i) ∧ w.cell? ⟨b, off + j * 10 + 1, none⟩ = some (.int .i64 l[j].fx) ∧ w.cell? ⟨b, off + j * 10 + 2, none⟩ = some (.int .i64 l[j].fz) ∧ w.cell? ⟨b, off + j * 10 + 3, none⟩ = some (.int .i64 l[j].fy) ∧ w.cell? ⟨b, off + j * 10 + 4, none⟩ = some (.int .i64 l[j].tx) ∧ w.cell? ⟨b, off + j * 10 + 5, none⟩ = some (.int .i64 l[j].tz) ∧ w.cell? ⟨b, off + j * 10 + 6, none⟩ = some (.int .i64 l[j].ty) ∧ w.cell? ⟨b, off + j * 10 + 7, none⟩ = some (.bool l[j].bo) ∧ w.cell? ⟨b, off + j * 10 + 8, none⟩ = some (.int .i64 l[j].ar) ∧ w.cell? ⟨b, off + j * 10 + 9, none⟩ = some (.int .i64 l[j].co) :=
  ⟨H j h 0 (by rw [HopR.enc_len]; omega), H j h 1 (by rw [HopR.enc_len]; omega), H j h 2 (by rw [HopR.enc_len]; omega), H j h 3 (by rw [HopR.enc_len]; omega), H j h 4 (by rw [HopR.enc_len]; omega), H j h 5 (by rw [HopR.enc_len]; omega), H j h 6 (by rw [HopR.enc_len]; omega), H j h 7 (by rw [HopR.enc_len]; omega), H j h 8 (by rw [HopR.enc_len]; omega), H j h 9 (by rw [HopR.enc_len]; omega)⟩
/-- A soup, and where its lists lie. -/
structure SoupV where
  (ts : List TriR) (bs : List BoxR) (hs : List HopR)
  (a0 a1 a2 : Option Addr) (c0 c1 c2 : Nat)
def SoupV.val (S : SoupV) : Value := .agg #[.slice S.a0 S.ts.length S.c0, .slice S.a1 S.bs.length S.c1, .slice S.a2 S.hs.length S.c2]
structure SoupV.ok (S : SoupV) (w : World) : Prop where
  t : Sl TriR.enc 10 w (.slice S.a0 S.ts.length S.c0) S.ts
  b : Sl BoxR.enc 8 w (.slice S.a1 S.bs.length S.c1) S.bs
  h : Sl HopR.enc 10 w (.slice S.a2 S.hs.length S.c2) S.hs
theorem SoupV.ok.keep {S : SoupV} {w w' : World} (h : S.ok w) (n : New w w') : S.ok w' := ⟨h.t.keep n, h.b.keep n, h.h.keep n⟩
theorem Sl.row {α : Type} {enc : α → List Value} {k : Nat} {w : World} {at0 : Option Addr} {n c : Nat} {l : List α} (h : Sl enc k w (.slice at0 n c) l) : n = l.length ∧ l.length ≤ c ∧ c ≤ maxLen ∧ (at0 = none → c = 0) ∧ RowIn enc k w at0 l := by
  obtain ⟨a, c', e, h1, h2, h3, h4⟩ := h
  injection e with e1 e2 e3
  subst e1 e2 e3
  exact ⟨rfl, h1, h2, h3, h4⟩

end Go.Proofs.YtgoggogcbjfofaaDoor
