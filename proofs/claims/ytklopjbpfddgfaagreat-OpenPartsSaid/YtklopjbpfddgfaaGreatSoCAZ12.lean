import Derived.Test.YtklopjbpfddgfaaGreatSpDZ12

/- Package soup: what a hop's spots, a triangle are asked; all tests of one. -/
namespace Go.Proofs.YtklopjbpfddgfaaGreat
open Go.RowKit
set_option linter.unusedVariables false

theorem ints_at (w : World) (l : List Int) (T : TypeId) (b : Nat) (hb : w.heap.size = b) : IntsAt (w.alloc (.cells (l.map (Value.int .i64)).toArray T)) b l := by subst hb; exact ints_new w l T

def spotB (C : CfgR) (x z y : Int) : Bool := ordB [0, x, C.wd - 1] && ordB [0, z, C.dp - 1] && ordB [-2048, y, 2048]

/-! All tests of one. -/
def TriR.tests (C : CfgR) (x : TriR) : Bool := (tCheckE C.cl C.cb C.ht C.ri C.ru C.wd C.dp x.i x.x0 x.y0 x.z0 x.x1 x.y1 x.z1 x.x2 x.y2 x.z2 == 0)
def BoxR.tests (C : CfgR) (x : BoxR) : Bool := ordB [0, x.x0, x.x1, C.wd - 1] && ordB [0, x.z0, x.z1, C.dp - 1] && ordB [-2048, x.y0, x.y1, 2048] && ordB [0, x.ar, 7]
def HopR.tests (C : CfgR) (x : HopR) : Bool := spotB C x.fx x.fz x.fy && spotB C x.tx x.tz x.ty && ordB [1, x.ar, 7] && ordB [0, x.co, 1048576]

def TestPost (v : Bool) (w : World) (e : Ending) (w' : World) : Prop :=
  ∃ (b : Nat) (l : List Fn), e = .returned (.slice (some ⟨b, 0, none⟩) l.length l.length) ∧ l.length ≤ 100 ∧ l.all (·.b) = v ∧ (∀ j (h : j < l.length), Good w' l[j]) ∧ FnAt w' b l ∧ New w w'

theorem fns_at (w : World) (l : List Fn) (T : TypeId) (b : Nat) (hb : w.heap.size = b) : FnAt (w.alloc (.cells (l.map fun f => Value.func (.func f.g) #[] f.bnd).toArray T)) b l := fun j hj => by
  subst hb
  have := cells_new w (l.map fun f => Value.func (.func f.g) #[] f.bnd).toArray T j (by simpa using hj)
  rw [Nat.zero_add] at this
  rw [this]
  simp

end Go.Proofs.YtklopjbpfddgfaaGreat

/- The document's package of soups: whether a box, a triangle, a hop may be. -/
namespace Go.Proofs.YtklopjbpfddgfaaGreat
open Go.RowKit
set_option linter.unusedVariables false
set_option maxRecDepth 100000

def heiB (y : Int) : Bool := decide (-2048 ≤ y ∧ y ≤ 2048)
def idB (i : Int) : Bool := decide (1 ≤ i ∧ i ≤ 1073741824)

theorem u_height (y : Int) (w : World) : Calls Tryz.prog 69 #[.int .i64 y] w fun e w' => e = .returned (.bool (heiB y)) ∧ New w w' := by
  unfold heiB
  go_enter Tryz.func69, Tryz.ntmps69
  go_wp2_with fail
  all_goals
    go_ret
    refine ⟨congrArg (fun b => Ending.returned (.bool b)) ?_, New.refl _⟩
    rw [Bool.eq_iff_iff]
    simp only [Bool.and_eq_true, decide_eq_true_eq, Bool.false_eq_true, false_iff]
    omega

theorem BoxR.tests_iff (C : CfgR) (X : BoxR) : X.tests C = true ↔ 0 ≤ X.x0 ∧ X.x0 ≤ X.x1 ∧ X.x1 < C.wd ∧ 0 ≤ X.z0 ∧ X.z0 ≤ X.z1 ∧ X.z1 < C.dp ∧ heiB X.y0 = true ∧ X.y0 ≤ X.y1 ∧ heiB X.y1 = true ∧ 0 ≤ X.ar ∧ X.ar ≤ 7 := by
  simp only [BoxR.tests, ordB, heiB, Bool.and_eq_true, decide_eq_true_eq, Bool.and_true]
  omega
theorem notTrue {b : Bool} (h : ¬ b = true) : b = false := by cases b <;> simp_all

end Go.Proofs.YtklopjbpfddgfaaGreat
