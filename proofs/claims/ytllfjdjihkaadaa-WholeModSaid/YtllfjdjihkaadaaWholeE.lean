/- Contracts of Root and RootUp of package whole. -/
import Derived.Test.YtllfjdjihkaadaaWholeD
import Derived.Test.YtllfjdjihkaadaaWholeR
namespace Go.Proofs.Ytllfjdjihkaadaa
open Go.RowKit

/-- New blocks alone: all that was there stands as it stood. -/
def Calm (w w' : World) : Prop := Below w.heap.size w w' ∧ Grown w w'
theorem Calm.refl (w : World) : Calm w w := ⟨Below.refl _ _, Grown.refl _⟩
theorem grown_trans {a b c : World} (h : Grown a b) (k : Grown b c) : Grown a c :=
  ⟨World.keptBut_trans h.1 k.1, fun x => (k.2.1 x).trans (h.2.1 x), Nat.le_trans h.2.2 k.2.2⟩
theorem Calm.trans {a b c : World} (h : Calm a b) (k : Calm b c) : Calm a c :=
  ⟨h.1.trans (k.1.mono h.1.size), grown_trans h.2 k.2⟩

def pRoot (n k : Int) : Bool := decide (n < (k + 1) * (k + 1))
def pUp (n k : Int) : Bool := decide (n ≤ k * k)

set_option maxHeartbeats 400000 in
theorem root1_any (n k : Int) (w : World) (h0 : 0 ≤ k) (h1 : k < 2147483648) :
    Calls Try.prog 30 #[.int .i64 n, .int .i64 k] w fun e w' => e = .returned (.bool (pRoot n k)) ∧ w = w' := by
  have hs := sq_bd (k := k + 1) (by omega) (by omega)
  go_enter Try.func30, Try.ntmps30
  go_wp2
  go_ret
  exact ⟨rfl, rfl⟩

set_option maxHeartbeats 400000 in
theorem up1_any (n k : Int) (w : World) (h0 : 0 ≤ k) (h1 : k < 2147483648) :
    Calls Try.prog 31 #[.int .i64 n, .int .i64 k] w fun e w' => e = .returned (.bool (pUp n k)) ∧ w = w' := by
  have hs := sq_bd (k := k) (by omega) (by omega)
  go_enter Try.func31, Try.ntmps31
  go_wp2
  go_ret
  exact ⟨rfl, rfl⟩

set_option maxHeartbeats 400000 in
theorem clo_root (a b : Addr) (n k : Int) (w : World) (h0 : 0 ≤ k) (h1 : k < 2147483648)
    (ha : w.cell? a = some (.func (.func 30) #[] #[])) (hb : w.cell? b = some (.int .i64 n)) :
    Calls Try.prog 33 #[.int .i64 k, .pointer (some a), .pointer (some b)] w fun e w' => e = .returned (.bool (pRoot n k)) ∧ w = w' := by
  go_enter Try.func33, Try.ntmps33
  go_wp2_with (go_at_call 30; refine (root1_any _ _ _ h0 h1).mono ?_; rintro e w' ⟨rfl, rfl⟩)
  go_ret
  exact ⟨rfl, rfl⟩

set_option maxHeartbeats 400000 in
theorem clo_up (a b : Addr) (n k : Int) (w : World) (h0 : 0 ≤ k) (h1 : k < 2147483648)
    (ha : w.cell? a = some (.func (.func 31) #[] #[])) (hb : w.cell? b = some (.int .i64 n)) :
    Calls Try.prog 33 #[.int .i64 k, .pointer (some a), .pointer (some b)] w fun e w' => e = .returned (.bool (pUp n k)) ∧ w = w' := by
  go_enter Try.func33, Try.ntmps33
  go_wp2_with (go_at_call 31; refine (up1_any _ _ _ h0 h1).mono ?_; rintro e w' ⟨rfl, rfl⟩)
  go_ret
  exact ⟨rfl, rfl⟩

end Go.Proofs.Ytllfjdjihkaadaa
