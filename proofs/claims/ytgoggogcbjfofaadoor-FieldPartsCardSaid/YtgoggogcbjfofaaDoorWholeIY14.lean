import Derived.Test.YtgoggogcbjfofaaDoorWholeM
import Derived.Test.YtgoggogcbjfofaaDoorWholeCY14
import Derived.Handy
import Derived.Lib.Hide

/- Plain facts about roots, no program in sight: the root's floor and ceiling, that there is one alone. -/
namespace Go.Proofs.YtgoggogcbjfofaaDoor
open Go.RowKit

theorem sq_mono {a b : Int} (h0 : 0 ≤ a) (h : a ≤ b) : a * a ≤ b * b := Int.mul_le_mul h h h0 (by omega)

theorem sq_lt_of {a b : Int} (hb : 0 ≤ b) (h : a * a < b * b) : a < b := by
  apply Decidable.byContradiction
  intro hn
  have := sq_mono hb (show b ≤ a by omega)
  omega

def IsRoot (n k : Int) : Prop := 0 ≤ k ∧ k * k ≤ n ∧ n < (k + 1) * (k + 1)

theorem isRoot_unique {n k k' : Int} (h : IsRoot n k) (h' : IsRoot n k') : k = k' := by
  obtain ⟨a, b, c⟩ := h
  obtain ⟨a', b', c'⟩ := h'
  have h1 : k < k' + 1 := sq_lt_of (by omega) (by omega)
  have h2 : k' < k + 1 := sq_lt_of (by omega) (by omega)
  omega

theorem exists_root : ∀ n : Nat, ∃ k : Int, IsRoot n k
  | 0 => ⟨0, by unfold IsRoot; omega⟩
  | n + 1 => by
    obtain ⟨k, a, b, c⟩ := exists_root n
    by_cases h : ((n + 1 : Nat) : Int) < (k + 1) * (k + 1)
    · exact ⟨k, a, by omega, h⟩
    · refine ⟨k + 1, by omega, by omega, ?_⟩
      have : (k + 1) * (k + 1) < (k + 1 + 1) * (k + 1 + 1) := by
        have e : (k + 1 + 1) * (k + 1 + 1) = (k + 1) * (k + 1) + (k + 1) + (k + 1) + 1 := by
          rw [Int.add_mul, Int.mul_add]; omega
        omega
      omega

noncomputable def rootI (n : Int) : Int := Classical.choose (exists_root n.toNat)

theorem rootI_is {n : Int} (h : 0 ≤ n) : IsRoot n (rootI n) := by
  have e : ((n.toNat : Nat) : Int) = n := by omega
  have h2 : IsRoot (n.toNat : Int) (rootI n) := Classical.choose_spec (exists_root n.toNat)
  rwa [e] at h2

theorem rootI_eq {n k : Int} (h : IsRoot n k) : k = rootI n :=
  isRoot_unique h (rootI_is (by obtain ⟨a, b, c⟩ := h; have := Int.mul_nonneg a a; omega))

noncomputable def upI (n : Int) : Int := if rootI n * rootI n < n then rootI n + 1 else rootI n

theorem upI_eq {n i : Int} (h0 : 0 ≤ n) (hi : 0 ≤ i) (h1 : n ≤ i * i) (h2 : 0 < i → (i - 1) * (i - 1) < n) : i = upI n := by
  obtain ⟨a, b, c⟩ := rootI_is h0
  unfold upI
  by_cases hz : i = 0
  · subst hz
    have : n = 0 := by omega
    subst this
    have hz2 := Int.mul_nonneg a a
    rw [if_neg (by omega)]
    apply Decidable.byContradiction
    intro hn
    have := sq_mono (a := 1) (b := rootI 0) (by omega) (by omega)
    omega
  · have h2 := h2 (by omega)
    have h3 : i - 1 < rootI n + 1 := sq_lt_of (by omega) (by omega)
    split
    · rename_i hlt
      have : rootI n < i := sq_lt_of (by omega) (by omega)
      omega
    · rename_i hge
      have e : rootI n * rootI n = n := by omega
      have h4 : i - 1 < rootI n := sq_lt_of a (by omega)
      have h5 : ¬ i < rootI n := by
        intro hlt
        have : i * i ≤ (rootI n - 1) * (rootI n - 1) := sq_mono hi (by omega)
        have e2 : (rootI n - 1) * (rootI n - 1) = rootI n * rootI n - rootI n - rootI n + 1 := by
          rw [Int.sub_mul, Int.mul_sub]; omega
        omega
      omega

theorem rootI_bd {n : Int} (h : 0 ≤ n) (h2 : n ≤ 2305843009213693952) : 0 ≤ rootI n ∧ rootI n < 2147483648 := by
  obtain ⟨a, b, c⟩ := rootI_is h
  exact ⟨a, sq_lt_of (by omega) (by omega)⟩

theorem sq_bd {k : Int} (h : 0 ≤ k) (h2 : k ≤ 2147483648) : 0 ≤ k * k ∧ k * k ≤ 4611686018427387904 :=
  ⟨Int.mul_nonneg h h, by have := sq_mono h h2; omega⟩

end Go.Proofs.YtgoggogcbjfofaaDoor

/- Contracts of the roots: the library's binary search over the closure that package whole hands it, and what is found. -/
namespace Go.Proofs.YtgoggogcbjfofaaDoor
open Go.RowKit

def SearchPost (p : Int → Bool) (n : Int) (w : World) (e : Ending) (w' : World) : Prop :=
  ∃ i : Int, 0 ≤ i ∧ i ≤ n ∧ (0 < i → p (i - 1) = false) ∧ (i < n → p i = true) ∧ e = .returned (.int .i64 i) ∧ w = w'

def SearchRel (p : Int → Bool) (n : Int) (x y : Value) : Prop :=
  ∃ i j : Int, 0 ≤ i ∧ i ≤ j ∧ j ≤ n ∧ (0 < i → p (i - 1) = false) ∧ (j < n → p j = true) ∧ x = .int .i64 i ∧ y = .int .i64 j

end Go.Proofs.YtgoggogcbjfofaaDoor

/- Contracts of Root and RootUp of package whole. -/
namespace Go.Proofs.YtgoggogcbjfofaaDoor
open Go.RowKit

/-- New blocks alone: all that was there stands as it stood. -/
def Calm (w w' : World) : Prop := Below w.heap.size w w' ∧ Grown w w'
theorem Calm.refl (w : World) : Calm w w := ⟨Below.refl _ _, Grown.refl _⟩
theorem grown_trans {a b c : World} (h : Grown a b) (k : Grown b c) : Grown a c :=
  ⟨World.keptBut_trans h.1 k.1, fun x => (k.2.1 x).trans (h.2.1 x), Nat.le_trans h.2.2 k.2.2⟩
theorem Calm.trans {a b c : World} (h : Calm a b) (k : Calm b c) : Calm a c :=
  ⟨h.1.trans (k.1.mono h.1.size), grown_trans h.2 k.2⟩

def pRoot (n k : Int) : Bool := decide (n < (k + 1) * (k + 1))
def pUp (n k : Int) : Bool := decide (n ≤ k * k)

end Go.Proofs.YtgoggogcbjfofaaDoor

/- Contracts of Check of package whole and of the document's own. -/
namespace Go.Proofs.YtgoggogcbjfofaaDoor
open Go.RowKit

def checkB (cl cb ht ri ru wd dp : Int) : Bool := decide (0 ≤ cl ∧ cl ≤ 3) && decide (0 ≤ cb ∧ cb ≤ 8) && decide (cb + 1 ≤ ht ∧ ht ≤ 32) && decide (0 ≤ ri ∧ ri ≤ 100) && decide (1 ≤ ru ∧ ru ≤ 100) && decide (1 ≤ wd ∧ wd ≤ 32) && decide (1 ≤ dp ∧ dp ≤ 32)
def checkE (cl cb ht ri ru wd dp : Int) : Int := if checkB cl cb ht ri ru wd dp then 0 else 20

theorem within_iff {n lo hi : Int} (h : lo ≤ hi) : withinB n lo hi = decide (lo ≤ n ∧ n ≤ hi) := by
  unfold withinB clampI
  rw [Bool.eq_iff_iff]; simp; omega

set_option maxHeartbeats 1000000 in
theorem check_any (cl cb ht ri ru wd dp : Int) (w : World) :
    Calls Tryd.prog 34 #[.agg #[.int .i64 cl, .int .i64 cb, .int .i64 ht, .int .i64 ri, .int .i64 ru, .int .i64 wd, .int .i64 dp]] w fun e w' => e = .returned (.int .i64 (checkE cl cb ht ri ru wd dp)) ∧ Calm w w' := by
  by_cases hcl : 0 ≤ cl ∧ cl ≤ 3
  · by_cases hcb : 0 ≤ cb ∧ cb ≤ 8
    · by_cases hht : cb + 1 ≤ ht ∧ ht ≤ 32
      · by_cases hri : 0 ≤ ri ∧ ri ≤ 100
        · by_cases hru : 1 ≤ ru ∧ ru ≤ 100
          · by_cases hwd : 1 ≤ wd ∧ wd ≤ 32
            · by_cases hdp : 1 ≤ dp ∧ dp ≤ 32
              · have e1 : checkE cl cb ht ri ru wd dp = 0 := by simp [checkE, checkB, *]
                rw [e1]
                clear e1
                have vcl : withinB cl 0 3 = true := by rw [within_iff (by omega)]; simpa using hcl
                have vcb : withinB cb 0 8 = true := by rw [within_iff (by omega)]; simpa using hcb
                have vht : withinB ht (cb + 1) 32 = true := by rw [within_iff (by omega)]; simpa using hht
                have vri : withinB ri 0 100 = true := by rw [within_iff (by omega)]; simpa using hri
                have vru : withinB ru 1 100 = true := by rw [within_iff (by omega)]; simpa using hru
                have vwd : withinB wd 1 32 = true := by rw [within_iff (by omega)]; simpa using hwd
                have vdp : withinB dp 1 32 = true := by rw [within_iff (by omega)]; simpa using hdp
                go_enter Tryd.func34, Tryd.ntmps34
                go_wp2_with (go_at_call 47; refine (within_any _ _ _ _).mono ?_; rintro e w' ⟨rfl, rfl⟩)
                go_ret
                exact ⟨rfl, by go_grown, by go_grown⟩
              · have e1 : checkE cl cb ht ri ru wd dp = 20 := by simp [checkE, checkB, *]
                rw [e1]
                clear e1
                have vcl : withinB cl 0 3 = true := by rw [within_iff (by omega)]; simpa using hcl
                have vcb : withinB cb 0 8 = true := by rw [within_iff (by omega)]; simpa using hcb
                have vht : withinB ht (cb + 1) 32 = true := by rw [within_iff (by omega)]; simpa using hht
                have vri : withinB ri 0 100 = true := by rw [within_iff (by omega)]; simpa using hri
                have vru : withinB ru 1 100 = true := by rw [within_iff (by omega)]; simpa using hru
                have vwd : withinB wd 1 32 = true := by rw [within_iff (by omega)]; simpa using hwd
                have vdp : withinB dp 1 32 = false := by rw [within_iff (by omega)]; simpa using hdp
                go_enter Tryd.func34, Tryd.ntmps34
                go_wp2_with (go_at_call 47; refine (within_any _ _ _ _).mono ?_; rintro e w' ⟨rfl, rfl⟩)
                go_ret
                exact ⟨rfl, by go_grown, by go_grown⟩
            · have e1 : checkE cl cb ht ri ru wd dp = 20 := by simp [checkE, checkB, *]
              rw [e1]
              clear e1
              have vcl : withinB cl 0 3 = true := by rw [within_iff (by omega)]; simpa using hcl
              have vcb : withinB cb 0 8 = true := by rw [within_iff (by omega)]; simpa using hcb
              have vht : withinB ht (cb + 1) 32 = true := by rw [within_iff (by omega)]; simpa using hht
              have vri : withinB ri 0 100 = true := by rw [within_iff (by omega)]; simpa using hri
              have vru : withinB ru 1 100 = true := by rw [within_iff (by omega)]; simpa using hru
              have vwd : withinB wd 1 32 = false := by rw [within_iff (by omega)]; simpa using hwd
              go_enter Tryd.func34, Tryd.ntmps34
              go_wp2_with (go_at_call 47; refine (within_any _ _ _ _).mono ?_; rintro e w' ⟨rfl, rfl⟩)
              go_ret
              exact ⟨rfl, by go_grown, by go_grown⟩
          · have e1 : checkE cl cb ht ri ru wd dp = 20 := by simp [checkE, checkB, *]
            rw [e1]
            clear e1
            have vcl : withinB cl 0 3 = true := by rw [within_iff (by omega)]; simpa using hcl
            have vcb : withinB cb 0 8 = true := by rw [within_iff (by omega)]; simpa using hcb
            have vht : withinB ht (cb + 1) 32 = true := by rw [within_iff (by omega)]; simpa using hht
            have vri : withinB ri 0 100 = true := by rw [within_iff (by omega)]; simpa using hri
            have vru : withinB ru 1 100 = false := by rw [within_iff (by omega)]; simpa using hru
            go_enter Tryd.func34, Tryd.ntmps34
            go_wp2_with (go_at_call 47; refine (within_any _ _ _ _).mono ?_; rintro e w' ⟨rfl, rfl⟩)
            go_ret
            exact ⟨rfl, by go_grown, by go_grown⟩
        · have e1 : checkE cl cb ht ri ru wd dp = 20 := by simp [checkE, checkB, *]
          rw [e1]
          clear e1
          have vcl : withinB cl 0 3 = true := by rw [within_iff (by omega)]; simpa using hcl
          have vcb : withinB cb 0 8 = true := by rw [within_iff (by omega)]; simpa using hcb
          have vht : withinB ht (cb + 1) 32 = true := by rw [within_iff (by omega)]; simpa using hht
          have vri : withinB ri 0 100 = false := by rw [within_iff (by omega)]; simpa using hri
          go_enter Tryd.func34, Tryd.ntmps34
          go_wp2_with (go_at_call 47; refine (within_any _ _ _ _).mono ?_; rintro e w' ⟨rfl, rfl⟩)
          go_ret
          exact ⟨rfl, by go_grown, by go_grown⟩
      · have e1 : checkE cl cb ht ri ru wd dp = 20 := by simp [checkE, checkB, *]
        rw [e1]
        clear e1
        have vcl : withinB cl 0 3 = true := by rw [within_iff (by omega)]; simpa using hcl
        have vcb : withinB cb 0 8 = true := by rw [within_iff (by omega)]; simpa using hcb
        have vht : withinB ht (cb + 1) 32 = false := by rw [within_iff (by omega)]; simpa using hht
        go_enter Tryd.func34, Tryd.ntmps34
        go_wp2_with (go_at_call 47; refine (within_any _ _ _ _).mono ?_; rintro e w' ⟨rfl, rfl⟩)
        go_ret
        exact ⟨rfl, by go_grown, by go_grown⟩
    · have e1 : checkE cl cb ht ri ru wd dp = 20 := by simp [checkE, checkB, *]
      rw [e1]
      clear e1
      have vcl : withinB cl 0 3 = true := by rw [within_iff (by omega)]; simpa using hcl
      have vcb : withinB cb 0 8 = false := by rw [within_iff (by omega)]; simpa using hcb
      go_enter Tryd.func34, Tryd.ntmps34
      go_wp2_with (go_at_call 47; refine (within_any _ _ _ _).mono ?_; rintro e w' ⟨rfl, rfl⟩)
      go_ret
      exact ⟨rfl, by go_grown, by go_grown⟩
  · have e1 : checkE cl cb ht ri ru wd dp = 20 := by simp [checkE, checkB, *]
    rw [e1]
    clear e1
    have vcl : withinB cl 0 3 = false := by rw [within_iff (by omega)]; simpa using hcl
    go_enter Tryd.func34, Tryd.ntmps34
    go_wp2_with (go_at_call 47; refine (within_any _ _ _ _).mono ?_; rintro e w' ⟨rfl, rfl⟩)
    go_ret
    exact ⟨rfl, by go_grown, by go_grown⟩

end Go.Proofs.YtgoggogcbjfofaaDoor
