import Derived.Test.YtklopjbpfddgfaaGreatSpAZ12
import Derived.Test.YtklopjbpfddgfaaGreatSoCBZ12
import Derived.Test.YtklopjbpfddgfaaGreatSpDZ12
import Derived.Test.YtklopjbpfddgfaaGreatTriEZ12
import Derived.Test.YtklopjbpfddgfaaGreatClBZ12
import Derived.Test.YtklopjbpfddgfaaGreatWholeHZ12
import Derived.Deep.DeepCutAuto
import Derived.Deep.CutBlock
import Derived.Deep.Quiet
import Derived.BigQuiet

/- Triangles that may be, boxes of columns, what is merged: plain numbers. No function of the program in sight. -/
namespace Go.Proofs.YtklopjbpfddgfaaGreat
open Go.RowKit
set_option linter.unusedVariables false

def badP (p : Sn) : Bool := decide (p.lo < -2048) || decide (p.hi < p.lo) || decide (2048 < p.hi)

/-! What is merged. -/
def mrg (l : List Sn) : List Sn := l.foldl (fun R s => putS s R false) []
theorem mrg_snoc (l : List Sn) (s : Sn) : mrg (l ++ [s]) = putS s (mrg l) false := by unfold mrg; rw [List.foldl_append]; rfl
theorem mrg_is_aux : ∀ (m l R : List Sn), Proper l → Proper m → IsM l R → IsM (l ++ m) (m.foldl (fun R s => putS s R false) R)
  | [], l, R, _, _, h => by simpa using h
  | s :: m, l, R, hl, hm, h => by
    have hs := hm s List.mem_cons_self
    have h1 := IsM.put hl h hs
    have := mrg_is_aux m (l ++ [s]) _ (fun p hp => by
      rcases List.mem_append.1 hp with k | k
      · exact hl p k
      · rw [List.mem_singleton] at k; subst k; exact hs) (fun p hp => hm p (List.mem_cons_of_mem _ hp)) h1
    rw [List.append_assoc] at this
    exact this
theorem mrg_is {l : List Sn} (h : Proper l) : IsM l (mrg l) := by
  have := mrg_is_aux l [] [] (fun p hp => by simp at hp) h IsM.nil
  unfold mrg
  simpa using this
theorem mrg_eq {l R : List Sn} (h : Proper l) (hR : IsM l R) : R = mrg l := IsM.uniq h hR (mrg_is h) (fun _ => Iff.rfl)
theorem mrg_congr {l m : List Sn} (h : Proper l) (e : ∀ p, p ∈ l ↔ p ∈ m) : mrg l = mrg m :=
  IsM.uniq h (mrg_is h) (mrg_is (fun p hp => h p ((e p).2 hp))) e

/-! Triangles. -/
def walkT (C : CfgR) (T : TriR) : Bool := walkB C.cl C.cb C.ht C.ri C.ru C.wd C.dp T.x0 T.y0 T.z0 T.x1 T.y1 T.z1 T.x2 T.y2 T.z2
def mayL (C : CfgR) (l : List TriR) : Bool := decide (l.length ≤ 200) && l.all (mayTB C.wd C.dp)
/-- What the checks ahead answer. -/
def rchk (C : CfgR) (l : List TriR) : Int := if C.err ≠ 0 then C.err else if mayL C l then 0 else 2
theorem err_two (C : CfgR) : C.err = 0 ∨ C.err = 20 := checkE_two _ _ _ _ _ _ _
theorem rchk_zero {C : CfgR} {l : List TriR} (h : rchk C l = 0) : C.err = 0 ∧ l.length ≤ 200 ∧ ∀ T ∈ l, mayTB C.wd C.dp T = true := by
  unfold rchk at h
  split at h
  · rename_i h1; exact absurd h h1
  · rename_i h1
    split at h
    · rename_i h2
      unfold mayL at h2
      rw [Bool.and_eq_true, decide_eq_true_eq, List.all_eq_true] at h2
      exact ⟨by simpa using h1, h2.1, h2.2⟩
    · omega
theorem rchk_of {C : CfgR} {l : List TriR} (h0 : C.err = 0) (h1 : l.length ≤ 200) (h2 : ∀ T ∈ l, mayTB C.wd C.dp T = true) : rchk C l = 0 := by
  unfold rchk mayL
  have e : (decide (l.length ≤ 200) && l.all (mayTB C.wd C.dp)) = true := by rw [Bool.and_eq_true, decide_eq_true_eq, List.all_eq_true]; exact ⟨h1, h2⟩
  rw [if_neg (by simpa using h0), if_pos e]
theorem mayT_iff {wd dp : Int} {T : TriR} : mayTB wd dp T = true ↔ StP wd dp T.x0 T.y0 T.z0 T.x1 T.y1 T.z1 T.x2 T.y2 T.z2 ∧ tny T ≠ 0 := by
  unfold mayTB outV heiB StP StV tny nyI
  simp only [Bool.and_eq_true, Bool.not_eq_true', Bool.or_eq_false_iff, decide_eq_false_iff_not, bne_iff_ne, Bool.not_eq_false', decide_eq_true_eq]
  constructor
  · rintro ⟨⟨⟨h0, h1⟩, h2⟩, h3⟩
    refine ⟨⟨⟨?_, ?_, ?_⟩, ⟨?_, ?_, ?_⟩, ⟨?_, ?_, ?_⟩⟩, fun e => h3 (by grind)⟩ <;> omega
  · rintro ⟨⟨h0, h1, h2⟩, h3⟩
    refine ⟨⟨⟨?_, ?_⟩, ?_⟩, fun e => h3 (by grind)⟩ <;> omega
theorem okT_iff' {T : TriR} : okT T = true ↔ StP 32 32 T.x0 T.y0 T.z0 T.x1 T.y1 T.z1 T.x2 T.y2 T.z2 ∧ tny T ≠ 0 := by
  unfold okT okB tny
  rw [Bool.and_eq_true, stB_iff, bne_iff_ne]
theorem mayT_ok {C : CfgR} (hC : C.fine) {T : TriR} (h : mayTB C.wd C.dp T = true) : okT T = true := by
  obtain ⟨h1, h2⟩ := mayT_iff.1 h
  have := hC.w2
  have := hC.d2
  refine okT_iff'.2 ⟨?_, h2⟩
  unfold StP StV at h1 ⊢
  omega
/-- What tri's own check answers, its id 1. -/
theorem mayT_check {C : CfgR} (hC : C.fine) (T : TriR) : tCheckE C.cl C.cb C.ht C.ri C.ru C.wd C.dp 1 T.x0 T.y0 T.z0 T.x1 T.y1 T.z1 T.x2 T.y2 T.z2 = if mayTB C.wd C.dp T then 0 else 40 := by
  have h0 : checkE C.cl C.cb C.ht C.ri C.ru C.wd C.dp = 0 := hC.err
  unfold tCheckE
  rw [if_neg (by simpa using h0)]
  by_cases h : mayTB C.wd C.dp T = true
  · rw [if_pos h, if_pos ⟨by decide, stB_iff.2 (mayT_iff.1 h).1, mayT_ok hC h⟩]
  · rw [if_neg h, if_neg]
    rintro ⟨-, h1, h2⟩
    exact h (mayT_iff.2 ⟨stB_iff.1 h1, (okT_iff'.1 h2).2⟩)

/-- What stands at a place of a box. -/
def plX (x w : Int) (n : Nat) : Int := x + (n : Int) % w
def plZ (z w : Int) (n : Nat) : Int := z + (n : Int) / w
def boxB (x z w d : Int) : Bool := decide (-64 ≤ x) && decide (x ≤ 64) && decide (-64 ≤ z) && decide (z ≤ 64) && decide (0 ≤ w) && decide (w ≤ 64) && decide (0 ≤ d) && decide (d ≤ 64)
theorem boxB_iff {x z w d : Int} : boxB x z w d = true ↔ (-64 ≤ x ∧ x ≤ 64) ∧ (-64 ≤ z ∧ z ≤ 64) ∧ (0 ≤ w ∧ w ≤ 64) ∧ (0 ≤ d ∧ d ≤ 64) := by
  unfold boxB; simp only [Bool.and_eq_true, decide_eq_true_eq, and_assoc]

/-- A box of columns. -/
structure Bx where
  (x z w d : Int)
def i64B (n : Int) : Prop := -9223372036854775808 ≤ n ∧ n ≤ 9223372036854775807
structure Bx.ok (b : Bx) : Prop where
  w0 : 0 ≤ b.w
  w1 : b.w ≤ 64
  d0 : 0 ≤ b.d
  d1 : b.d ≤ 64
  x0 : i64B b.x
  z0 : i64B b.z
  x1 : i64B (b.x + (b.w - 1))
  z1 : i64B (b.z + (b.d - 1))
def Bx.n (b : Bx) : Nat := (b.w * b.d).toNat
theorem Bx.n_le {b : Bx} (h : b.ok) : b.n ≤ 4096 := by
  have h1 : b.w * b.d ≤ 64 * 64 := Int.mul_le_mul h.w1 h.d1 h.d0 (by omega)
  unfold Bx.n; omega
def Bx.inside (b : Bx) (x z : Int) : Prop := (b.x ≤ x ∧ x ≤ b.x + (b.w - 1)) ∧ (b.z ≤ z ∧ z ≤ b.z + (b.d - 1))
instance (b : Bx) (x z : Int) : Decidable (b.inside x z) := by unfold Bx.inside; infer_instance
def Bx.pl (b : Bx) (x z : Int) : Int := (z - b.z) * b.w + x - b.x
theorem Bx.pl_lt {b : Bx} {x z : Int} (h : b.inside x z) : 0 ≤ b.pl x z ∧ b.pl x z < b.w * b.d ∧ (b.pl x z).toNat < b.n := by
  obtain ⟨⟨h1, h2⟩, h3, h4⟩ := h
  have k0 : 0 ≤ (z - b.z) * b.w := Int.mul_nonneg (by omega) (by omega)
  have k1 : (z - b.z) * b.w ≤ (b.d - 1) * b.w := Int.mul_le_mul_of_nonneg_right (by omega) (by omega)
  have k2 : (b.d - 1) * b.w = b.w * b.d - b.w := by grind
  unfold Bx.n Bx.pl
  omega
theorem Bx.pl_at {b : Bx} {x z : Int} (h : b.inside x z) : plX b.x b.w (b.pl x z).toNat = x ∧ plZ b.z b.w (b.pl x z).toNat = z := by
  obtain ⟨k1, k2, k3⟩ := Bx.pl_lt h
  obtain ⟨⟨h1, h2⟩, h3, h4⟩ := h
  unfold plX plZ
  have e : ((b.pl x z).toNat : Int) = (x - b.x) + (z - b.z) * b.w := by unfold Bx.pl at *; omega
  have hw : 0 < b.w := by omega
  rw [e]
  constructor
  · rw [Int.add_mul_emod_self_right, Int.emod_eq_of_lt (by omega) (by omega)]; omega
  · rw [Int.add_mul_ediv_right _ _ (by omega), Int.ediv_eq_zero_of_lt (by omega) (by omega)]; omega
theorem Bx.pl_inside {b : Bx} (hb : b.ok) {n : Nat} (h : n < b.n) : b.inside (plX b.x b.w n) (plZ b.z b.w n) ∧ (b.pl (plX b.x b.w n) (plZ b.z b.w n)).toNat = n := by
  have hn : (n : Int) < b.w * b.d := by unfold Bx.n at h; omega
  have hw : 0 < b.w := by
    rcases Int.lt_or_eq_of_le hb.w0 with k | k
    · exact k
    · rw [← k] at hn; simp at hn; omega
  have h1 := Int.emod_nonneg (n : Int) (Int.ne_of_gt hw)
  have h2 := Int.emod_lt_of_pos (n : Int) hw
  have h3 : 0 ≤ (n : Int) / b.w := Int.ediv_nonneg (by omega) (by omega)
  have h4 : (n : Int) / b.w < b.d := Int.ediv_lt_of_lt_mul hw (by rw [Int.mul_comm]; exact hn)
  have h5 := Int.mul_ediv_add_emod (n : Int) b.w
  unfold Bx.inside plX plZ Bx.pl
  refine ⟨⟨⟨by omega, by omega⟩, by omega, by omega⟩, ?_⟩
  have e : (b.z + (n : Int) / b.w - b.z) * b.w + (b.x + (n : Int) % b.w) - b.x = n := by grind
  rw [e]; simp

end Go.Proofs.YtklopjbpfddgfaaGreat

/- The document's own Abs, Greatest; fractions in lowest terms as the document brings them there. -/
namespace Go.Proofs.YtklopjbpfddgfaaGreat
open Go.RowKit
set_option linter.unusedVariables false

set_option maxHeartbeats 400000 in
theorem r_abs (n : Int) (w : World) (h : -4611686018427387904 ≤ n ∧ n ≤ 4611686018427387904) :
    Calls Tryz.prog 124 #[.int .i64 n] w fun e w' => e = .returned (.int .i64 (n.natAbs : Int)) ∧ w = w' := by
  obtain ⟨m, hm⟩ : ∃ m : Int, m = (n.natAbs : Int) := ⟨_, rfl⟩
  rw [← hm]
  have hm' : Hid (max n (-n) = m) := by show _ = m; omega
  clear hm
  go_enter Tryz.func124, Tryz.ntmps124
  go_wp2
  go_ret
  exact ⟨retI hm'.out, rfl⟩

set_option maxHeartbeats 2000000 in
theorem r_greatest (n d : Nat) (w : World) (hn : n ≤ 4611686018427387904) (hd : d ≤ 4611686018427387904) :
    Calls Tryz.prog 123 #[.int .i64 n, .int .i64 d] w fun e w' => e = .returned (.int .i64 (Nat.gcd d n : Nat)) ∧ New w w' := by
  obtain ⟨G, hG⟩ : ∃ G, G = Nat.gcd d n := ⟨_, rfl⟩
  rw [← hG]
  have HG : Hid _ := hG
  clear hG
  go_enter Tryz.func123, Tryz.ntmps123
  go_wp2_with fail
  go_loopg [0, 1] d (fun kx s0 s1 wr => ∃ a b : Nat, s0 = .int .i64 a ∧ s1 = .int .i64 b ∧ b ≤ kx ∧ a ≤ 4611686018427387904 ∧ b ≤ 4611686018427387904 ∧ Hid (Nat.gcd b a = G) ∧ New w wr)
  case atStart => exact ⟨n, d, rfl, rfl, Nat.le_refl _, hn, hd, HG.out.symm, New.refl _⟩
  case round =>
    obtain ⟨a, b, rfl, rfl, hk, ha, hb, hg, hn1⟩ := hrel
    by_cases h0 : b = 0
    · subst h0
      have hgc : Hid (G = a) := by show G = a; rw [← hg.out, Nat.gcd_zero_left]
      clear hg HG
      go_wp2_with fail
      go_ret
      rw [hgc.out]
      exact ⟨rfl, hn1⟩
    · have hz : ((b : Int) == 0) = false := by rw [beq_eq_false_iff_ne]; omega
      have q1 : (a : Int).tmod (b : Int) = ((a % b : Nat) : Int) := by rw [Int.tmod_eq_emod_of_nonneg (by omega)]; rfl
      have hlt : a % b < b := Nat.mod_lt _ (by omega)
      have hg' : Hid (Nat.gcd (a % b) b = G) := by show _ = G; rw [← hg.out, ← Nat.gcd_rec]
      clear hg HG
      go_wp2_with fail
      go_roundg (a % b)
      case measure => omega
      case rel => exact ⟨b, a % b, rfl, rfl, Nat.le_refl _, hb, by omega, hg', by (repeat (first | (with_reducible exact New.refl _) | (with_reducible assumption) | ((with_reducible refine New.setB ?_ ?_ _); focus (first | omega | (simp; omega) | (simp; done))) | (with_reducible refine New.alloc ?_ _) | (with_reducible refine New.drew ?_) | (with_reducible refine New.drewN ?_ _) | (with_reducible refine New.hat ?_ _) | ((with_reducible apply New.snart); (with_reducible assumption))))⟩

theorem low_r {n d : Int} (hd : d ≠ 0) : (if d < 0 then -n else n).tdiv (Nat.gcd d.natAbs n.natAbs : Nat) = lowN n d ∧ (d.natAbs : Int).tdiv (Nat.gcd d.natAbs n.natAbs : Nat) = lowD n d ∧ 0 < Nat.gcd d.natAbs n.natAbs := by
  obtain ⟨q0, h1, h2⟩ := low_div (n := n) hd rfl
  have hg : 0 < Int.gcd d n := Int.gcd_pos_of_ne_zero_left n hd
  have hge : Nat.gcd d.natAbs n.natAbs = Int.gcd d n := rfl
  rw [hge]
  refine ⟨?_, ?_, hg⟩
  · rw [← h1]
    rcases Int.lt_trichotomy d 0 with h | h | h
    · rw [if_pos h, Int.sign_eq_neg_one_of_neg h, show (-1 : Int) * (Int.gcd d n : Int) = -(Int.gcd d n : Int) by omega, Int.tdiv_neg, Int.neg_tdiv]
    · exact absurd h hd
    · rw [if_neg (by omega), Int.sign_eq_one_of_pos h, Int.one_mul]
  · rw [← h2]
    rcases Int.lt_trichotomy d 0 with h | h | h
    · rw [Int.sign_eq_neg_one_of_neg h, show (-1 : Int) * (Int.gcd d n : Int) = -(Int.gcd d n : Int) by omega, Int.tdiv_neg, show (d.natAbs : Int) = -d by omega, Int.neg_tdiv]
    · exact absurd h hd
    · rw [Int.sign_eq_one_of_pos h, Int.one_mul, show (d.natAbs : Int) = d by omega]

end Go.Proofs.YtklopjbpfddgfaaGreat

/- Package raster: within, may, last, place; the document's own box. -/
namespace Go.Proofs.YtklopjbpfddgfaaGreat
open Go.RowKit
set_option linter.unusedVariables false

set_option maxHeartbeats 400000 in
theorem a_within (n lo hi : Int) (w : World) :
    Calls Tryz.prog 43 #[.int .i64 n, .int .i64 lo, .int .i64 hi] w fun e w' => e = .returned (.bool (decide (lo ≤ n ∧ n ≤ hi))) ∧ w = w' := by
  go_enter Tryz.func43, Tryz.ntmps43
  go_wp2
  all_goals
    go_ret
    refine ⟨retB ?_, rfl⟩
    simp [*] <;> omega

theorem box4 (x z w d : Int) : boxB x z w d = (decide (-64 ≤ x ∧ x ≤ 64) && decide (-64 ≤ z ∧ z ≤ 64) && decide (0 ≤ w ∧ w ≤ 64) && decide (0 ≤ d ∧ d ≤ 64)) := by
  rw [Bool.eq_iff_iff, boxB_iff]
  simp only [Bool.and_eq_true, decide_eq_true_eq, and_assoc]

set_option maxHeartbeats 1000000 in
theorem a_may (x z w d : Int) (W : World) :
    Calls Tryz.prog 29 #[.agg #[.int .i64 x, .int .i64 z, .int .i64 w, .int .i64 d]] W fun e W' => e = .returned (.bool (boxB x z w d)) ∧ New W W' := by
  rw [box4]
  have k1 := fun V => a_within x (-64) 64 V
  have k2 := fun V => a_within z (-64) 64 V
  have k3 := fun V => a_within w 0 64 V
  have k4 := fun V => a_within d 0 64 V
  generalize decide (-64 ≤ x ∧ x ≤ 64) = b1 at *
  generalize decide (-64 ≤ z ∧ z ≤ 64) = b2 at *
  generalize decide (0 ≤ w ∧ w ≤ 64) = b3 at *
  generalize decide (0 ≤ d ∧ d ≤ 64) = b4 at *
  go_enter Tryz.func29, Tryz.ntmps29
  go_wp2_with fail
  refine (k1 _).mono ?_
  rintro e V ⟨rfl, rfl⟩
  cases b1
  · go_wp2_with fail
    go_ret
    exact ⟨rfl, by (repeat (first | (with_reducible exact New.refl _) | (with_reducible assumption) | ((with_reducible refine New.setB ?_ ?_ _); focus (first | omega | (simp; omega) | (simp; done))) | (with_reducible refine New.alloc ?_ _) | (with_reducible refine New.drew ?_) | (with_reducible refine New.drewN ?_ _) | (with_reducible refine New.hat ?_ _) | ((with_reducible apply New.snart); (with_reducible assumption))))⟩
  go_wp2_with fail
  refine (k2 _).mono ?_
  rintro e V ⟨rfl, rfl⟩
  cases b2
  · go_wp2_with fail
    go_ret
    exact ⟨rfl, by (repeat (first | (with_reducible exact New.refl _) | (with_reducible assumption) | ((with_reducible refine New.setB ?_ ?_ _); focus (first | omega | (simp; omega) | (simp; done))) | (with_reducible refine New.alloc ?_ _) | (with_reducible refine New.drew ?_) | (with_reducible refine New.drewN ?_ _) | (with_reducible refine New.hat ?_ _) | ((with_reducible apply New.snart); (with_reducible assumption))))⟩
  go_wp2_with fail
  refine (k3 _).mono ?_
  rintro e V ⟨rfl, rfl⟩
  cases b3
  · go_wp2_with fail
    go_ret
    exact ⟨rfl, by (repeat (first | (with_reducible exact New.refl _) | (with_reducible assumption) | ((with_reducible refine New.setB ?_ ?_ _); focus (first | omega | (simp; omega) | (simp; done))) | (with_reducible refine New.alloc ?_ _) | (with_reducible refine New.drew ?_) | (with_reducible refine New.drewN ?_ _) | (with_reducible refine New.hat ?_ _) | ((with_reducible apply New.snart); (with_reducible assumption))))⟩
  go_wp2_with fail
  refine (k4 _).mono ?_
  rintro e V ⟨rfl, rfl⟩
  go_wp2_with fail
  go_ret
  exact ⟨rfl, by (repeat (first | (with_reducible exact New.refl _) | (with_reducible assumption) | ((with_reducible refine New.setB ?_ ?_ _); focus (first | omega | (simp; omega) | (simp; done))) | (with_reducible refine New.alloc ?_ _) | (with_reducible refine New.drew ?_) | (with_reducible refine New.drewN ?_ _) | (with_reducible refine New.hat ?_ _) | ((with_reducible apply New.snart); (with_reducible assumption))))⟩

set_option maxHeartbeats 400000 in
theorem a_last (b : Bx) (hb : b.ok) (W : World) :
    Calls Tryz.prog 61 #[.agg #[.int .i64 b.x, .int .i64 b.z, .int .i64 b.w, .int .i64 b.d]] W fun e W' => e = .returned (.tuple #[.int .i64 (b.x + (b.w - 1)), .int .i64 (b.z + (b.d - 1))]) ∧ New W W' := by
  obtain ⟨h1, h2, h3, h4, h5, h6, h7, h8⟩ := hb
  unfold i64B at h7 h8
  have w1 : IntKind.i64.wrap (b.w - 1) = b.w - 1 := IntWalk.i64_in _ (by omega)
  have w2 : IntKind.i64.wrap (b.d - 1) = b.d - 1 := IntWalk.i64_in _ (by omega)
  have w3 : IntKind.i64.wrap (b.x + (b.w - 1)) = b.x + (b.w - 1) := IntWalk.i64_in _ (by omega)
  have w4 : IntKind.i64.wrap (b.z + (b.d - 1)) = b.z + (b.d - 1) := IntWalk.i64_in _ (by omega)
  obtain ⟨x, z, w, d⟩ := b
  dsimp only at *
  go_enter Tryz.func61, Tryz.ntmps61
  go_wp2_with fail
  go_quiet (fail)
  go_wp2_with fail
  go_ret2
  exact ⟨rfl, by (repeat (first | (with_reducible exact New.refl _) | (with_reducible assumption) | ((with_reducible refine New.setB ?_ ?_ _); focus (first | omega | (simp; omega) | (simp; done))) | (with_reducible refine New.alloc ?_ _) | (with_reducible refine New.drew ?_) | (with_reducible refine New.drewN ?_ _) | (with_reducible refine New.hat ?_ _) | ((with_reducible apply New.snart); (with_reducible assumption))))⟩

set_option maxHeartbeats 400000 in
theorem a_place (b : Bx) (hb : b.ok) (x z : Int) (hi : b.inside x z) (W : World) :
    Calls Tryz.prog 63 #[.agg #[.int .i64 b.x, .int .i64 b.z, .int .i64 b.w, .int .i64 b.d], .int .i64 x, .int .i64 z] W fun e W' => e = .returned (.int .i64 (b.pl x z)) ∧ New W W' := by
  obtain ⟨k1, k2, k3⟩ := Bx.pl_lt hi
  have hn := Bx.n_le hb
  obtain ⟨h1, h2, h3, h4, h5, h6, h7, h8⟩ := hb
  obtain ⟨⟨i1, i2⟩, i3, i4⟩ := hi
  unfold i64B at h5 h6 h7 h8
  have q0 : 0 ≤ (z - b.z) * b.w := Int.mul_nonneg (by omega) (by omega)
  have q1 : (z - b.z) * b.w ≤ 64 * 64 := Int.mul_le_mul (by omega) h2 (by omega) (by omega)
  have e : b.pl x z = (z - b.z) * b.w + x - b.x := rfl
  rw [e]
  clear e k1 k2 k3 hn
  obtain ⟨bx, bz, bw, bd⟩ := b
  dsimp only at *
  generalize hq : (z - bz) * bw = q at *
  have w1 : IntKind.i64.wrap (z - bz) = z - bz := IntWalk.i64_in _ (by omega)
  have w2 : IntKind.i64.wrap q = q := IntWalk.i64_in _ (by omega)
  have w4 : wrap64 (wrap64 (q + x) - bx) = q + x - bx := by
    unfold wrap64
    omega
  go_enter Tryz.func63, Tryz.ntmps63
  go_wp2_with fail
  go_ret
  exact ⟨by show Ending.returned (.int .i64 (wrap64 (wrap64 (q + x) - bx))) = _; rw [w4], by (repeat (first | (with_reducible exact New.refl _) | (with_reducible assumption) | ((with_reducible refine New.setB ?_ ?_ _); focus (first | omega | (simp; omega) | (simp; done))) | (with_reducible refine New.alloc ?_ _) | (with_reducible refine New.drew ?_) | (with_reducible refine New.drewN ?_ _) | (with_reducible refine New.hat ?_ _) | ((with_reducible apply New.snart); (with_reducible assumption))))⟩

set_option maxHeartbeats 1000000 in
theorem r_box (x z w d : Int) (W : World) :
    Calls Tryz.prog 32 #[.int .i64 x, .int .i64 z, .int .i64 w, .int .i64 d] W fun e W' => e = .returned (.bool (boxB x z w d)) ∧ New W W' := by
  go_enter Tryz.func32, Tryz.ntmps32
  go_wp2
  all_goals
    go_ret
    refine ⟨retB ?_, New.refl _⟩
    unfold boxB
    simp [*] <;> omega

end Go.Proofs.YtklopjbpfddgfaaGreat
