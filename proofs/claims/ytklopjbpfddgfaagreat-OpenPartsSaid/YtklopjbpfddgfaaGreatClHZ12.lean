import Derived.Test.YtklopjbpfddgfaaGreatClCZ12
import Derived.Test.YtklopjbpfddgfaaGreatClBZ12
import Derived.Test.YtklopjbpfddgfaaGreatWholeCZ12
import Derived.Outline
import Derived.Deep.DeepCutAuto

/- Package clip: the small functions. -/
namespace Go.Proofs.YtklopjbpfddgfaaGreat
open Go.RowKit
set_option linter.unusedVariables false

set_option maxHeartbeats 1000000 in
theorem k_within (a p lo hi : Int) (w : World) (ha : -1073741824 ≤ a ∧ a ≤ 1073741824) (hp : 1 ≤ p ∧ p ≤ 1048576) (hl : -64 ≤ lo ∧ lo ≤ 64) (hh : -64 ≤ hi ∧ hi ≤ 64) :
    Calls Tryz.prog 155 #[.agg #[.int .i64 a, .int .i64 p], .int .i64 lo, .int .i64 hi] w fun e w' => e = .returned (.bool (decide (lo * p ≤ a) && decide (a ≤ hi * p))) ∧ New w w' := by
  have h1 := mul_bd (a := lo) (b := p) (A := 64) (B := 1048576) hl (by omega)
  have h2 := mul_bd (a := hi) (b := p) (A := 64) (B := 1048576) hh (by omega)
  cases t1 : decide (lo * p ≤ a)
  · go_enter Tryz.func155, Tryz.ntmps155
    go_wp2_with fail
    go_ret
    exact ⟨rfl, by (repeat (first | (with_reducible exact New.refl _) | (with_reducible assumption) | ((with_reducible refine New.setB ?_ ?_ _); focus (first | omega | (simp; omega) | (simp; done))) | (with_reducible refine New.alloc ?_ _) | (with_reducible refine New.drew ?_) | (with_reducible refine New.drewN ?_ _) | (with_reducible refine New.hat ?_ _) | ((with_reducible apply New.snart); (with_reducible assumption))))⟩
  · go_enter Tryz.func155, Tryz.ntmps155
    go_wp2_with fail
    go_ret
    exact ⟨rfl, by (repeat (first | (with_reducible exact New.refl _) | (with_reducible assumption) | ((with_reducible refine New.setB ?_ ?_ _); focus (first | omega | (simp; omega) | (simp; done))) | (with_reducible refine New.alloc ?_ _) | (with_reducible refine New.drew ?_) | (with_reducible refine New.drewN ?_ _) | (with_reducible refine New.hat ?_ _) | ((with_reducible apply New.snart); (with_reducible assumption))))⟩

theorem holdsB_two (x z : Int) (c : Co) : holdsB x z c = ((decide (x * c.d ≤ c.x) && decide (c.x ≤ (x + 1) * c.d)) && (decide (z * c.d ≤ c.z) && decide (c.z ≤ (z + 1) * c.d))) := by
  unfold holdsB
  simp only [Bool.and_assoc]

set_option maxHeartbeats 2000000 in
set_option maxRecDepth 100000 in
theorem k_holds (x z : Int) (c : Co) (w : World) (hc : Okc c) (hx : -1 ≤ x ∧ x ≤ 32) (hz : -1 ≤ z ∧ z ≤ 32) :
    Calls Tryz.prog 139 #[.agg #[.int .i64 x, .int .i64 z], .agg #[.int .i64 c.x, .int .i64 c.z, .int .i64 c.y, .int .i64 c.d]] w fun e w' => e = .returned (.bool (holdsB x z c)) ∧ New w w' := by
  rw [holdsB_two]
  have KP := Lib.hid (fun W => k_parts c.x c.z c.y c.d W)
  have K1 := fun W => k_within c.x c.d x (x + 1) W hc.2.1 hc.1 (by omega) (by omega)
  have K2 := fun W => k_within c.z c.d z (z + 1) W hc.2.2.1 hc.1 (by omega) (by omega)
  generalize (decide (x * c.d ≤ c.x) && decide (c.x ≤ (x + 1) * c.d)) = b1 at *
  generalize (decide (z * c.d ≤ c.z) && decide (c.z ≤ (z + 1) * c.d)) = b2 at *
  replace K1 := Lib.hid K1
  replace K2 := Lib.hid K2
  clear hc
  go_enter Tryz.func139, Tryz.ntmps139
  go_wp2_with fail
  refine (KP.out _).mono ?_
  rintro e W1 ⟨rfl, g1⟩
  have c0 : W1.cell? ⟨w.heap.size, 0, none⟩ = some (.int .i64 x) := g1.1.keep (by go_simp)
  have c1 : W1.cell? ⟨w.heap.size, 1, none⟩ = some (.int .i64 z) := g1.1.keep (by go_simp)
  have n1 : New w W1 := New.trans (by (repeat (first | (with_reducible exact New.refl _) | (with_reducible assumption) | ((with_reducible refine New.setB ?_ ?_ _); focus (first | omega | (simp; omega) | (simp; done))) | (with_reducible refine New.alloc ?_ _) | (with_reducible refine New.drew ?_) | (with_reducible refine New.drewN ?_ _) | (with_reducible refine New.hat ?_ _) | ((with_reducible apply New.snart); (with_reducible assumption))))) g1.1
  have z1 := n1.size
  clear g1
  go_upto_region 2 with fail
  refine Code.at (fun W2 hW => ?_)
  have n2 : New W1 W2 := by subst hW; (repeat (first | (with_reducible exact New.refl _) | (with_reducible assumption) | ((with_reducible refine New.setB ?_ ?_ _); focus (first | omega | (simp; omega) | (simp; done))) | (with_reducible refine New.alloc ?_ _) | (with_reducible refine New.drew ?_) | (with_reducible refine New.drewN ?_ _) | (with_reducible refine New.hat ?_ _) | ((with_reducible apply New.snart); (with_reducible assumption))))
  have e0 : W2.cell? ⟨W1.heap.size, 0, none⟩ = some (.int .i64 c.x) := by subst hW; go_simp
  have e1 : W2.cell? ⟨W1.heap.size, 1, none⟩ = some (.int .i64 c.d) := by subst hW; go_simp
  have e2 : W2.cell? ⟨W1.heap.size + 1, 0, none⟩ = some (.int .i64 c.z) := by subst hW; go_simp
  have e3 : W2.cell? ⟨W1.heap.size + 1, 1, none⟩ = some (.int .i64 c.d) := by subst hW; go_simp
  clear hW
  replace c0 := n2.keep c0
  replace c1 := n2.keep c1
  replace n2 := n1.trans n2
  clear n1
  cases b1
  · clear K2
    go_wp2_with fail
    refine (K1.out _).mono ?_
    rintro e W3 ⟨rfl, n3⟩
    go_wp2_with fail
    go_ret
    exact ⟨rfl, n2.trans n3⟩
  · go_wp2_with fail
    refine (K1.out _).mono ?_
    rintro e W3 ⟨rfl, n3⟩
    replace c1 := n3.keep c1
    replace e2 := n3.keep e2
    replace e3 := n3.keep e3
    clear c0 e0 e1
    replace n2 := n2.trans n3
    clear n3
    go_wp2_with fail
    refine (K2.out _).mono ?_
    rintro e W4 ⟨rfl, n4⟩
    go_wp2_with fail
    go_ret
    exact ⟨rfl, n2.trans n4⟩

/-- The floor and the ceiling of a corner's height. -/
def flC (c : Co) : Int := floorI c.y c.d
def clC (c : Co) : Int := ceilI c.y c.d

set_option maxHeartbeats 400000 in
theorem k_floor (y d : Int) (w : World) : Calls Tryz.prog 84 #[.agg #[.int .i64 y, .int .i64 d]] w fun e w' => e = .returned (.int .i64 (floorI y d)) ∧ New w w' := by
  have K := Lib.hid (fun W => floor_any y d W)
  go_enter Tryz.func84, Tryz.ntmps84
  go_wp2_with fail
  refine (K.out _).mono ?_
  rintro e w' ⟨rfl, rfl⟩
  go_wp2_with fail
  go_ret
  exact ⟨rfl, by (repeat (first | (with_reducible exact New.refl _) | (with_reducible assumption) | ((with_reducible refine New.setB ?_ ?_ _); focus (first | omega | (simp; omega) | (simp; done))) | (with_reducible refine New.alloc ?_ _) | (with_reducible refine New.drew ?_) | (with_reducible refine New.drewN ?_ _) | (with_reducible refine New.hat ?_ _) | ((with_reducible apply New.snart); (with_reducible assumption))))⟩
set_option maxHeartbeats 400000 in
theorem k_ceil (y d : Int) (w : World) : Calls Tryz.prog 85 #[.agg #[.int .i64 y, .int .i64 d]] w fun e w' => e = .returned (.int .i64 (ceilI y d)) ∧ New w w' := by
  have K := Lib.hid (fun W => ceil_any y d W)
  go_enter Tryz.func85, Tryz.ntmps85
  go_wp2_with fail
  refine (K.out _).mono ?_
  rintro e w' ⟨rfl, rfl⟩
  go_wp2_with fail
  go_ret
  exact ⟨rfl, by (repeat (first | (with_reducible exact New.refl _) | (with_reducible assumption) | ((with_reducible refine New.setB ?_ ?_ _); focus (first | omega | (simp; omega) | (simp; done))) | (with_reducible refine New.alloc ?_ _) | (with_reducible refine New.drew ?_) | (with_reducible refine New.drewN ?_ _) | (with_reducible refine New.hat ?_ _) | ((with_reducible apply New.snart); (with_reducible assumption))))⟩

def colB (n : Int) : Bool := decide (-1 ≤ n ∧ n ≤ 32)
set_option maxHeartbeats 400000 in
theorem k_col (n : Int) (w : World) : Calls Tryz.prog 102 #[.int .i64 n] w fun e w' => e = .returned (.bool (colB n)) ∧ w = w' := by
  have hb : colB n = (decide (-1 ≤ n) && decide (n ≤ 32)) := by unfold colB; rw [Bool.decide_and]
  rw [hb]
  clear hb
  cases t : decide (-1 ≤ n)
  · go_enter Tryz.func102, Tryz.ntmps102
    go_wp2_with fail
    go_ret
    exact ⟨rfl, rfl⟩
  · go_enter Tryz.func102, Tryz.ntmps102
    go_wp2_with fail
    go_ret
    exact ⟨rfl, rfl⟩

def chkE (T : TriR) : Int := if okT T then 0 else 40
set_option maxHeartbeats 1000000 in
set_option maxRecDepth 100000 in
theorem k_check (T : TriR) (w : World) : Calls Tryz.prog 81 #[.agg #[.int .i64 T.i, .int .i64 T.x0, .int .i64 T.y0, .int .i64 T.z0, .int .i64 T.x1, .int .i64 T.y1, .int .i64 T.z1, .int .i64 T.x2, .int .i64 T.y2, .int .i64 T.z2]] w fun e w' => e = .returned (.int .i64 (chkE T)) ∧ New w w' := by
  have K := fun W => t_normal T.i T.x0 T.y0 T.z0 T.x1 T.y1 T.z1 T.x2 T.y2 T.z2 W
  have e : normE T.x0 T.y0 T.z0 T.x1 T.y1 T.z1 T.x2 T.y2 T.z2 = chkE T := rfl
  rw [e] at K
  clear e
  generalize chkE T = v at *
  replace K := Lib.hid K
  go_enter Tryz.func81, Tryz.ntmps81
  go_wp2_with fail
  refine (K.out _).mono ?_
  rintro e w' ⟨rfl, n1⟩
  go_wp2_with fail
  go_ret
  exact ⟨rfl, New.trans (by (repeat (first | (with_reducible exact New.refl _) | (with_reducible assumption) | ((with_reducible refine New.setB ?_ ?_ _); focus (first | omega | (simp; omega) | (simp; done))) | (with_reducible refine New.alloc ?_ _) | (with_reducible refine New.drew ?_) | (with_reducible refine New.drewN ?_ _) | (with_reducible refine New.hat ?_ _) | ((with_reducible apply New.snart); (with_reducible assumption))))) n1⟩

set_option maxHeartbeats 400000 in
theorem k_beyond (l : Ln) (vx vy vz : Int) (w : World) (h1 : 0 ≤ l.bx ∧ l.bx ≤ 1) (h2 : 0 ≤ l.bz ∧ l.bz ≤ 1) (h3 : -64 ≤ l.at' ∧ l.at' ≤ 64) (hx : 0 ≤ vx ∧ vx ≤ 32) (hz : 0 ≤ vz ∧ vz ≤ 32) :
    Calls Tryz.prog 142 #[.agg #[.int .i64 l.bx, .int .i64 l.bz, .int .i64 l.at'], .agg #[.int .i64 vx, .int .i64 vy, .int .i64 vz]] w fun e w' => e = .returned (.int .i64 (l.off vx vz)) ∧ New w w' := by
  have m1 := mul_bd (a := l.bx) (b := vx) (A := 1) (B := 32) (by omega) (by omega)
  have m2 := mul_bd (a := l.bz) (b := vz) (A := 1) (B := 32) (by omega) (by omega)
  unfold Ln.off
  go_enter Tryz.func142, Tryz.ntmps142
  go_wp2_with fail
  go_ret
  exact ⟨rfl, by (repeat (first | (with_reducible exact New.refl _) | (with_reducible assumption) | ((with_reducible refine New.setB ?_ ?_ _); focus (first | omega | (simp; omega) | (simp; done))) | (with_reducible refine New.alloc ?_ _) | (with_reducible refine New.drew ?_) | (with_reducible refine New.drewN ?_ _) | (with_reducible refine New.hat ?_ _) | ((with_reducible apply New.snart); (with_reducible assumption))))⟩

set_option maxHeartbeats 400000 in
theorem k_btw (p q m n : Int) (b b' : Nat) (w : World) (hp : w.cell? ⟨b, 0, none⟩ = some (.int .i64 p)) (hq : w.cell? ⟨b', 0, none⟩ = some (.int .i64 q)) (bp : -1024 ≤ p ∧ p ≤ 1024) (bq : -1024 ≤ q ∧ q ≤ 1024) (bm : -4096 ≤ m ∧ m ≤ 4096) (bn : -4096 ≤ n ∧ n ≤ 4096) :
    Calls Tryz.prog 144 #[.int .i64 m, .int .i64 n, .pointer (some ⟨b, 0, none⟩), .pointer (some ⟨b', 0, none⟩)] w fun e w' => e = .returned (.int .i64 (p * n - q * m)) ∧ New w w' := by
  have m1 := mul_bd (a := p) (b := n) (A := 1024) (B := 4096) bp bn
  have m2 := mul_bd (a := q) (b := m) (A := 1024) (B := 4096) bq bm
  go_enter Tryz.func144, Tryz.ntmps144
  go_wp2_with fail
  go_ret
  exact ⟨rfl, by (repeat (first | (with_reducible exact New.refl _) | (with_reducible assumption) | ((with_reducible refine New.setB ?_ ?_ _); focus (first | omega | (simp; omega) | (simp; done))) | (with_reducible refine New.alloc ?_ _) | (with_reducible refine New.drew ?_) | (with_reducible refine New.drewN ?_ _) | (with_reducible refine New.hat ?_ _) | ((with_reducible apply New.snart); (with_reducible assumption))))⟩

def La.enc (p : Int × Int) : List Value := #[.int .i64 p.1, .int .i64 p.2].toList
theorem La.enc_len (p : Int × Int) : (La.enc p).length = 2 := rfl
def Ln.enc (l : Ln) : List Value := #[.int .i64 l.bx, .int .i64 l.bz, .int .i64 l.at'].toList
theorem Ln.enc_len (l : Ln) : l.enc.length = 3 := rfl

theorem rowAt_four {α : Type} {enc : α → List Value} {k : Nat} {w : World} {b : Nat} (x0 x1 x2 x3 : α) (h0 : CellsAt w b 0 (enc x0)) (h1 : CellsAt w b k (enc x1)) (h2 : CellsAt w b (2 * k) (enc x2)) (h3 : CellsAt w b (3 * k) (enc x3)) : RowAt enc k w b 0 [x0, x1, x2, x3] := fun j hj => by
  match j, hj with
  | 0, _ => simpa using h0
  | 1, _ => simpa using h1
  | 2, _ => simpa using h2
  | 3, _ => simpa using h3
  | j + 4, hj => exact absurd hj (by simp)

theorem heap_two (w : World) (o o' : Obj) : ((w.alloc o).alloc o').heap[w.heap.size + 1]? = some o' := by
  have h := heap_new (w.alloc o) o'
  rwa [show (w.alloc o).heap.size = w.heap.size + 1 by simp] at h

set_option maxHeartbeats 1000000 in
theorem k_corners (x z : Int) (w : World) (hx : -1 ≤ x ∧ x ≤ 32) (hz : -1 ≤ z ∧ z ≤ 32) :
    Calls Tryz.prog 126 #[.agg #[.int .i64 x, .int .i64 z]] w fun e w' => ∃ g, e = .returned (.slice (some ⟨g, 0, none⟩) 4 4) ∧ RowAt La.enc 2 w' g 0 (cornL x z) ∧ (∃ cs fr, w'.heap[g]? = some (.cells cs 147 fr)) ∧ New w w' := by
  go_enter Tryz.func126, Tryz.ntmps126
  go_wp2_with fail
  refine bodyPost_ret (v := .slice (some ⟨w.heap.size + 1, 0, none⟩) 4 4) (by simp [results, Tryz.results126, go_sem]) rfl ?_
  refine ⟨_, rfl, rowAt_four _ _ _ _ ?_ ?_ ?_ ?_, ⟨_, _, heap_two _ _ _⟩, by (repeat (first | (with_reducible exact New.refl _) | (with_reducible assumption) | ((with_reducible refine New.setB ?_ ?_ _); focus (first | omega | (simp; omega) | (simp; done))) | (with_reducible refine New.alloc ?_ _) | (with_reducible refine New.drew ?_) | (with_reducible refine New.drewN ?_ _) | (with_reducible refine New.hat ?_ _) | ((with_reducible apply New.snart); (with_reducible assumption))))⟩
  · intro i hi
    match i, hi with
    | 0, _ => go_simp; rfl
    | 1, _ => go_simp; rfl
    | i + 2, hi => exact absurd hi (by rw [La.enc_len]; omega)
  · intro i hi
    match i, hi with
    | 0, _ => go_simp; rfl
    | 1, _ => go_simp; rfl
    | i + 2, hi => exact absurd hi (by rw [La.enc_len]; omega)
  · intro i hi
    match i, hi with
    | 0, _ => go_simp; rfl
    | 1, _ => go_simp; rfl
    | i + 2, hi => exact absurd hi (by rw [La.enc_len]; omega)
  · intro i hi
    match i, hi with
    | 0, _ => go_simp; rfl
    | 1, _ => go_simp; rfl
    | i + 2, hi => exact absurd hi (by rw [La.enc_len]; omega)

set_option maxHeartbeats 1000000 in
theorem k_lines (x z : Int) (w : World) (hx : -1 ≤ x ∧ x ≤ 32) (hz : -1 ≤ z ∧ z ≤ 32) :
    Calls Tryz.prog 130 #[.agg #[.int .i64 x, .int .i64 z]] w fun e w' => ∃ g, e = .returned (.slice (some ⟨g, 0, none⟩) 4 4) ∧ RowAt Ln.enc 3 w' g 0 (lineL x z) ∧ (∃ cs fr, w'.heap[g]? = some (.cells cs 177 fr)) ∧ New w w' := by
  go_enter Tryz.func130, Tryz.ntmps130
  go_wp2_with fail
  refine bodyPost_ret (v := .slice (some ⟨w.heap.size + 1, 0, none⟩) 4 4) (by simp [results, Tryz.results130, go_sem]) rfl ?_
  refine ⟨_, rfl, rowAt_four _ _ _ _ ?_ ?_ ?_ ?_, ⟨_, _, heap_two _ _ _⟩, by (repeat (first | (with_reducible exact New.refl _) | (with_reducible assumption) | ((with_reducible refine New.setB ?_ ?_ _); focus (first | omega | (simp; omega) | (simp; done))) | (with_reducible refine New.alloc ?_ _) | (with_reducible refine New.drew ?_) | (with_reducible refine New.drewN ?_ _) | (with_reducible refine New.hat ?_ _) | ((with_reducible apply New.snart); (with_reducible assumption))))⟩
  · intro i hi
    match i, hi with
    | 0, _ => go_simp; rfl
    | 1, _ => go_simp; rfl
    | 2, _ => go_simp; rfl
    | i + 3, hi => exact absurd hi (by rw [Ln.enc_len]; omega)
  · intro i hi
    match i, hi with
    | 0, _ => go_simp; rfl
    | 1, _ => go_simp; rfl
    | 2, _ => go_simp; rfl
    | i + 3, hi => exact absurd hi (by rw [Ln.enc_len]; omega)
  · intro i hi
    match i, hi with
    | 0, _ => go_simp; rfl
    | 1, _ => go_simp; rfl
    | 2, _ => go_simp; rfl
    | i + 3, hi => exact absurd hi (by rw [Ln.enc_len]; omega)
  · intro i hi
    match i, hi with
    | 0, _ => go_simp; rfl
    | 1, _ => go_simp; rfl
    | 2, _ => go_simp; rfl
    | i + 3, hi => exact absurd hi (by rw [Ln.enc_len]; omega)

end Go.Proofs.YtklopjbpfddgfaaGreat
