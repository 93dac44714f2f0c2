import Derived.Test.YtccikeagbillgaaGreatClCZ3
import Derived.Test.YtccikeagbillgaaGreatClBZ3
import Derived.Test.YtccikeagbillgaaGreatTriBZ3
import Derived.Outline
import Derived.Deep.DeepCutAuto
import Derived.Test.YtccikeagbillgaaGreatSpDZ3
import Derived.Deep.CutBlock
import Derived.Deep.Quiet
import Derived.BigQuiet
import Derived.Test.YtccikeagbillgaaGreatSpRbZ3
import Derived.Test.YtccikeagbillgaaGreatSpQZ3
import Derived.Deep.LoopGhost

/- Package clip: the small functions. -/
namespace Go.Proofs.YtccikeagbillgaaGreat
open Go.RowKit
set_option linter.unusedVariables false

set_option maxHeartbeats 1000000 in
theorem k_within (a p lo hi : Int) (w : World) (ha : -1073741824 ≤ a ∧ a ≤ 1073741824) (hp : 1 ≤ p ∧ p ≤ 1048576) (hl : -64 ≤ lo ∧ lo ≤ 64) (hh : -64 ≤ hi ∧ hi ≤ 64) :
    Calls Tryz.prog 139 #[.agg #[.int .i64 a, .int .i64 p], .int .i64 lo, .int .i64 hi] w fun e w' => e = .returned (.bool (decide (lo * p ≤ a) && decide (a ≤ hi * p))) ∧ New w w' := by
  have h1 := mul_bd (a := lo) (b := p) (A := 64) (B := 1048576) hl (by omega)
  have h2 := mul_bd (a := hi) (b := p) (A := 64) (B := 1048576) hh (by omega)
  cases t1 : decide (lo * p ≤ a)
  · go_enter Tryz.func139, Tryz.ntmps139
    go_wp2_with fail
    go_ret
    exact ⟨rfl, by (repeat (first | (with_reducible exact New.refl _) | (with_reducible assumption) | ((with_reducible refine New.setB ?_ ?_ _); focus (first | omega | (simp; omega) | (simp; done))) | (with_reducible refine New.alloc ?_ _) | (with_reducible refine New.drew ?_) | (with_reducible refine New.drewN ?_ _) | (with_reducible refine New.hat ?_ _) | ((with_reducible apply New.snart); (with_reducible assumption))))⟩
  · go_enter Tryz.func139, Tryz.ntmps139
    go_wp2_with fail
    go_ret
    exact ⟨rfl, by (repeat (first | (with_reducible exact New.refl _) | (with_reducible assumption) | ((with_reducible refine New.setB ?_ ?_ _); focus (first | omega | (simp; omega) | (simp; done))) | (with_reducible refine New.alloc ?_ _) | (with_reducible refine New.drew ?_) | (with_reducible refine New.drewN ?_ _) | (with_reducible refine New.hat ?_ _) | ((with_reducible apply New.snart); (with_reducible assumption))))⟩

theorem holdsB_two (x z : Int) (c : Co) : holdsB x z c = ((decide (x * c.d ≤ c.x) && decide (c.x ≤ (x + 1) * c.d)) && (decide (z * c.d ≤ c.z) && decide (c.z ≤ (z + 1) * c.d))) := by
  unfold holdsB
  simp only [Bool.and_assoc]

set_option maxHeartbeats 2000000 in
set_option maxRecDepth 100000 in
theorem k_holds (x z : Int) (c : Co) (w : World) (hc : Okc c) (hx : -1 ≤ x ∧ x ≤ 32) (hz : -1 ≤ z ∧ z ≤ 32) :
    Calls Tryz.prog 123 #[.agg #[.int .i64 x, .int .i64 z], .agg #[.int .i64 c.x, .int .i64 c.z, .int .i64 c.y, .int .i64 c.d]] w fun e w' => e = .returned (.bool (holdsB x z c)) ∧ New w w' := by
  rw [holdsB_two]
  have KP := Lib.hid (fun W => k_parts c.x c.z c.y c.d W)
  have K1 := fun W => k_within c.x c.d x (x + 1) W hc.2.1 hc.1 (by omega) (by omega)
  have K2 := fun W => k_within c.z c.d z (z + 1) W hc.2.2.1 hc.1 (by omega) (by omega)
  generalize (decide (x * c.d ≤ c.x) && decide (c.x ≤ (x + 1) * c.d)) = b1 at *
  generalize (decide (z * c.d ≤ c.z) && decide (c.z ≤ (z + 1) * c.d)) = b2 at *
  replace K1 := Lib.hid K1
  replace K2 := Lib.hid K2
  clear hc
  go_enter Tryz.func123, Tryz.ntmps123
  go_wp2_with fail
  refine (KP.out _).mono ?_
  rintro e W1 ⟨rfl, g1⟩
  have c0 : W1.cell? ⟨w.heap.size, 0, none⟩ = some (.int .i64 x) := g1.1.keep (by go_simp)
  have c1 : W1.cell? ⟨w.heap.size, 1, none⟩ = some (.int .i64 z) := g1.1.keep (by go_simp)
  have n1 : New w W1 := New.trans (by (repeat (first | (with_reducible exact New.refl _) | (with_reducible assumption) | ((with_reducible refine New.setB ?_ ?_ _); focus (first | omega | (simp; omega) | (simp; done))) | (with_reducible refine New.alloc ?_ _) | (with_reducible refine New.drew ?_) | (with_reducible refine New.drewN ?_ _) | (with_reducible refine New.hat ?_ _) | ((with_reducible apply New.snart); (with_reducible assumption))))) g1.1
  have z1 := n1.size
  clear g1
  go_upto_region 2 with fail
  refine Code.at (fun W2 hW => ?_)
  have n2 : New W1 W2 := by subst hW; (repeat (first | (with_reducible exact New.refl _) | (with_reducible assumption) | ((with_reducible refine New.setB ?_ ?_ _); focus (first | omega | (simp; omega) | (simp; done))) | (with_reducible refine New.alloc ?_ _) | (with_reducible refine New.drew ?_) | (with_reducible refine New.drewN ?_ _) | (with_reducible refine New.hat ?_ _) | ((with_reducible apply New.snart); (with_reducible assumption))))
  have e0 : W2.cell? ⟨W1.heap.size, 0, none⟩ = some (.int .i64 c.x) := by subst hW; go_simp
  have e1 : W2.cell? ⟨W1.heap.size, 1, none⟩ = some (.int .i64 c.d) := by subst hW; go_simp
  have e2 : W2.cell? ⟨W1.heap.size + 1, 0, none⟩ = some (.int .i64 c.z) := by subst hW; go_simp
  have e3 : W2.cell? ⟨W1.heap.size + 1, 1, none⟩ = some (.int .i64 c.d) := by subst hW; go_simp
  clear hW
  replace c0 := n2.keep c0
  replace c1 := n2.keep c1
  replace n2 := n1.trans n2
  clear n1
  cases b1
  · clear K2
    go_wp2_with fail
    refine (K1.out _).mono ?_
    rintro e W3 ⟨rfl, n3⟩
    go_wp2_with fail
    go_ret
    exact ⟨rfl, n2.trans n3⟩
  · go_wp2_with fail
    refine (K1.out _).mono ?_
    rintro e W3 ⟨rfl, n3⟩
    replace c1 := n3.keep c1
    replace e2 := n3.keep e2
    replace e3 := n3.keep e3
    clear c0 e0 e1
    replace n2 := n2.trans n3
    clear n3
    go_wp2_with fail
    refine (K2.out _).mono ?_
    rintro e W4 ⟨rfl, n4⟩
    go_wp2_with fail
    go_ret
    exact ⟨rfl, n2.trans n4⟩

/-- The floor and the ceiling of a corner's height. -/
def flC (c : Co) : Int := floorI c.y c.d
def clC (c : Co) : Int := ceilI c.y c.d

set_option maxHeartbeats 400000 in
theorem k_floor (y d : Int) (w : World) : Calls Tryz.prog 79 #[.agg #[.int .i64 y, .int .i64 d]] w fun e w' => e = .returned (.int .i64 (floorI y d)) ∧ New w w' := by
  have K := Lib.hid (fun W => floor_any y d W)
  go_enter Tryz.func79, Tryz.ntmps79
  go_wp2_with fail
  refine (K.out _).mono ?_
  rintro e w' ⟨rfl, rfl⟩
  go_wp2_with fail
  go_ret
  exact ⟨rfl, by (repeat (first | (with_reducible exact New.refl _) | (with_reducible assumption) | ((with_reducible refine New.setB ?_ ?_ _); focus (first | omega | (simp; omega) | (simp; done))) | (with_reducible refine New.alloc ?_ _) | (with_reducible refine New.drew ?_) | (with_reducible refine New.drewN ?_ _) | (with_reducible refine New.hat ?_ _) | ((with_reducible apply New.snart); (with_reducible assumption))))⟩
set_option maxHeartbeats 400000 in
theorem k_ceil (y d : Int) (w : World) : Calls Tryz.prog 80 #[.agg #[.int .i64 y, .int .i64 d]] w fun e w' => e = .returned (.int .i64 (ceilI y d)) ∧ New w w' := by
  have K := Lib.hid (fun W => ceil_any y d W)
  go_enter Tryz.func80, Tryz.ntmps80
  go_wp2_with fail
  refine (K.out _).mono ?_
  rintro e w' ⟨rfl, rfl⟩
  go_wp2_with fail
  go_ret
  exact ⟨rfl, by (repeat (first | (with_reducible exact New.refl _) | (with_reducible assumption) | ((with_reducible refine New.setB ?_ ?_ _); focus (first | omega | (simp; omega) | (simp; done))) | (with_reducible refine New.alloc ?_ _) | (with_reducible refine New.drew ?_) | (with_reducible refine New.drewN ?_ _) | (with_reducible refine New.hat ?_ _) | ((with_reducible apply New.snart); (with_reducible assumption))))⟩

def colB (n : Int) : Bool := decide (-1 ≤ n ∧ n ≤ 32)
set_option maxHeartbeats 400000 in
theorem k_col (n : Int) (w : World) : Calls Tryz.prog 90 #[.int .i64 n] w fun e w' => e = .returned (.bool (colB n)) ∧ w = w' := by
  have hb : colB n = (decide (-1 ≤ n) && decide (n ≤ 32)) := by unfold colB; rw [Bool.decide_and]
  rw [hb]
  clear hb
  cases t : decide (-1 ≤ n)
  · go_enter Tryz.func90, Tryz.ntmps90
    go_wp2_with fail
    go_ret
    exact ⟨rfl, rfl⟩
  · go_enter Tryz.func90, Tryz.ntmps90
    go_wp2_with fail
    go_ret
    exact ⟨rfl, rfl⟩

def chkE (T : TriR) : Int := if okT T then 0 else 40
set_option maxHeartbeats 1000000 in
set_option maxRecDepth 100000 in
theorem k_check (T : TriR) (w : World) : Calls Tryz.prog 76 #[.agg #[.int .i64 T.i, .int .i64 T.x0, .int .i64 T.y0, .int .i64 T.z0, .int .i64 T.x1, .int .i64 T.y1, .int .i64 T.z1, .int .i64 T.x2, .int .i64 T.y2, .int .i64 T.z2]] w fun e w' => e = .returned (.int .i64 (chkE T)) ∧ New w w' := by
  have K := fun W => t_normal T.i T.x0 T.y0 T.z0 T.x1 T.y1 T.z1 T.x2 T.y2 T.z2 W
  have e : normE T.x0 T.y0 T.z0 T.x1 T.y1 T.z1 T.x2 T.y2 T.z2 = chkE T := rfl
  rw [e] at K
  clear e
  generalize chkE T = v at *
  replace K := Lib.hid K
  go_enter Tryz.func76, Tryz.ntmps76
  go_wp2_with fail
  refine (K.out _).mono ?_
  rintro e w' ⟨rfl, n1⟩
  go_wp2_with fail
  go_ret
  exact ⟨rfl, New.trans (by (repeat (first | (with_reducible exact New.refl _) | (with_reducible assumption) | ((with_reducible refine New.setB ?_ ?_ _); focus (first | omega | (simp; omega) | (simp; done))) | (with_reducible refine New.alloc ?_ _) | (with_reducible refine New.drew ?_) | (with_reducible refine New.drewN ?_ _) | (with_reducible refine New.hat ?_ _) | ((with_reducible apply New.snart); (with_reducible assumption))))) n1⟩

set_option maxHeartbeats 400000 in
theorem k_beyond (l : Ln) (vx vy vz : Int) (w : World) (h1 : 0 ≤ l.bx ∧ l.bx ≤ 1) (h2 : 0 ≤ l.bz ∧ l.bz ≤ 1) (h3 : -64 ≤ l.at' ∧ l.at' ≤ 64) (hx : 0 ≤ vx ∧ vx ≤ 32) (hz : 0 ≤ vz ∧ vz ≤ 32) :
    Calls Tryz.prog 126 #[.agg #[.int .i64 l.bx, .int .i64 l.bz, .int .i64 l.at'], .agg #[.int .i64 vx, .int .i64 vy, .int .i64 vz]] w fun e w' => e = .returned (.int .i64 (l.off vx vz)) ∧ New w w' := by
  have m1 := mul_bd (a := l.bx) (b := vx) (A := 1) (B := 32) (by omega) (by omega)
  have m2 := mul_bd (a := l.bz) (b := vz) (A := 1) (B := 32) (by omega) (by omega)
  unfold Ln.off
  go_enter Tryz.func126, Tryz.ntmps126
  go_wp2_with fail
  go_ret
  exact ⟨rfl, by (repeat (first | (with_reducible exact New.refl _) | (with_reducible assumption) | ((with_reducible refine New.setB ?_ ?_ _); focus (first | omega | (simp; omega) | (simp; done))) | (with_reducible refine New.alloc ?_ _) | (with_reducible refine New.drew ?_) | (with_reducible refine New.drewN ?_ _) | (with_reducible refine New.hat ?_ _) | ((with_reducible apply New.snart); (with_reducible assumption))))⟩

set_option maxHeartbeats 400000 in
theorem k_btw (p q m n : Int) (b b' : Nat) (w : World) (hp : w.cell? ⟨b, 0, none⟩ = some (.int .i64 p)) (hq : w.cell? ⟨b', 0, none⟩ = some (.int .i64 q)) (bp : -1024 ≤ p ∧ p ≤ 1024) (bq : -1024 ≤ q ∧ q ≤ 1024) (bm : -4096 ≤ m ∧ m ≤ 4096) (bn : -4096 ≤ n ∧ n ≤ 4096) :
    Calls Tryz.prog 128 #[.int .i64 m, .int .i64 n, .pointer (some ⟨b, 0, none⟩), .pointer (some ⟨b', 0, none⟩)] w fun e w' => e = .returned (.int .i64 (p * n - q * m)) ∧ New w w' := by
  have m1 := mul_bd (a := p) (b := n) (A := 1024) (B := 4096) bp bn
  have m2 := mul_bd (a := q) (b := m) (A := 1024) (B := 4096) bq bm
  go_enter Tryz.func128, Tryz.ntmps128
  go_wp2_with fail
  go_ret
  exact ⟨rfl, by (repeat (first | (with_reducible exact New.refl _) | (with_reducible assumption) | ((with_reducible refine New.setB ?_ ?_ _); focus (first | omega | (simp; omega) | (simp; done))) | (with_reducible refine New.alloc ?_ _) | (with_reducible refine New.drew ?_) | (with_reducible refine New.drewN ?_ _) | (with_reducible refine New.hat ?_ _) | ((with_reducible apply New.snart); (with_reducible assumption))))⟩

def La.enc (p : Int × Int) : List Value := #[.int .i64 p.1, .int .i64 p.2].toList
theorem La.enc_len (p : Int × Int) : (La.enc p).length = 2 := rfl
def Ln.enc (l : Ln) : List Value := #[.int .i64 l.bx, .int .i64 l.bz, .int .i64 l.at'].toList
theorem Ln.enc_len (l : Ln) : l.enc.length = 3 := rfl

theorem rowAt_four {α : Type} {enc : α → List Value} {k : Nat} {w : World} {b : Nat} (x0 x1 x2 x3 : α) (h0 : CellsAt w b 0 (enc x0)) (h1 : CellsAt w b k (enc x1)) (h2 : CellsAt w b (2 * k) (enc x2)) (h3 : CellsAt w b (3 * k) (enc x3)) : RowAt enc k w b 0 [x0, x1, x2, x3] := fun j hj => by
  match j, hj with
  | 0, _ => simpa using h0
  | 1, _ => simpa using h1
  | 2, _ => simpa using h2
  | 3, _ => simpa using h3
  | j + 4, hj => exact absurd hj (by simp)

theorem heap_two (w : World) (o o' : Obj) : ((w.alloc o).alloc o').heap[w.heap.size + 1]? = some o' := by
  have h := heap_new (w.alloc o) o'
  rwa [show (w.alloc o).heap.size = w.heap.size + 1 by simp] at h

set_option maxHeartbeats 1000000 in
theorem k_corners (x z : Int) (w : World) (hx : -1 ≤ x ∧ x ≤ 32) (hz : -1 ≤ z ∧ z ≤ 32) :
    Calls Tryz.prog 110 #[.agg #[.int .i64 x, .int .i64 z]] w fun e w' => ∃ g, e = .returned (.slice (some ⟨g, 0, none⟩) 4 4) ∧ RowAt La.enc 2 w' g 0 (cornL x z) ∧ (∃ cs fr, w'.heap[g]? = some (.cells cs 124 fr)) ∧ New w w' := by
  go_enter Tryz.func110, Tryz.ntmps110
  go_wp2_with fail
  refine bodyPost_ret (v := .slice (some ⟨w.heap.size + 1, 0, none⟩) 4 4) (by simp [results, Tryz.results110, go_sem]) rfl ?_
  refine ⟨_, rfl, rowAt_four _ _ _ _ ?_ ?_ ?_ ?_, ⟨_, _, heap_two _ _ _⟩, by (repeat (first | (with_reducible exact New.refl _) | (with_reducible assumption) | ((with_reducible refine New.setB ?_ ?_ _); focus (first | omega | (simp; omega) | (simp; done))) | (with_reducible refine New.alloc ?_ _) | (with_reducible refine New.drew ?_) | (with_reducible refine New.drewN ?_ _) | (with_reducible refine New.hat ?_ _) | ((with_reducible apply New.snart); (with_reducible assumption))))⟩
  · intro i hi
    match i, hi with
    | 0, _ => go_simp; rfl
    | 1, _ => go_simp; rfl
    | i + 2, hi => exact absurd hi (by rw [La.enc_len]; omega)
  · intro i hi
    match i, hi with
    | 0, _ => go_simp; rfl
    | 1, _ => go_simp; rfl
    | i + 2, hi => exact absurd hi (by rw [La.enc_len]; omega)
  · intro i hi
    match i, hi with
    | 0, _ => go_simp; rfl
    | 1, _ => go_simp; rfl
    | i + 2, hi => exact absurd hi (by rw [La.enc_len]; omega)
  · intro i hi
    match i, hi with
    | 0, _ => go_simp; rfl
    | 1, _ => go_simp; rfl
    | i + 2, hi => exact absurd hi (by rw [La.enc_len]; omega)

set_option maxHeartbeats 1000000 in
theorem k_lines (x z : Int) (w : World) (hx : -1 ≤ x ∧ x ≤ 32) (hz : -1 ≤ z ∧ z ≤ 32) :
    Calls Tryz.prog 114 #[.agg #[.int .i64 x, .int .i64 z]] w fun e w' => ∃ g, e = .returned (.slice (some ⟨g, 0, none⟩) 4 4) ∧ RowAt Ln.enc 3 w' g 0 (lineL x z) ∧ (∃ cs fr, w'.heap[g]? = some (.cells cs 152 fr)) ∧ New w w' := by
  go_enter Tryz.func114, Tryz.ntmps114
  go_wp2_with fail
  refine bodyPost_ret (v := .slice (some ⟨w.heap.size + 1, 0, none⟩) 4 4) (by simp [results, Tryz.results114, go_sem]) rfl ?_
  refine ⟨_, rfl, rowAt_four _ _ _ _ ?_ ?_ ?_ ?_, ⟨_, _, heap_two _ _ _⟩, by (repeat (first | (with_reducible exact New.refl _) | (with_reducible assumption) | ((with_reducible refine New.setB ?_ ?_ _); focus (first | omega | (simp; omega) | (simp; done))) | (with_reducible refine New.alloc ?_ _) | (with_reducible refine New.drew ?_) | (with_reducible refine New.drewN ?_ _) | (with_reducible refine New.hat ?_ _) | ((with_reducible apply New.snart); (with_reducible assumption))))⟩
  · intro i hi
    match i, hi with
    | 0, _ => go_simp; rfl
    | 1, _ => go_simp; rfl
    | 2, _ => go_simp; rfl
    | i + 3, hi => exact absurd hi (by rw [Ln.enc_len]; omega)
  · intro i hi
    match i, hi with
    | 0, _ => go_simp; rfl
    | 1, _ => go_simp; rfl
    | 2, _ => go_simp; rfl
    | i + 3, hi => exact absurd hi (by rw [Ln.enc_len]; omega)
  · intro i hi
    match i, hi with
    | 0, _ => go_simp; rfl
    | 1, _ => go_simp; rfl
    | 2, _ => go_simp; rfl
    | i + 3, hi => exact absurd hi (by rw [Ln.enc_len]; omega)
  · intro i hi
    match i, hi with
    | 0, _ => go_simp; rfl
    | 1, _ => go_simp; rfl
    | 2, _ => go_simp; rfl
    | i + 3, hi => exact absurd hi (by rw [Ln.enc_len]; omega)

end Go.Proofs.YtccikeagbillgaaGreat

/- Package raster: within, may, last, place; the document's own box. -/
namespace Go.Proofs.YtccikeagbillgaaGreat
open Go.RowKit
set_option linter.unusedVariables false

set_option maxHeartbeats 400000 in
theorem a_within (n lo hi : Int) (w : World) :
    Calls Tryz.prog 43 #[.int .i64 n, .int .i64 lo, .int .i64 hi] w fun e w' => e = .returned (.bool (decide (lo ≤ n ∧ n ≤ hi))) ∧ w = w' := by
  go_enter Tryz.func43, Tryz.ntmps43
  go_wp2
  all_goals
    go_ret
    refine ⟨retB ?_, rfl⟩
    simp [*] <;> omega

theorem box4 (x z w d : Int) : boxB x z w d = (decide (-64 ≤ x ∧ x ≤ 64) && decide (-64 ≤ z ∧ z ≤ 64) && decide (0 ≤ w ∧ w ≤ 64) && decide (0 ≤ d ∧ d ≤ 64)) := by
  rw [Bool.eq_iff_iff, boxB_iff]
  simp only [Bool.and_eq_true, decide_eq_true_eq, and_assoc]

set_option maxHeartbeats 1000000 in
theorem a_may (x z w d : Int) (W : World) :
    Calls Tryz.prog 26 #[.agg #[.int .i64 x, .int .i64 z, .int .i64 w, .int .i64 d]] W fun e W' => e = .returned (.bool (boxB x z w d)) ∧ New W W' := by
  rw [box4]
  have k1 := fun V => a_within x (-64) 64 V
  have k2 := fun V => a_within z (-64) 64 V
  have k3 := fun V => a_within w 0 64 V
  have k4 := fun V => a_within d 0 64 V
  generalize decide (-64 ≤ x ∧ x ≤ 64) = b1 at *
  generalize decide (-64 ≤ z ∧ z ≤ 64) = b2 at *
  generalize decide (0 ≤ w ∧ w ≤ 64) = b3 at *
  generalize decide (0 ≤ d ∧ d ≤ 64) = b4 at *
  go_enter Tryz.func26, Tryz.ntmps26
  go_wp2_with fail
  refine (k1 _).mono ?_
  rintro e V ⟨rfl, rfl⟩
  cases b1
  · go_wp2_with fail
    go_ret
    exact ⟨rfl, by (repeat (first | (with_reducible exact New.refl _) | (with_reducible assumption) | ((with_reducible refine New.setB ?_ ?_ _); focus (first | omega | (simp; omega) | (simp; done))) | (with_reducible refine New.alloc ?_ _) | (with_reducible refine New.drew ?_) | (with_reducible refine New.drewN ?_ _) | (with_reducible refine New.hat ?_ _) | ((with_reducible apply New.snart); (with_reducible assumption))))⟩
  go_wp2_with fail
  refine (k2 _).mono ?_
  rintro e V ⟨rfl, rfl⟩
  cases b2
  · go_wp2_with fail
    go_ret
    exact ⟨rfl, by (repeat (first | (with_reducible exact New.refl _) | (with_reducible assumption) | ((with_reducible refine New.setB ?_ ?_ _); focus (first | omega | (simp; omega) | (simp; done))) | (with_reducible refine New.alloc ?_ _) | (with_reducible refine New.drew ?_) | (with_reducible refine New.drewN ?_ _) | (with_reducible refine New.hat ?_ _) | ((with_reducible apply New.snart); (with_reducible assumption))))⟩
  go_wp2_with fail
  refine (k3 _).mono ?_
  rintro e V ⟨rfl, rfl⟩
  cases b3
  · go_wp2_with fail
    go_ret
    exact ⟨rfl, by (repeat (first | (with_reducible exact New.refl _) | (with_reducible assumption) | ((with_reducible refine New.setB ?_ ?_ _); focus (first | omega | (simp; omega) | (simp; done))) | (with_reducible refine New.alloc ?_ _) | (with_reducible refine New.drew ?_) | (with_reducible refine New.drewN ?_ _) | (with_reducible refine New.hat ?_ _) | ((with_reducible apply New.snart); (with_reducible assumption))))⟩
  go_wp2_with fail
  refine (k4 _).mono ?_
  rintro e V ⟨rfl, rfl⟩
  go_wp2_with fail
  go_ret
  exact ⟨rfl, by (repeat (first | (with_reducible exact New.refl _) | (with_reducible assumption) | ((with_reducible refine New.setB ?_ ?_ _); focus (first | omega | (simp; omega) | (simp; done))) | (with_reducible refine New.alloc ?_ _) | (with_reducible refine New.drew ?_) | (with_reducible refine New.drewN ?_ _) | (with_reducible refine New.hat ?_ _) | ((with_reducible apply New.snart); (with_reducible assumption))))⟩

set_option maxHeartbeats 400000 in
theorem a_last (b : Bx) (hb : b.ok) (W : World) :
    Calls Tryz.prog 58 #[.agg #[.int .i64 b.x, .int .i64 b.z, .int .i64 b.w, .int .i64 b.d]] W fun e W' => e = .returned (.tuple #[.int .i64 (b.x + (b.w - 1)), .int .i64 (b.z + (b.d - 1))]) ∧ New W W' := by
  obtain ⟨h1, h2, h3, h4, h5, h6, h7, h8⟩ := hb
  unfold i64B at h7 h8
  have w1 : IntKind.i64.wrap (b.w - 1) = b.w - 1 := IntWalk.i64_in _ (by omega)
  have w2 : IntKind.i64.wrap (b.d - 1) = b.d - 1 := IntWalk.i64_in _ (by omega)
  have w3 : IntKind.i64.wrap (b.x + (b.w - 1)) = b.x + (b.w - 1) := IntWalk.i64_in _ (by omega)
  have w4 : IntKind.i64.wrap (b.z + (b.d - 1)) = b.z + (b.d - 1) := IntWalk.i64_in _ (by omega)
  obtain ⟨x, z, w, d⟩ := b
  dsimp only at *
  go_enter Tryz.func58, Tryz.ntmps58
  go_wp2_with fail
  go_quiet (fail)
  go_wp2_with fail
  go_ret2
  exact ⟨rfl, by (repeat (first | (with_reducible exact New.refl _) | (with_reducible assumption) | ((with_reducible refine New.setB ?_ ?_ _); focus (first | omega | (simp; omega) | (simp; done))) | (with_reducible refine New.alloc ?_ _) | (with_reducible refine New.drew ?_) | (with_reducible refine New.drewN ?_ _) | (with_reducible refine New.hat ?_ _) | ((with_reducible apply New.snart); (with_reducible assumption))))⟩

set_option maxHeartbeats 400000 in
theorem a_place (b : Bx) (hb : b.ok) (x z : Int) (hi : b.inside x z) (W : World) :
    Calls Tryz.prog 60 #[.agg #[.int .i64 b.x, .int .i64 b.z, .int .i64 b.w, .int .i64 b.d], .int .i64 x, .int .i64 z] W fun e W' => e = .returned (.int .i64 (b.pl x z)) ∧ New W W' := by
  obtain ⟨k1, k2, k3⟩ := Bx.pl_lt hi
  have hn := Bx.n_le hb
  obtain ⟨h1, h2, h3, h4, h5, h6, h7, h8⟩ := hb
  obtain ⟨⟨i1, i2⟩, i3, i4⟩ := hi
  unfold i64B at h5 h6 h7 h8
  have q0 : 0 ≤ (z - b.z) * b.w := Int.mul_nonneg (by omega) (by omega)
  have q1 : (z - b.z) * b.w ≤ 64 * 64 := Int.mul_le_mul (by omega) h2 (by omega) (by omega)
  have e : b.pl x z = (z - b.z) * b.w + x - b.x := rfl
  rw [e]
  clear e k1 k2 k3 hn
  obtain ⟨bx, bz, bw, bd⟩ := b
  dsimp only at *
  generalize hq : (z - bz) * bw = q at *
  have w1 : IntKind.i64.wrap (z - bz) = z - bz := IntWalk.i64_in _ (by omega)
  have w2 : IntKind.i64.wrap q = q := IntWalk.i64_in _ (by omega)
  have w4 : wrap64 (wrap64 (q + x) - bx) = q + x - bx := by
    unfold wrap64
    omega
  go_enter Tryz.func60, Tryz.ntmps60
  go_wp2_with fail
  go_ret
  exact ⟨by show Ending.returned (.int .i64 (wrap64 (wrap64 (q + x) - bx))) = _; rw [w4], by (repeat (first | (with_reducible exact New.refl _) | (with_reducible assumption) | ((with_reducible refine New.setB ?_ ?_ _); focus (first | omega | (simp; omega) | (simp; done))) | (with_reducible refine New.alloc ?_ _) | (with_reducible refine New.drew ?_) | (with_reducible refine New.drewN ?_ _) | (with_reducible refine New.hat ?_ _) | ((with_reducible apply New.snart); (with_reducible assumption))))⟩

set_option maxHeartbeats 1000000 in
theorem r_box (x z w d : Int) (W : World) :
    Calls Tryz.prog 27 #[.int .i64 x, .int .i64 z, .int .i64 w, .int .i64 d] W fun e W' => e = .returned (.bool (boxB x z w d)) ∧ New W W' := by
  go_enter Tryz.func27, Tryz.ntmps27
  go_wp2
  all_goals
    go_ret
    refine ⟨retB ?_, New.refl _⟩
    unfold boxB
    simp [*] <;> omega

end Go.Proofs.YtccikeagbillgaaGreat

/- The document's own Merge, Put, Solid, Same. -/
namespace Go.Proofs.YtccikeagbillgaaGreat
open Go.RowKit
set_option linter.unusedVariables false

set_option maxHeartbeats 4000000 in
set_option maxRecDepth 100000 in
theorem r_merge (at0 : Option Addr) (l : List Sn) (c : Nat) (hl : l.length ≤ 1000) (w : World) (h : Sl Sn.enc 3 w (.slice at0 l.length c) l) :
    Calls Tryz.prog 25 #[.slice at0 l.length c] w (Merged l w) := by
  have KM := Lib.hid (fun p W => r_may p W)
  have KP := Lib.hid (fun v K p W hs hK => rs_put v K p W hs hK)
  have HR := Lib.hid h.row'.2.2.2.2
  obtain ⟨n, hn⟩ : ∃ n, n = l.length := ⟨_, rfl⟩
  rw [← hn] at hl ⊢
  have HN := Lib.hid hn
  clear h hn
  go_enter Tryz.func25, Tryz.ntmps25
  go_wp2_with fail
  go_loopg [4, 5] n (fun gk s4 s5 wr => ∃ (i : Nat) (K : List Sn) (u : Value), u = s4 ∧ s5 = .int .i64 i ∧ i ≤ n ∧ n - i ≤ gk ∧ K.length ≤ i ∧ Hid (IsM (l.take i) K) ∧ Hid (∀ j (h : j < l.length), j < i → badS l[j] = false) ∧ Hid (Sl Sn.enc 3 wr u K) ∧ Hid (New w wr))
  case atStart => exact ⟨0, [], _, rfl, rfl, by omega, by omega, by simp, Lib.hid (by simpa using IsM.nil), Lib.hid (fun j _ h => by omega), Lib.hid Sl.nil, Lib.hid (New.refl _)⟩
  case round =>
    obtain ⟨i, K, u, rfl, rfl, hi, hgk, hKl, HI, HB, HS, HW⟩ := hrel
    by_cases hlt : i < n
    · have hil : i < l.length := by rw [← HN.out]; exact hlt
      obtain ⟨g, off, rfl, hA⟩ := HR.out (by omega)
      obtain ⟨r0, r1, r2⟩ := Sn.cells (hA.keep HW.out) i hil
      have HA := Lib.hid hA
      obtain ⟨E, hE⟩ : ∃ E, E = l[i] := ⟨_, rfl⟩
      rw [← hE] at r0 r1 r2
      have HEE := Lib.hid hE
      clear hE hA
      cases hb : badS E
      · have KC : Hid (∀ W, Calls Tryz.prog 41 #[.agg #[.int .i64 E.lo, .int .i64 E.hi, .bool E.wk]] W fun e w' => e = .returned (.bool true) ∧ New W w') := Lib.hid (fun W => by have := KM.out E W; rw [hb] at this; exact this)
        have HBE := Lib.hid hb
        clear hb
        go_wp2_with fail
        refine (KC.out _).mono ?_
        rintro e w1 ⟨rfl, n1⟩
        (replace r0 := n1.keep r0; replace r1 := n1.keep r1; replace r2 := n1.keep r2)
        have HW1 := Lib.hid (HW.out.trans n1)
        have HS1 := Lib.hid (HS.out.keep n1)
        clear n1
        go_wp2_with fail
        refine (KP.out _ K E _ HS1.out (by omega)).mono ?_
        rintro e w2 ⟨v', rfl, hs2, n2⟩
        have HS2 := Lib.hid hs2
        have HW2 := Lib.hid (HW1.out.trans n2)
        clear hs2 n2 r0 r1 r2
        go_wp2_with fail
        go_roundg (n - (i + 1))
        case measure => omega
        case rel =>
          have hall : ∀ j (h : j < l.length), j < i + 1 → badS l[j] = false := fun j h hj => by
            by_cases e : j < i
            · exact HB.out j h e
            · have e2 : j = i := by omega
              subst e2
              rw [← HEE.out]; exact HBE.out
          refine ⟨i + 1, putS E K false, _, rfl, by go_num, by omega, by omega, by have := putS_len E K false; omega, Lib.hid ?_, Lib.hid hall, HS2, HW2⟩
          rw [List.take_succ_eq_append_getElem hil, ← HEE.out]
          refine IsM.put (fun p hp => ?_) HI.out ((badS_not E).1 HBE.out).2.1
          obtain ⟨j, hj, rfl⟩ := List.getElem_of_mem hp
          have hj' : j < i := by simp at hj; omega
          rw [List.getElem_take]
          exact ((badS_not _).1 (HB.out j (by omega) hj')).2.1
      · have KC : Hid (∀ W, Calls Tryz.prog 41 #[.agg #[.int .i64 E.lo, .int .i64 E.hi, .bool E.wk]] W fun e w' => e = .returned (.bool false) ∧ New W w') := Lib.hid (fun W => by have := KM.out E W; rw [hb] at this; exact this)
        have HBE : Hid (fstB badS l = true) := Lib.hid (List.any_eq_true.2 ⟨l[i], List.getElem_mem hil, by rw [← HEE.out]; exact hb⟩)
        clear hb
        go_wp2_with fail
        refine (KC.out _).mono ?_
        rintro e w1 ⟨rfl, n1⟩
        have HW1 := Lib.hid (HW.out.trans n1)
        clear n1 r0 r1 r2
        go_wp2_with fail
        refine bodyPost_ret (v := .tuple #[.slice none 0 0, .int .i64 2]) (by simp [results, Tryz.results25, go_sem, *]) rfl ?_
        exact ⟨HW1.out, .inl ⟨HBE.out, rfl⟩⟩
    · have e : i = n := by omega
      subst e
      have HIN : Hid (IsM l K) := Lib.hid (by have := HI.out; rw [HN.out, List.take_length] at this; exact this)
      have HBE : Hid (fstB badS l = false) := Lib.hid (by
        unfold fstB
        rw [List.any_eq_false]
        intro p hp
        obtain ⟨j, hj, rfl⟩ := List.getElem_of_mem hp
        rw [HB.out j hj (by have := HN.out; omega)]; simp)
      obtain ⟨a, c', hu, -⟩ := HS.out
      subst hu
      go_wp2_with fail
      refine bodyPost_ret (v := .tuple #[.slice a K.length c', .int .i64 0]) (by simp [results, Tryz.results25, go_sem, *]) rfl ?_
      exact ⟨HW.out, .inr ⟨HBE.out, K, a, c', HIN.out, by have := HN.out; omega, rfl, HS.out⟩⟩

end Go.Proofs.YtccikeagbillgaaGreat
