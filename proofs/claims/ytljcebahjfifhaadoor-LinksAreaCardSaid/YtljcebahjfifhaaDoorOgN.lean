/- Package open: floors and where they are; stands. -/
import Derived.Test.YtljcebahjfifhaaDoorOgK
import Derived.Test.YtljcebahjfifhaaDoorSlApp
namespace Go.Proofs.YtljcebahjfifhaaDoor
open Go.RowKit
set_option linter.unusedVariables false

/-- A floor, and where it is. -/
structure St where
  (x z y : Int)
  f : Fl
instance : Inhabited St := ⟨⟨0, 0, 0, Fl.zero⟩⟩
def St.enc (s : St) : List Value := #[.int .i64 s.x, .int .i64 s.z, .int .i64 s.y, .int .i64 s.f.y, .int .i64 s.f.top, .int .i64 s.f.area].toList
theorem St.enc_len (s : St) : s.enc.length = 6 := rfl
theorem St.enc_one (x : St) : ∀ u ∈ x.enc, u.oneCell' = true := by
  intro u hu
  simp [St.enc] at hu
  rcases hu with rfl | rfl | rfl | rfl | rfl | rfl <;> rfl
theorem St.cells {w : World} {b off : Nat} {l : List St} (H : RowAt St.enc 6 w b off l) (j : Nat) (h : j < l.length) :
    w.cell? ⟨b, off + j * 6, none⟩ = some (.int .i64 l[j].x) ∧ w.cell? ⟨b, off + j * 6 + 1, none⟩ = some (.int .i64 l[j].z) ∧ w.cell? ⟨b, off + j * 6 + 2, none⟩ = some (.int .i64 l[j].y) ∧ w.cell? ⟨b, off + j * 6 + 3, none⟩ = some (.int .i64 l[j].f.y) ∧ w.cell? ⟨b, off + j * 6 + 4, none⟩ = some (.int .i64 l[j].f.top) ∧ w.cell? ⟨b, off + j * 6 + 5, none⟩ = some (.int .i64 l[j].f.area) :=
  ⟨H j h 0 (by rw [St.enc_len]; omega), H j h 1 (by rw [St.enc_len]; omega), H j h 2 (by rw [St.enc_len]; omega), H j h 3 (by rw [St.enc_len]; omega), H j h 4 (by rw [St.enc_len]; omega), H j h 5 (by rw [St.enc_len]; omega)⟩
/-- One in a block of its own. -/
theorem st_new (w : World) (s : St) (t : TypeId) : Sl St.enc 6 (w.alloc (.cells #[.int .i64 s.x, .int .i64 s.z, .int .i64 s.y, .int .i64 s.f.y, .int .i64 s.f.top, .int .i64 s.f.area] t)) (.slice (some ⟨w.heap.size, 0, none⟩) 1 1) [s] :=
  ⟨_, _, rfl, Nat.le_refl _, by unfold maxLen; omega, fun h => (by cases h), fun _ => ⟨w.heap.size, 0, rfl, fun j hj i hi => by
    have hj' : j = 0 := by simpa using hj
    subst hj'
    have hi' : i < 6 := hi
    have hz := heap_new w (.cells #[.int .i64 s.x, .int .i64 s.z, .int .i64 s.y, .int .i64 s.f.y, .int .i64 s.f.top, .int .i64 s.f.area] t)
    rcases (show i = 0 ∨ i = 1 ∨ i = 2 ∨ i = 3 ∨ i = 4 ∨ i = 5 by omega) with rfl | rfl | rfl | rfl | rfl | rfl <;> exact cell_of_heap hz rfl⟩⟩

/-! Plain: all floors, column by column. -/
def stOf (G : Gd) (i : Nat) (f : Fl) : St := ⟨G.x + ((i % G.w.toNat : Nat) : Int), G.z + ((i / G.w.toNat : Nat) : Int), f.y, f⟩
def gcol (G : Gd) (i : Nat) : List Fl := (G.L[i]?).getD []
theorem gcol_at {G : Gd} {i : Nat} (h : i < G.L.length) : gcol G i = G.L[i] := by unfold gcol; rw [List.getElem?_eq_getElem h]; rfl
/-- The floors of the first n columns. -/
def stTo (G : Gd) (n : Nat) : List St := (List.range n).flatMap fun i => (gcol G i).map (stOf G i)
theorem stTo_succ (G : Gd) (n : Nat) : stTo G (n + 1) = stTo G n ++ (gcol G n).map (stOf G n) := by
  unfold stTo
  rw [List.range_succ, List.flatMap_append]
  simp
/-- .. and of the next one the first k. -/
def stAt (G : Gd) (n k : Nat) : List St := stTo G n ++ ((gcol G n).take k).map (stOf G n)
theorem stAt_zero (G : Gd) (n : Nat) : stAt G n 0 = stTo G n := by unfold stAt; simp
theorem stAt_succ {G : Gd} {n k : Nat} (h : k < (gcol G n).length) : stAt G n (k + 1) = stAt G n k ++ [stOf G n (gcol G n)[k]] := by
  unfold stAt
  rw [List.take_succ_eq_append_getElem h, List.map_append, List.append_assoc]
  rfl
theorem stAt_all {G : Gd} {n k : Nat} (h : (gcol G n).length ≤ k) : stAt G n k = stTo G (n + 1) := by
  unfold stAt
  rw [List.take_of_length_le h, stTo_succ]
def allG (G : Gd) : List St := stTo G G.L.length
theorem gcol_len {G : Gd} (hE : gE G = 0) (i : Nat) : (gcol G i).length ≤ 8 := by
  by_cases h : i < G.L.length
  · rw [gcol_at h]; exact riseB_len ((gd_is hE).2.2 i h)
  · unfold gcol; rw [List.getElem?_eq_none (by omega)]; simp
theorem stTo_len {G : Gd} (hE : gE G = 0) : ∀ n, (stTo G n).length ≤ 8 * n
  | 0 => by unfold stTo; simp
  | n + 1 => by
    rw [stTo_succ, List.length_append, List.length_map]
    have h1 := stTo_len hE n
    have h2 := gcol_len hE n
    omega
theorem stAt_len {G : Gd} (hE : gE G = 0) (n k : Nat) : (stAt G n k).length ≤ 8 * n + 8 := by
  unfold stAt
  rw [List.length_append, List.length_map, List.length_take]
  have h1 := stTo_len hE n
  have h2 := gcol_len hE n
  omega

/-- Where the loops stand. -/
theorem gd_step {G : Gd} (hE : gE G = 0) {a b : Nat} (ha : (a : Int) < G.d) (hb : (b : Int) < G.w) : inG G (G.x + b) (G.z + a) = true ∧ ixG G (G.x + b) (G.z + a) = a * G.w.toNat + b ∧ a * G.w.toNat + b < G.L.length ∧ (a * G.w.toNat + b) % G.w.toNat = b ∧ (a * G.w.toNat + b) / G.w.toNat = a := by
  have hb' := placeB_iff.1 (gd_is hE).1
  have hin : inG G (G.x + b) (G.z + a) = true := inG_iff.2 (by omega)
  obtain ⟨h1, h2, h3, h4⟩ := ixG_is hE hin
  have e1 : G.z + (a : Int) - G.z = a := by omega
  have e2 : G.x + (b : Int) - G.x = b := by omega
  rw [e1, e2] at h3
  obtain ⟨n, hn⟩ : ∃ n : Nat, G.w = n := ⟨G.w.toNat, by omega⟩
  have hx : ixG G (G.x + b) (G.z + a) = a * G.w.toNat + b := by
    rw [hn] at h3 ⊢
    have : ((ixG G (G.x + b) (G.z + a) : Nat) : Int) = ((a * n + b : Nat) : Int) := by rw [h3]; push_cast; rfl
    simpa using Int.ofNat.inj this
  refine ⟨hin, hx, by rw [← hx]; exact h4, ?_, ?_⟩
  · rw [Nat.mul_comm, Nat.mul_add_mod, Nat.mod_eq_of_lt (by omega)]
  · rw [Nat.mul_comm, Nat.mul_add_div (by omega), Nat.div_eq_of_lt (by omega), Nat.add_zero]

end Go.Proofs.YtljcebahjfifhaaDoor
