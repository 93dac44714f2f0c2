import Derived.Test.YtgoggogcbjfofaaDoorFdBY14

/- Layer 14: the links of a grid by places. No function of the program in sight. -/
namespace Go.Proofs.YtgoggogcbjfofaaDoor
open Go.RowKit
set_option linter.unusedVariables false

theorem rndP_is {C : CfgR} {G : Gd} (s : Sd) (d e : Int) : rndP (toS C G) s d e = rndS C G s d e := by
  unfold rndP rndS
  cases toS C G s d <;> rfl
theorem diaP_is {C : CfgR} {G : Gd} (s : Sd) {d e : Int} (h : okD d = true → okD e = true → axB d e = false) : diaP (toS C G) s d e = diaS C G s d e := by
  rw [diaS_rnd h]
  unfold diaP bothP
  rw [rndP_is, rndP_is]
  cases rndS C G s d e <;> cases rndS C G s e d <;> rfl
theorem ax_next {d : Int} (h : okD d = true) : okD (nextD d) = true ∧ axB d (nextD d) = false ∧ backD (nextD d) = nextD (backD d) := by
  rcases okD_cases h with rfl | rfl | rfl | rfl <;> exact ⟨by decide, by decide, by decide⟩
theorem okD_nat {d : Nat} (h : d < 4) : okD d = true := by
  rcases (show d = 0 ∨ d = 1 ∨ d = 2 ∨ d = 3 by omega) with rfl | rfl | rfl | rfl <;> decide
theorem okD_is {d : Int} (h : okD d = true) : ∃ n : Nat, d = n ∧ n < 4 := by
  rcases okD_cases h with rfl | rfl | rfl | rfl
  · exact ⟨0, rfl, by omega⟩
  · exact ⟨1, rfl, by omega⟩
  · exact ⟨2, rfl, by omega⟩
  · exact ⟨3, rfl, by omega⟩
/-- One of a floor's eight. -/
theorem mem_sd {C : CfgR} {G : Gd} {s t : Sd} : t ∈ arP (toS C G) s ↔ ∃ d, okD d = true ∧ (toS C G s d = some t ∨ diaS C G s d (nextD d) = some t) := by
  unfold arP
  rw [mem_arN]
  constructor
  · rintro ⟨d, hd, h⟩
    refine ⟨d, okD_nat hd, ?_⟩
    rw [← diaP_is s (fun q _ => (ax_next q).2.1)]
    exact h
  · rintro ⟨d, hd, h⟩
    obtain ⟨n, rfl, hn⟩ := okD_is hd
    refine ⟨n, hn, ?_⟩
    rw [diaP_is s (fun q _ => (ax_next q).2.1)]
    exact h
theorem sd_sym {C : CfgR} {G : Gd} (hC : C.err = 0) (hE : gE G = 0) {s t : Sd} (h : t ∈ arP (toS C G) s) : s ∈ arP (toS C G) t := by
  obtain ⟨d, hd, h | h⟩ := mem_sd.1 h
  · exact mem_sd.2 ⟨backD d, (backD_ok hd).1, .inl (toS_back hC hE h)⟩
  · refine mem_sd.2 ⟨backD d, (backD_ok hd).1, .inr ?_⟩
    have := (diaS_back hC hE h).1
    rw [(ax_next hd).2.2] at this
    exact this

/-- By places. -/
def spG (G : Gd) (t : Sd) : Sp := ⟨ixG G t.x t.z, t.k.toNat⟩
def sdS (G : Gd) (s : Sp) : Sd := sdI G s.c s.k
def goS (C : CfgR) (G : Gd) (s : Sp) (d : Int) : Option Sp := (toS C G (sdS G s) d).map (spG G)

theorem colM_lk {C : CfgR} {G : Gd} (c : Nat) : (colM (lkL C G) c).length = (gcol G c).length := by
  unfold colM lkL
  by_cases h : c < G.L.length
  · rw [List.getElem?_map, List.getElem?_range h]
    exact lkC_len C G c
  · rw [List.getElem?_map, List.getElem?_eq_none (by simp; omega)]
    unfold gcol
    rw [List.getElem?_eq_none (by omega)]
    rfl
theorem spIn_is {C : CfgR} {G : Gd} {s : Sp} : SpIn (lkL C G) s ↔ s.c < G.L.length ∧ s.k < (gcol G s.c).length := by
  unfold SpIn
  rw [lkL_len, colM_lk]

section
variable {C : CfgR} {G : Gd} (hC : C.err = 0) (hE : gE G = 0)
include hE
theorem wd_pos {c : Nat} (h : c < G.L.length) : 0 < G.w ∧ G.w ≤ 64 ∧ 0 < G.d ∧ G.d ≤ 64 ∧ c / G.w.toNat < G.d.toNat := by
  obtain ⟨hp, hl, -⟩ := gd_is hE
  have hb := placeB_iff.1 hp
  have h1 : 0 < G.w := by
    rcases Int.lt_or_le 0 G.w with q | q
    · exact q
    · have : G.w = 0 := by omega
      rw [this, Int.zero_mul] at hl
      omega
  have h2 : 0 < G.d := by
    rcases Int.lt_or_le 0 G.d with q | q
    · exact q
    · have : G.d = 0 := by omega
      rw [this, Int.mul_zero] at hl
      omega
  refine ⟨h1, by omega, h2, by omega, ?_⟩
  rw [Nat.div_lt_iff_lt_mul (by omega)]
  have e : ((G.d.toNat * G.w.toNat : Nat) : Int) = G.d * G.w := by
    rw [Int.natCast_mul, Int.toNat_of_nonneg (by omega), Int.toNat_of_nonneg (by omega)]
  rw [Int.mul_comm] at hl
  omega
/-- Where a place lies. -/
theorem sdS_in {s : Sp} (h : s.c < G.L.length) : inG G (sdS G s).x (sdS G s).z = true ∧ ixG G (sdS G s).x (sdS G s).z = s.c := by
  obtain ⟨h1, h2, h3, h4, h5⟩ := wd_pos hE h
  have hm : s.c % G.w.toNat < G.w.toNat := Nat.mod_lt _ (by omega)
  have hdm := Nat.div_add_mod s.c G.w.toNat
  unfold sdS sdI
  simp only
  generalize s.c / G.w.toNat = q at *
  generalize s.c % G.w.toNat = r at *
  refine ⟨inG_iff.2 ⟨⟨by omega, by omega⟩, by omega, by omega⟩, ?_⟩
  unfold ixG
  have e : (G.z + ((q : Nat) : Int) - G.z) * G.w + (G.x + ((r : Nat) : Int) - G.x) = ((s.c : Nat) : Int) := by
    rw [show G.z + ((q : Nat) : Int) - G.z = ((q : Nat) : Int) by omega, show G.x + ((r : Nat) : Int) - G.x = ((r : Nat) : Int) by omega]
    have e2 : ((q : Nat) : Int) * G.w = ((G.w.toNat * q : Nat) : Int) := by
      rw [Int.natCast_mul, Int.toNat_of_nonneg (by omega), Int.mul_comm]
    rw [e2, ← Int.natCast_add, hdm]
  rw [e]
  simp
theorem atG_col {x z : Int} (h : inG G x z = true) : atG G x z = gcol G (ixG G x z) := by
  rw [atG_in hE h, gcol_at (ixG_is hE h).2.2.2]
theorem sdS_at {s : Sp} (h : s.c < G.L.length) : atG G (sdS G s).x (sdS G s).z = gcol G s.c := by
  obtain ⟨h1, h2⟩ := sdS_in hE h
  rw [atG_col hE h1, h2]
/-- A floor's place is where it lies. -/
theorem sdS_spG {t : Sd} {b : Fl} (h : flG G t = some b) : sdS G (spG G t) = t ∧ (spG G t).c < G.L.length ∧ (spG G t).k < (gcol G (spG G t).c).length ∧ ((spG G t).k : Int) = t.k := by
  have hin := flG_in h
  obtain ⟨k, hk, hkl, -⟩ := flG_is h
  obtain ⟨i1, i2, i3, i4⟩ := ixG_is hE hin
  rw [atG_col hE hin] at hkl
  have hb := inG_iff.1 hin
  obtain ⟨h1, h2, h3, h4, h5⟩ := wd_pos hE i4
  obtain ⟨tx, tz, tk⟩ := t
  simp only at hk hkl i1 i2 i3 i4 hb h5
  subst hk
  refine ⟨?_, i4, by unfold spG; simpa using hkl, by unfold spG; simp⟩
  unfold sdS spG sdI
  simp only [Int.toNat_natCast]
  have e1 : (ixG G tx tz : Int) = ((tz - G.z).toNat * G.w.toNat + (tx - G.x).toNat : Nat) := by
    rw [i3, Int.natCast_add, Int.natCast_mul, Int.toNat_of_nonneg (by omega), Int.toNat_of_nonneg (by omega), Int.toNat_of_nonneg (by omega)]
  have e2 : ixG G tx tz = (tx - G.x).toNat + G.w.toNat * (tz - G.z).toNat := by
    rw [Nat.mul_comm, Nat.add_comm]
    exact Int.ofNat_inj.1 e1
  have hlt : (tx - G.x).toNat < G.w.toNat := by omega
  rw [e2, Nat.add_mul_mod_self_left, Nat.mod_eq_of_lt hlt, Nat.add_mul_div_left _ _ (by omega), Nat.div_eq_of_lt hlt]
  simp only [Nat.zero_add, Sd.mk.injEq, and_true]
  omega
theorem goS_is {s t : Sp} {d : Int} (h : goS C G s d = some t) : okD d = true ∧ toS C G (sdS G s) d = some (sdS G t) ∧ t.c < G.L.length ∧ t.k < (gcol G t.c).length := by
  unfold goS at h
  obtain ⟨u, hu, rfl⟩ := Option.map_eq_some_iff.1 h
  obtain ⟨hd, a, b, ha, hb, -⟩ := toS_is hu
  obtain ⟨e1, e2, e3, e4⟩ := sdS_spG hE hb
  exact ⟨hd, by rw [e1]; exact hu, e2, e3⟩
theorem goS_hom : HomP (goS C G) (toS C G) (sdS G) (fun s => s.c < G.L.length ∧ s.k < (gcol G s.c).length) where
  goes s hs d := by
    cases q : toS C G (sdS G s) d with
    | none => unfold goS; rw [q]; rfl
    | some t =>
      obtain ⟨-, a, b, ha, hb, -⟩ := toS_is q
      unfold goS
      rw [q]
      show some t = some (sdS G (spG G t))
      rw [(sdS_spG hE hb).1]
  kept s hs d t h := (goS_is hE h).2.2
  inj s t hs ht e := by
    have h1 := (sdS_in hE hs.1).2
    have h2 := (sdS_in hE ht.1).2
    rw [e, h2] at h1
    have h3 : ((s.k : Nat) : Int) = t.k := by
      have : (sdS G s).k = (sdS G t).k := by rw [e]
      exact this
    obtain ⟨sc, sk⟩ := s
    obtain ⟨tc, tk⟩ := t
    rw [Sp.mk.injEq]
    simp only at h1 h3
    omega
include hC
/-- A grid that may be, by places. -/
def fdN : Net where
  W := G.w.toNat
  M := lkL C G
  go := goS C G
  len := by
    rw [lkL_len]
    have hb := placeB_iff.1 (gd_is hE).1
    have := mul_64 hb.2.2.1.1 hb.2.2.1.2 hb.2.2.2.1 hb.2.2.2.2
    have := (gd_is hE).2.1
    omega
  col c := by rw [colM_lk]; exact gcol_len hE c
  wle := by have hb := placeB_iff.1 (gd_is hE).1; omega
  dir s d t h := (goS_is hE h).1
  is s h d hd := by
    have hs := spIn_is.1 h
    have e : (colM (lkL C G) s.c)[s.k]'h.2 = lkS C G (sdS G s) := by
      have h1 : colM (lkL C G) s.c = lkC C G s.c := by
        unfold colM lkL
        rw [List.getElem?_map, List.getElem?_range hs.1]
        rfl
      simp only [h1]
      unfold lkC
      rw [List.getElem_map, List.getElem_range]
      rfl
    rw [e]
    have e2 : lkD (lkS C G (sdS G s)) d = oneL (toS C G (sdS G s) d) := by
      rcases okD_cases hd with rfl | rfl | rfl | rfl <;> rfl
    rw [e2]
    unfold goS
    cases q : toS C G (sdS G s) d with
    | none => rfl
    | some t =>
      obtain ⟨-, a, b, ha, hb, -⟩ := toS_is q
      exact (sdS_spG hE hb).2.2.2.symm
  lead s h d t q := by
    have hs := spIn_is.1 h
    obtain ⟨hd, h1, h2, h3⟩ := goS_is hE q
    refine ⟨spIn_is.2 ⟨h2, h3⟩, ?_⟩
    obtain ⟨-, _, _, -, -, -, hx, hz⟩ := toS_is h1
    obtain ⟨w1, w2, w3, w4, w5⟩ := wd_pos hE hs.1
    obtain ⟨s1, s2⟩ := sdS_in hE hs.1
    obtain ⟨t1, t2⟩ := sdS_in hE h2
    have i1 := (ixG_is hE s1).2.2.1
    have i2 := (ixG_is hE t1).2.2.1
    rw [s2] at i1
    rw [t2] at i2
    rw [hx, hz] at i2
    have e1 : ((sdS G s).z + dzD d - G.z) * G.w = ((sdS G s).z - G.z) * G.w + dzD d * G.w := by rw [← Int.add_mul]; congr 1; omega
    have e2 : ((G.w.toNat : Nat) : Int) = G.w := Int.toNat_of_nonneg (by omega)
    rw [e2]
    omega
  sym s h t ht := by
    have hs := spIn_is.1 h
    have H := goS_hom (C := C) hE
    have hv := arN_kept H hs ht
    refine ⟨spIn_is.2 hv, ?_⟩
    have h1 : sdS G t ∈ arP (toS C G) (sdS G s) := by
      unfold arP
      rw [arN_hom H hs]
      exact List.mem_map_of_mem ht
    have h2 := sd_sym hC hE h1
    unfold arP at h2
    rw [arN_hom H hv] at h2
    obtain ⟨u, hu, e⟩ := List.mem_map.1 h2
    have := H.inj u s (arN_kept H hv hu) hs e
    rw [← this]
    exact hu
end

end Go.Proofs.YtgoggogcbjfofaaDoor
