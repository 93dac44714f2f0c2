import Derived.Test.YtgoggogcbjfofaaDoorFdNY14
import Derived.Test.YtgoggogcbjfofaaDoorFdJY14
import Derived.Test.YtgoggogcbjfofaaDoorFdCpY14

/- Layer 14: clearances in a part of a grid, plain. No function of the program in sight. -/
namespace Go.Proofs.YtgoggogcbjfofaaDoor
open Go.RowKit
set_option linter.unusedVariables false

section
variable {α : Type} {go1 go2 : α → Int → Option α}
theorem rnd_sub (h : ∀ s d t, go1 s d = some t → go2 s d = some t) {s t : α} {d e : Int} (q : rndP go1 s d e = some t) : rndP go2 s d e = some t := by
  unfold rndP at q ⊢
  split at q
  · rename_i m hm
    rw [h s d m hm]
    exact h m e t q
  · cases q
variable [DecidableEq α]
theorem dia_sub (h : ∀ s d t, go1 s d = some t → go2 s d = some t) {s t : α} {d e : Int} (q : diaP go1 s d e = some t) : diaP go2 s d e = some t := by
  obtain ⟨a, b⟩ := bothP_is q
  unfold diaP
  rw [rnd_sub h a, rnd_sub h b, bothP_of]
theorem arN_same {s : α} (h : ∀ d : Nat, d < 4 → go1 s d = go2 s d ∧ diaP go1 s d (nextD d) = diaP go2 s d (nextD d)) : ∀ n, n ≤ 4 → arN go1 s n = arN go2 s n
  | 0, _ => rfl
  | n + 1, hn => by
    obtain ⟨a, b⟩ := h n (by omega)
    simp only [arN, arN_same h n (by omega), a, b]
theorem full_sub (h : ∀ s d t, go1 s d = some t → go2 s d = some t) {s : α} (q : fulP go1 s = true) : arP go1 s = arP go2 s := by
  refine arN_same (fun d hd => ?_) 4 (Nat.le_refl _)
  obtain ⟨⟨t, ht⟩, u, hu⟩ := fulP_iff.1 q d hd
  exact ⟨by rw [ht, h s d t ht], by rw [hu, dia_sub h hu]⟩
theorem ge_sub (h : ∀ s d t, go1 s d = some t → go2 s d = some t) : ∀ (n : Nat) (s : α), geB go1 n s = true → geB go2 n s = true
  | 0, _, _ => rfl
  | n + 1, s, q => by
    obtain ⟨a, b⟩ := (geB_succ n s).1 q
    have e := full_sub h a
    refine (geB_succ n s).2 ⟨?_, fun t ht => ge_sub h n t (b t (by rw [e]; exact ht))⟩
    unfold fulP at a ⊢
    rw [← e]
    exact a
theorem ge_far {Near : Nat → α → Prop} (h : ∀ n s, Near (n + 1) s → (∀ d : Nat, d < 4 → go1 s d = go2 s d ∧ diaP go1 s d (nextD d) = diaP go2 s d (nextD d)) ∧ ∀ t ∈ arP go2 s, Near n t) : ∀ (n : Nat) (s : α), Near n s → geB go2 n s = true → geB go1 n s = true
  | 0, _, _, _ => rfl
  | n + 1, s, hs, q => by
    obtain ⟨a, b⟩ := (geB_succ n s).1 q
    obtain ⟨h1, h2⟩ := h n s hs
    have e : arP go1 s = arP go2 s := arN_same h1 4 (Nat.le_refl _)
    refine (geB_succ n s).2 ⟨?_, fun t ht => ?_⟩
    · unfold fulP at a ⊢
      rw [e]
      exact a
    · rw [e] at ht
      exact ge_far h n t (h2 t ht) (b t ht)
end

/-- One grid is a part of another. -/
structure PartOf (P G : Gd) : Prop where
  ok1 : gE P = 0
  ok2 : gE G = 0
  at_ : ∀ x z, inG P x z = true → inG G x z = true ∧ atG P x z = atG G x z
theorem PartOf.fl {P G : Gd} (h : PartOf P G) {s : Sd} {a : Fl} (q : flG P s = some a) : flG G s = some a := by
  have e := (h.at_ s.x s.z (flG_in q)).2
  unfold flG at q ⊢
  rw [← e]
  exact q
theorem PartOf.fl_of {P G : Gd} (h : PartOf P G) {s : Sd} (hs : inG P s.x s.z = true) : flG P s = flG G s := by
  have e := (h.at_ s.x s.z hs).2
  unfold flG
  rw [e]
theorem PartOf.sub {P G : Gd} (h : PartOf P G) {C : CfgR} (hC : C.err = 0) (s : Sd) (d : Int) (t : Sd) (q : toS C P s d = some t) : toS C G s d = some t := by
  obtain ⟨hd, a, b, ha, hb, hl, hx, hz⟩ := toS_is q
  exact toS_of hC h.ok2 hd (h.fl ha) (h.fl hb) hl hx hz
theorem PartOf.back {P G : Gd} (h : PartOf P G) {C : CfgR} (hC : C.err = 0) {s t : Sd} {d : Int} (q : toS C G s d = some t) (hs : inG P s.x s.z = true) (ht : inG P t.x t.z = true) : toS C P s d = some t := by
  obtain ⟨hd, a, b, ha, hb, hl, hx, hz⟩ := toS_is q
  exact toS_of hC h.ok1 hd (by rw [h.fl_of hs]; exact ha) (by rw [h.fl_of ht]; exact hb) hl hx hz
/-- The part has all columns of the grid within n of it. -/
def NearG (P G : Gd) (n : Nat) (s : Sd) : Prop := inG P s.x s.z = true ∧ (P.x = G.x ∨ P.x + n ≤ s.x) ∧ (P.x + P.w = G.x + G.w ∨ s.x + n ≤ P.x + P.w - 1) ∧ (P.z = G.z ∨ P.z + n ≤ s.z) ∧ (P.z + P.d = G.z + G.d ∨ s.z + n ≤ P.z + P.d - 1)
theorem NearG.le {P G : Gd} {n m : Nat} {s : Sd} (h : NearG P G m s) (hn : n ≤ m) : NearG P G n s := by
  obtain ⟨a, b, c, d, e⟩ := h
  exact ⟨a, by omega, by omega, by omega, by omega⟩
theorem NearG.step {P G : Gd} {n : Nat} {s t : Sd} (h : NearG P G (n + 1) s) (ht : inG G t.x t.z = true) (hx : -1 ≤ t.x - s.x ∧ t.x - s.x ≤ 1) (hz : -1 ≤ t.z - s.z ∧ t.z - s.z ≤ 1) : NearG P G n t := by
  obtain ⟨a, b, c, d, e⟩ := h
  have h1 := inG_iff.1 a
  have h2 := inG_iff.1 ht
  exact ⟨inG_iff.2 ⟨⟨by omega, by omega⟩, by omega, by omega⟩, by omega, by omega, by omega, by omega⟩
theorem toS_close {C : CfgR} {G : Gd} {s t : Sd} {d : Int} (q : toS C G s d = some t) : inG G t.x t.z = true ∧ t.x = s.x + dxD d ∧ t.z = s.z + dzD d := by
  obtain ⟨hd, a, b, ha, hb, hl, hx, hz⟩ := toS_is q
  exact ⟨flG_in hb, hx, hz⟩
theorem next_small {d : Nat} (h : d < 4) : (-1 ≤ dxD d + dxD (nextD d) ∧ dxD d + dxD (nextD d) ≤ 1) ∧ (-1 ≤ dzD d + dzD (nextD d) ∧ dzD d + dzD (nextD d) ≤ 1) := by
  rcases (show d = 0 ∨ d = 1 ∨ d = 2 ∨ d = 3 by omega) with rfl | rfl | rfl | rfl <;> decide
theorem PartOf.far {P G : Gd} (h : PartOf P G) {C : CfgR} (hC : C.err = 0) : ∀ n s, NearG P G (n + 1) s → (∀ d : Nat, d < 4 → toS C P s d = toS C G s d ∧ diaP (toS C P) s d (nextD d) = diaP (toS C G) s d (nextD d)) ∧ ∀ t ∈ arP (toS C G) s, NearG P G n t := by
  intro n s hs
  have one : ∀ (d : Int) (t : Sd), toS C G s d = some t → NearG P G n t := fun d t q => by
    obtain ⟨h1, h2, h3⟩ := toS_close q
    have a := dxD_small d
    have b := dzD_small d
    exact hs.step h1 (by omega) (by omega)
  have oneP : ∀ d : Int, toS C P s d = toS C G s d := fun d => by
    cases q : toS C G s d with
    | none =>
      cases p : toS C P s d with
      | none => rfl
      | some t => rw [h.sub hC s d t p] at q; cases q
    | some t => exact h.back hC q hs.1 (one d t q).1
  have rnd : ∀ (d e : Int) (t : Sd), (-1 ≤ dxD d + dxD e ∧ dxD d + dxD e ≤ 1) → (-1 ≤ dzD d + dzD e ∧ dzD d + dzD e ≤ 1) → rndP (toS C G) s d e = some t → NearG P G n t ∧ rndP (toS C P) s d e = some t := fun d e t hx hz q => by
    unfold rndP at q ⊢
    rw [oneP d]
    split at q
    · rename_i m hm
      obtain ⟨-, m2, m3⟩ := toS_close hm
      obtain ⟨t1, t2, t3⟩ := toS_close q
      have nt := hs.step t1 (by omega) (by omega)
      exact ⟨nt, h.back hC q (one d m hm).1 nt.1⟩
    · cases q
  have dia : ∀ (d : Nat), d < 4 → ∀ t, diaP (toS C G) s d (nextD d) = some t → NearG P G n t ∧ diaP (toS C P) s d (nextD d) = some t := fun d hd t q => by
    obtain ⟨a, b⟩ := bothP_is q
    obtain ⟨x1, x2⟩ := next_small hd
    obtain ⟨n1, r1⟩ := rnd d (nextD d) t x1 x2 a
    obtain ⟨n2, r2⟩ := rnd (nextD d) d t (by omega) (by omega) b
    refine ⟨n1, ?_⟩
    unfold diaP
    rw [r1, r2, bothP_of]
  refine ⟨fun d hd => ⟨oneP d, ?_⟩, fun t ht => ?_⟩
  · cases q : diaP (toS C G) s d (nextD d) with
    | none =>
      cases p : diaP (toS C P) s d (nextD d) with
      | none => rfl
      | some t => rw [dia_sub (h.sub hC) p] at q; cases q
    | some t => exact (dia d hd t q).2
  · obtain ⟨d, hd, q | q⟩ := mem_arN.1 ht
    · exact one d t q
    · exact (dia d hd t q).1
theorem PartOf.clr_le {P G : Gd} (h : PartOf P G) {C : CfgR} (hC : C.err = 0) (m : Nat) (s : Sd) : clr (toS C P) m s ≤ clr (toS C G) m s := by
  have a := Go.Proofs.YtgoggogcbjfofaaDoor.clr_le (go := toS C P) m s
  exact (clr_iff a s).2 (ge_sub (h.sub hC) _ s (clr_ge m s))
theorem PartOf.clr_far {P G : Gd} (h : PartOf P G) {C : CfgR} (hC : C.err = 0) {m : Nat} {s : Sd} (hn : NearG P G m s) : clr (toS C P) m s = clr (toS C G) m s := by
  have a := Go.Proofs.YtgoggogcbjfofaaDoor.clr_le (go := toS C G) m s
  have b := (clr_iff a s).2 (ge_far (h.far hC) _ s (hn.le a) (clr_ge m s))
  have c := h.clr_le hC m s
  omega

/-- A part, cut off at its four sides: its columns. -/
def prtC (G : Gd) (x0 z0 p i : Nat) : List Fl := gcol G ((z0 + i / p) * G.w.toNat + (x0 + i % p))
def prtL (G : Gd) (x0 z0 p n : Nat) : List (List Fl) := (List.range n).map (prtC G x0 z0 p)
theorem prtL_len (G : Gd) (x0 z0 p n : Nat) : (prtL G x0 z0 p n).length = n := by unfold prtL; simp
theorem prtL_succ (G : Gd) (x0 z0 p n : Nat) : prtL G x0 z0 p (n + 1) = prtL G x0 z0 p n ++ [prtC G x0 z0 p n] := by
  unfold prtL
  rw [List.range_succ, List.map_append]
  rfl
def prtG (G : Gd) (x0 z0 p q : Nat) (ga : Option Addr) (gc : Nat) : Gd := ⟨G.x + x0, G.z + z0, p, q, prtL G x0 z0 p (q * p), ga, gc⟩
theorem prt_col {G : Gd} (hE : gE G = 0) {x0 z0 p q i : Nat} (hp : 0 < p) (hx : x0 + p ≤ G.w.toNat) (hz : z0 + q ≤ G.d.toNat) (hi : i < q * p) : (z0 + i / p) * G.w.toNat + (x0 + i % p) < G.L.length ∧ i / p < q ∧ i % p < p := by
  have h1 : i / p < q := (Nat.div_lt_iff_lt_mul hp).2 hi
  have h2 : i % p < p := Nat.mod_lt _ hp
  obtain ⟨hpl, hl, -⟩ := gd_is hE
  have hb := placeB_iff.1 hpl
  have e : G.L.length = G.d.toNat * G.w.toNat := by
    have e1 : ((G.d.toNat * G.w.toNat : Nat) : Int) = G.d * G.w := by
      rw [Int.natCast_mul, Int.toNat_of_nonneg (by omega), Int.toNat_of_nonneg (by omega)]
    rw [Int.mul_comm] at hl
    omega
  refine ⟨?_, h1, h2⟩
  rw [e]
  have h3 : (z0 + i / p + 1) * G.w.toNat ≤ G.d.toNat * G.w.toNat := Nat.mul_le_mul_right _ (by omega)
  rw [Nat.add_mul] at h3
  omega
/-- The place of a column in the grid. -/
theorem prt_sd {G : Gd} {x0 z0 p q i k : Nat} {ga : Option Addr} {gc : Nat} (hw : 0 < G.w.toNat) (hx : x0 + i % p < G.w.toNat) : sdI (prtG G x0 z0 p q ga gc) i k = sdI G ((z0 + i / p) * G.w.toNat + (x0 + i % p)) k := by
  unfold sdI prtG
  simp only [Int.toNat_natCast]
  rw [Nat.add_comm, Nat.add_mul_mod_self_right, Nat.mod_eq_of_lt hx, Nat.add_mul_div_right _ _ hw, Nat.div_eq_of_lt hx]
  congr 1 <;> omega
theorem prt_part {G : Gd} (hE : gE G = 0) {x0 z0 p q : Nat} {ga : Option Addr} {gc : Nat} (hp : 0 < p) (hq : 0 < q) (hx : x0 + p ≤ G.w.toNat) (hz : z0 + q ≤ G.d.toNat) (hP : gE (prtG G x0 z0 p q ga gc) = 0) : PartOf (prtG G x0 z0 p q ga gc) G := by
  have hb := placeB_iff.1 (gd_is hE).1
  refine ⟨hP, hE, fun x z h => ?_⟩
  have hi := inG_iff.1 h
  have hP1 : (prtG G x0 z0 p q ga gc).x = G.x + x0 := rfl
  have hP2 : (prtG G x0 z0 p q ga gc).z = G.z + z0 := rfl
  have hP3 : (prtG G x0 z0 p q ga gc).w = p := rfl
  have hP4 : (prtG G x0 z0 p q ga gc).d = q := rfl
  rw [hP1, hP2, hP3, hP4] at hi
  have hG : inG G x z = true := inG_iff.2 ⟨⟨by omega, by omega⟩, by omega, by omega⟩
  refine ⟨hG, ?_⟩
  have hix := ixG_is hP h
  have hgx := ixG_is hE hG
  rw [atG_col hP h, atG_col hE hG]
  obtain ⟨a, ha⟩ : ∃ a : Nat, x - (G.x + x0) = a := ⟨(x - (G.x + x0)).toNat, by omega⟩
  obtain ⟨b, hb2⟩ : ∃ b : Nat, z - (G.z + z0) = b := ⟨(z - (G.z + z0)).toNat, by omega⟩
  have hi3 := hix.2.2.1
  rw [hP1, hP2, hP3, ha, hb2] at hi3
  have hi4 : ixG (prtG G x0 z0 p q ga gc) x z = a + b * p := by
    have : ((ixG (prtG G x0 z0 p q ga gc) x z : Nat) : Int) = ((a + b * p : Nat) : Int) := by
      rw [hi3, Int.natCast_add, Int.natCast_mul]
      omega
    exact Int.ofNat_inj.1 this
  have hap : a < p := by omega
  have hbq : b < q := by omega
  have hlt : a + b * p < q * p := by
    have h3 : (b + 1) * p ≤ q * p := Nat.mul_le_mul_right _ (by omega)
    rw [Nat.add_mul] at h3
    omega
  have hcol : gcol (prtG G x0 z0 p q ga gc) (a + b * p) = prtC G x0 z0 p (a + b * p) := by
    unfold gcol prtG prtL
    simp only
    rw [List.getElem?_map, List.getElem?_range hlt]
    rfl
  rw [hi4, hcol]
  unfold prtC
  rw [Nat.add_mul_mod_self_right, Nat.mod_eq_of_lt hap, Nat.add_mul_div_right _ _ hp, Nat.div_eq_of_lt hap, Nat.zero_add]
  congr 1
  have e : ((ixG G x z : Nat) : Int) = (((z0 + b) * G.w.toNat + (x0 + a) : Nat) : Int) := by
    rw [hgx.2.2.1, Int.natCast_add, Int.natCast_mul, Int.toNat_of_nonneg (by omega)]
    have e1 : z - G.z = ((z0 + b : Nat) : Int) := by omega
    rw [e1]
    omega
  exact (Int.ofNat_inj.1 e).symm

end Go.Proofs.YtgoggogcbjfofaaDoor

/- Layer 14: a part's rows beside the whole's; cut. -/
namespace Go.Proofs.YtgoggogcbjfofaaDoor
open Go.RowKit
set_option linter.unusedVariables false

def FarA (G : Gd) (x0 z0 p q m : Nat) (xm zm : Nat) : Prop := (x0 = 0 ∨ m ≤ xm) ∧ (x0 + p = G.w.toNat ∨ xm + m + 1 ≤ p) ∧ (z0 = 0 ∨ m ≤ zm) ∧ (z0 + q = G.d.toNat ∨ zm + m + 1 ≤ q)
theorem prt_gcol (G : Gd) {x0 z0 p q i : Nat} {ga : Option Addr} {gc : Nat} (hi : i < q * p) : gcol (prtG G x0 z0 p q ga gc) i = gcol G ((z0 + i / p) * G.w.toNat + (x0 + i % p)) := by
  have : gcol (prtG G x0 z0 p q ga gc) i = prtC G x0 z0 p i := by
    unfold gcol prtG prtL
    simp only
    rw [List.getElem?_map, List.getElem?_range hi]
    rfl
  exact this
theorem prt_rows {C : CfgR} {G : Gd} (hC : C.err = 0) (hE : gE G = 0) {x0 z0 p q : Nat} {ga : Option Addr} {gc : Nat} (hp : 0 < p) (hq : 0 < q) (hx : x0 + p ≤ G.w.toNat) (hz : z0 + q ≤ G.d.toNat) (hP : gE (prtG G x0 z0 p q ga gc) = 0) (i : Nat) (hi : i < q * p) :
    ∃ (h1 : (z0 + i / p) * G.w.toNat + (x0 + i % p) < (fdL C G).length), ∃ (h2 : i < (fdL C (prtG G x0 z0 p q ga gc)).length), ((fdL C G)[(z0 + i / p) * G.w.toNat + (x0 + i % p)]).length = ((fdL C (prtG G x0 z0 p q ga gc))[i]).length ∧
      ∀ k (q1 : k < ((fdL C G)[(z0 + i / p) * G.w.toNat + (x0 + i % p)]).length) (q2 : k < ((fdL C (prtG G x0 z0 p q ga gc))[i]).length), ((fdL C (prtG G x0 z0 p q ga gc))[i])[k] ≤ ((fdL C G)[(z0 + i / p) * G.w.toNat + (x0 + i % p)])[k] ∧ (FarA G x0 z0 p q (capN C) (i % p) (i / p) → ((fdL C (prtG G x0 z0 p q ga gc))[i])[k] = ((fdL C G)[(z0 + i / p) * G.w.toNat + (x0 + i % p)])[k]) := by
  obtain ⟨hj, hd, hm⟩ := prt_col hE hp hx hz hi
  have hpart := prt_part (ga := ga) (gc := gc) hE hp hq hx hz hP
  have hb := placeB_iff.1 (gd_is hE).1
  refine ⟨by rw [fdL_len]; exact hj, by rw [fdL_len]; show i < (prtL G x0 z0 p (q * p)).length; rw [prtL_len]; exact hi, ?_⟩
  simp only [fdL_row]
  refine ⟨by rw [fdC_len, fdC_len, prt_gcol G hi], fun k q1 q2 => ?_⟩
  rw [fdC_at, fdC_at, prt_sd (by omega) (by omega)]
  obtain ⟨s, hs⟩ : ∃ s, s = sdI G ((z0 + i / p) * G.w.toNat + (x0 + i % p)) k := ⟨_, rfl⟩
  have hsx : s.x = G.x + ((x0 + i % p : Nat) : Int) := by
    rw [hs]
    unfold sdI
    simp only
    rw [Nat.add_comm, Nat.add_mul_mod_self_right, Nat.mod_eq_of_lt (by omega)]
  have hsz : s.z = G.z + ((z0 + i / p : Nat) : Int) := by
    rw [hs]
    unfold sdI
    simp only
    rw [Nat.add_comm, Nat.add_mul_div_right _ _ (by omega), Nat.div_eq_of_lt (by omega)]
    simp
  rw [← hs]
  clear hs
  generalize i % p = xm at *
  generalize i / p = zm at *
  have h1 := hpart.clr_le hC (capN C) s
  refine ⟨by omega, fun hf => ?_⟩
  have hP1 : (prtG G x0 z0 p q ga gc).x = G.x + x0 := rfl
  have hP2 : (prtG G x0 z0 p q ga gc).z = G.z + z0 := rfl
  have hP3 : (prtG G x0 z0 p q ga gc).w = p := rfl
  have hP4 : (prtG G x0 z0 p q ga gc).d = q := rfl
  have hn : NearG (prtG G x0 z0 p q ga gc) G (capN C) s := by
    obtain ⟨f1, f2, f3, f4⟩ := hf
    refine ⟨inG_iff.2 ⟨⟨?_, ?_⟩, ?_, ?_⟩, ?_, ?_, ?_, ?_⟩ <;> simp only [hP1, hP2, hP3, hP4] <;> omega
  rw [hpart.clr_far hC hn]

set_option maxHeartbeats 4000000 in
set_option maxRecDepth 100000 in
theorem lw_cut (a b : Int) (n : Nat) (h1 : 1 ≤ n) (h2 : n ≤ 64) (w : World) : Calls Tryd.prog 26 #[.int .i64 a, .int .i64 b, .int .i64 (n : Nat)] w fun e w' => ∃ lo hi : Nat, e = .returned (.tuple #[.int .i64 (lo : Nat), .int .i64 (hi : Nat)]) ∧ lo < hi ∧ hi ≤ n ∧ New w w' := by
  have key : ∀ c : Int, ∃ r k : Int, Int.tmod c n = r ∧ (-(n : Int) < r ∧ r < n) ∧ Int.tmod (r + n) n = k ∧ 0 ≤ k ∧ k < n := fun c => by
    refine ⟨_, _, rfl, ?_, rfl, ?_, Int.tmod_lt_of_pos _ (by omega)⟩
    · have p := Int.tmod_lt_of_pos c (show (0:Int) < n by omega)
      have q := Int.tmod_lt_of_pos (-c) (show (0:Int) < n by omega)
      rw [Int.neg_tmod] at q
      omega
    · have p := Int.tmod_lt_of_pos (-c) (show (0:Int) < n by omega)
      rw [Int.neg_tmod] at p
      exact Int.tmod_nonneg _ (by omega)
  obtain ⟨r1, k1, e1, b1, e2, b2, b3⟩ := key a
  obtain ⟨r2, k2, e3, b4, e4, b5, b6⟩ := key b
  clear key
  have hw1 : IntKind.i64.wrap (r1 + (n : Int)) = r1 + n := IntWalk.i64_in _ (by omega)
  have hw2 : IntKind.i64.wrap (r2 + (n : Int)) = r2 + n := IntWalk.i64_in _ (by omega)
  have hw3 : IntKind.i64.wrap (max k1 k2 + 1) = max k1 k2 + 1 := IntWalk.i64_in _ (by omega)
  have hn0 : ¬ n = 0 := by omega
  have hn1 : ((n : Int) == 0) = false := by rw [beq_eq_false_iff_ne]; omega
  have hwk1 : IntKind.i64.wrap r1 = r1 := IntWalk.i64_in _ (by omega)
  have hwk2 : IntKind.i64.wrap k1 = k1 := IntWalk.i64_in _ (by omega)
  have hwk3 : IntKind.i64.wrap r2 = r2 := IntWalk.i64_in _ (by omega)
  have hwk4 : IntKind.i64.wrap k2 = k2 := IntWalk.i64_in _ (by omega)
  go_enter Tryd.func26, Tryd.ntmps26
  go_wp2_with fail
  go_ret2
  exact ⟨(min k1 k2).toNat, (max k1 k2 + 1).toNat, by
    rw [Int.toNat_of_nonneg (by omega), Int.toNat_of_nonneg (by omega)]
    rfl, by omega, by omega, New.refl _⟩

end Go.Proofs.YtgoggogcbjfofaaDoor
