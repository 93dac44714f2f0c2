import Derived.Test.YteoongcajfcgcaaClFZ6
import Derived.Test.YteoongcajfcgcaaClLZ6
import Derived.Test.YteoongcajfcgcaaSoWZ6
import Derived.Deep.LoopGhost

/- The document's own put: a corner into its place, once. -/
namespace Go.Proofs.Yteoongcajfcgcaa
open Go.RowKit
set_option linter.unusedVariables false

/-- Is the first ahead of the second? -/
def ltB (a b : Co) : Bool := decide (0 < b.x * a.d - a.x * b.d) || (b.x * a.d - a.x * b.d == 0 && decide (0 < b.z * a.d - a.z * b.d))
theorem ltB_iff (a b : Co) : ltB a b = true ↔ ltC a b := by
  unfold ltB ltC
  simp only [Bool.or_eq_true, Bool.and_eq_true, decide_eq_true_eq, beq_iff_eq]
  omega

def putGo (c : Co) : List Co → Bool → List Co
  | [], dn => if dn then [] else [c]
  | e :: l, dn => if !(dn || e.eqB c) && ltB c e then c :: e :: putGo c l true else e :: putGo c l (dn || e.eqB c)
theorem putGo_done (c : Co) : ∀ l, putGo c l true = l
  | [] => rfl
  | e :: l => by simp [putGo, putGo_done c l]

theorem put_rise {c : Co} (hc : 0 < c.d) : ∀ l : List Co, (∀ a ∈ l, 0 < a.d) → (∀ a ∈ l, a.x * c.d = c.x * a.d → a.z * c.d = c.z * a.d → a = c) → l.Pairwise ltC → (putGo c l false).Pairwise ltC ∧ ∀ a, a ∈ putGo c l false ↔ a = c ∨ a ∈ l
  | [], _, _, _ => by simp [putGo]
  | e :: l, hd, h1, hl => by
    rw [List.pairwise_cons] at hl
    by_cases he : e = c
    · have q : e.eqB c = true := (Co.eqB_iff e c).2 he
      have e1 : putGo c (e :: l) false = e :: l := by simp [putGo, q, putGo_done]
      rw [e1]
      subst he
      refine ⟨List.pairwise_cons.2 hl, fun a => ?_⟩
      simp [List.mem_cons]
    · have q : e.eqB c = false := by
        cases hq : e.eqB c
        · rfl
        · exact absurd ((Co.eqB_iff e c).1 hq) he
      have hed := hd e List.mem_cons_self
      by_cases hlt : ltC c e
      · have q2 := (ltB_iff c e).2 hlt
        have e1 : putGo c (e :: l) false = c :: e :: l := by simp [putGo, q, q2, putGo_done]
        rw [e1]
        refine ⟨List.pairwise_cons.2 ⟨fun a ha => ?_, List.pairwise_cons.2 hl⟩, fun a => by simp [List.mem_cons]⟩
        rcases List.mem_cons.1 ha with rfl | ha
        · exact hlt
        · exact ltC_trans hc hed (hd a (List.mem_cons_of_mem _ ha)) hlt (hl.1 a ha)
      · have q2 : ltB c e = false := by
          cases hq : ltB c e
          · rfl
          · exact absurd ((ltB_iff c e).1 hq) hlt
        have e1 : putGo c (e :: l) false = e :: putGo c l false := by simp [putGo, q, q2]
        obtain ⟨i1, i2⟩ := put_rise hc l (fun a ha => hd a (List.mem_cons_of_mem _ ha)) (fun a ha => h1 a (List.mem_cons_of_mem _ ha)) hl.2
        rw [e1]
        refine ⟨List.pairwise_cons.2 ⟨fun a ha => ?_, i1⟩, fun a => ?_⟩
        · rcases (i2 a).1 ha with rfl | ha
          · rcases ltC_tri e a with k | k | ⟨k1, k2⟩
            · exact k
            · exact absurd k hlt
            · exact absurd (h1 e List.mem_cons_self k1 k2) he
          · exact hl.1 a ha
        · rw [List.mem_cons, i2 a, List.mem_cons]
          constructor
          · rintro (h | h | h)
            · exact .inr (.inl h)
            · exact .inl h
            · exact .inr (.inr h)
          · rintro (h | h | h)
            · exact .inr (.inl h)
            · exact .inl h
            · exact .inr (.inr h)
theorem putGo_len (c : Co) : ∀ (l : List Co) (dn : Bool), (putGo c l dn).length ≤ l.length + 1
  | [], dn => by unfold putGo; split <;> simp
  | e :: l, dn => by
    unfold putGo
    split
    · rw [putGo_done]; simp
    · have := putGo_len c l (dn || e.eqB c); simp; omega

set_option maxHeartbeats 8000000 in
set_option maxRecDepth 100000 in
theorem r_put (v : Value) (l : List Co) (c : Co) (w : World) (hs : Sl Co.enc 4 w v l) (hl : l.length ≤ 100) (hc : Okc c) (hok : ∀ a ∈ l, Okc a) :
    Calls Try.prog 31 #[v, .agg #[.int .i64 c.x, .int .i64 c.z, .int .i64 c.y, .int .i64 c.d]] w fun e w' => ∃ v', e = .returned v' ∧ Sl Co.enc 4 w' v' (putGo c l false) ∧ New w w' := by
  obtain ⟨i0, hi, hz0, hz1, hz2⟩ := info_parts co_info
  have HI := Lib.hid hi
  have HZ0 := Lib.hid hz0
  have HZ1 := Lib.hid hz1
  have HZ2 := Lib.hid hz2
  obtain ⟨at0, cap, rfl, hcap, hmax, -, hrow⟩ := hs
  have HR := Lib.hid hrow
  have HOK := Lib.hid hok
  obtain ⟨⟨d1, d2⟩, ⟨ox1, ox2⟩, ⟨oz1, oz2⟩, oy1, oy2⟩ := hc
  unfold maxLen at hmax
  obtain ⟨n, hn⟩ : ∃ n, n = l.length := ⟨_, rfl⟩
  rw [← hn] at hl hcap ⊢
  have HNL := Lib.hid hn
  clear hi hz0 hz1 hz2 hrow hok hn
  go_enter Try.func31, Try.ntmps31
  go_wp2_with fail
  refine Code.at (fun W0 hW => ?_)
  have n0 : New w W0 := by subst hW; (repeat (first | (with_reducible exact New.refl _) | (with_reducible assumption) | ((with_reducible refine New.setB ?_ ?_ _); focus (first | omega | (simp; omega) | (simp; done))) | (with_reducible refine New.alloc ?_ _) | (with_reducible refine New.drew ?_) | (with_reducible refine New.drewN ?_ _) | (with_reducible refine New.hat ?_ _) | ((with_reducible apply New.snart); (with_reducible assumption))))
  have k0 : W0.cell? ⟨w.heap.size, 0, none⟩ = some (.int .i64 c.x) := by subst hW; go_simp
  have k1 : W0.cell? ⟨w.heap.size, 1, none⟩ = some (.int .i64 c.z) := by subst hW; go_simp
  have k2 : W0.cell? ⟨w.heap.size, 2, none⟩ = some (.int .i64 c.y) := by subst hW; go_simp
  have k3 : W0.cell? ⟨w.heap.size, 3, none⟩ = some (.int .i64 c.d) := by subst hW; go_simp
  have zb : w.heap.size < W0.heap.size := World.block_lt_of_cell? _ _ k0
  have HKC := Lib.hid (And.intro k0 (And.intro k1 (And.intro k2 k3)))
  have HN0 := Lib.hid n0
  have HR0 := Lib.hid (HR.out.keep n0)
  have HS : Hid ([] ++ putGo c (l.drop 0) false = putGo c l false) := Lib.hid (by rw [List.drop_zero]; rfl)
  clear hW n0 k0 k1 k2 k3 HR
  go_loopg [5, 6, 7] n (fun gk s5 s6 s7 wr => ∃ (i : Nat) (o : List Co) (u : Value) (dn : Bool), u = s5 ∧ s6 = .bool dn ∧ s7 = .int .i64 i ∧ i ≤ n ∧ n - i ≤ gk ∧ o.length ≤ 2 * i + 1 ∧ Hid (o ++ putGo c (l.drop i) dn = putGo c l false) ∧ Hid (wr.ownsRow W0.heap.size 39 4 u o.length (o.flatMap Co.enc)) ∧ Hid (New W0 wr))
  case atStart => exact ⟨0, [], _, false, rfl, rfl, rfl, by omega, by omega, by simp, HS, Lib.hid (World.ownsRow_nil _ _ _ _), Lib.hid (New.refl _)⟩
  case round =>
    obtain ⟨i, o, u, dn, rfl, rfl, rfl, hi, hgk, ho, HE, HO, HN⟩ := hrel
    have zs := HN.out.size
    by_cases hlt : i < n
    · have hil : i < l.length := by rw [← HNL.out]; exact hlt
      obtain ⟨g, off, rfl, hA⟩ := HR0.out (by omega)
      have HA2 := Lib.hid hA
      have hrow := hA.keep HN.out
      have r0 : wr.cell? ⟨g, off + i * 4, none⟩ = some (.int .i64 l[i].x) := hrow i hil 0 (by rw [Co.enc_len]; omega)
      have r1 : wr.cell? ⟨g, off + i * 4 + 1, none⟩ = some (.int .i64 l[i].z) := hrow i hil 1 (by rw [Co.enc_len]; omega)
      have r2 : wr.cell? ⟨g, off + i * 4 + 2, none⟩ = some (.int .i64 l[i].y) := hrow i hil 2 (by rw [Co.enc_len]; omega)
      have r3 : wr.cell? ⟨g, off + i * 4 + 3, none⟩ = some (.int .i64 l[i].d) := hrow i hil 3 (by rw [Co.enc_len]; omega)
      have k0 := HN.out.keep HKC.out.1
      have k1 := HN.out.keep HKC.out.2.1
      have k2 := HN.out.keep HKC.out.2.2.1
      have k3 := HN.out.keep HKC.out.2.2.2
      have hdr : l.drop i = l[i] :: l.drop (i + 1) := List.drop_eq_getElem_cons hil
      have HD := Lib.hid hdr
      obtain ⟨⟨e1, e2⟩, ⟨ex1, ex2⟩, ⟨ez1, ez2⟩, ey1, ey2⟩ := HOK.out l[i] (List.getElem_mem hil)
      obtain ⟨E, hE⟩ : ∃ E, E = l[i] := ⟨_, rfl⟩
      have hEL := Lib.hid hE
      rw [← hE] at r0 r1 r2 r3 HD e1 e2 ex1 ex2 ez1 ez2 ey1 ey2
      have m1 := mul_bd (a := E.x) (b := c.d) (A := 1073741824) (B := 1048576) ⟨ex1, ex2⟩ (by omega)
      have m2 := mul_bd (a := c.x) (b := E.d) (A := 1073741824) (B := 1048576) ⟨ox1, ox2⟩ (by omega)
      have m3 := mul_bd (a := E.z) (b := c.d) (A := 1073741824) (B := 1048576) ⟨ez1, ez2⟩ (by omega)
      have m4 := mul_bd (a := c.z) (b := E.d) (A := 1073741824) (B := 1048576) ⟨oz1, oz2⟩ (by omega)
      have HDN : Hid (putGo c (l.drop i) dn = if !(dn || E.eqB c) && ltB c E then c :: E :: putGo c (l.drop (i + 1)) true else E :: putGo c (l.drop (i + 1)) (dn || E.eqB c)) := Lib.hid (by rw [HD.out]; rfl)
      have EQ := fun W => co_eql W E c
      obtain ⟨q, hq⟩ : ∃ q, q = E.eqB c := ⟨_, rfl⟩
      rw [← hq] at EQ HDN
      obtain ⟨lt, hlt'⟩ : ∃ b, b = ltB c E := ⟨_, rfl⟩
      rw [← hlt'] at HDN
      have HLT := Lib.hid hlt'
      clear hrow hA hdr hE HD hq hlt'
      go_upto_region 6 with fail
      (refine wp_region_hat (by kernel_rfl) (by kernel_rfl) ?_; intro hatc hatf; (repeat (go_big_quiet_step ((fail)))); refine wpQuiet_nil ?_; rintro _ ⟨X6, rfl⟩)
      clear hatc hatf EQ
      have HN6 := Lib.hid (HN.out.trans X6.h)
      have HO6 := Lib.hid (own_new HO.out X6.h)
      (replace r0 := New.keep X6.h r0; replace r1 := New.keep X6.h r1; replace r2 := New.keep X6.h r2; replace r3 := New.keep X6.h r3; replace k0 := New.keep X6.h k0; replace k1 := New.keep X6.h k1; replace k2 := New.keep X6.h k2; replace k3 := New.keep X6.h k3)
      generalize X6.w = W6 at *
      clear X6 HN HO zs
      have zs := HN6.out.size
      have w1 : IntKind.i64.wrap (E.x * c.d) = E.x * c.d := IntWalk.i64_in _ (by omega)
      have w2 : IntKind.i64.wrap (c.x * E.d) = c.x * E.d := IntWalk.i64_in _ (by omega)
      have w3 : IntKind.i64.wrap (E.x * c.d - c.x * E.d) = E.x * c.d - c.x * E.d := IntWalk.i64_in _ (by omega)
      have w4 : IntKind.i64.wrap (E.z * c.d) = E.z * c.d := IntWalk.i64_in _ (by omega)
      have w5 : IntKind.i64.wrap (c.z * E.d) = c.z * E.d := IntWalk.i64_in _ (by omega)
      have w6 : IntKind.i64.wrap (E.z * c.d - c.z * E.d) = E.z * c.d - c.z * E.d := IntWalk.i64_in _ (by omega)
      have HWR := Lib.hid (And.intro w1 (And.intro w2 (And.intro w3 (And.intro w4 (And.intro w5 w6)))))
      have HLB : Hid (lt = (decide (0 < E.x * c.d - c.x * E.d) || (E.x * c.d - c.x * E.d == 0 && decide (0 < E.z * c.d - c.z * E.d)))) := HLT
      clear w1 w2 w3 w4 w5 w6 m1 m2 m3 m4 HLT
      cases dn with
      | true =>
        have HE2 : Hid ((o ++ [E]) ++ putGo c (l.drop (i + 1)) true = putGo c l false) := Lib.hid (by rw [← HE.out, HDN.out]; simp [putGo_done])
        clear HDN HE
        cases q
        ·
          go_upto_region 8 with fail
          obtain ⟨w1, w2, w3, w4, w5, w6⟩ := HWR.out
          (refine wp_region_hat (by kernel_rfl) (by kernel_rfl) ?_; intro hatc hatf; (repeat (go_big_quiet_step ((fail)))); refine wpQuiet_nil ?_; rintro _ ⟨X, rfl⟩)
          clear hatc hatf w1 w2 w3 w4 w5 w6
          have HN6 := Lib.hid (HN6.out.trans X.h)
          have HO6 := Lib.hid (own_new HO6.out X.h)
          (replace r0 := New.keep X.h r0; replace r1 := New.keep X.h r1; replace r2 := New.keep X.h r2; replace r3 := New.keep X.h r3; replace k0 := New.keep X.h k0; replace k1 := New.keep X.h k1; replace k2 := New.keep X.h k2; replace k3 := New.keep X.h k3)
          generalize X.w = W6 at *
          clear X
          go_upto_region 9 with fail
          obtain ⟨w1, w2, w3, w4, w5, w6⟩ := HWR.out
          (refine wp_region_hat (by kernel_rfl) (by kernel_rfl) ?_; intro hatc hatf; (repeat (go_big_quiet_step ((fail)))); refine wpQuiet_nil ?_; rintro _ ⟨X, rfl⟩)
          clear hatc hatf w1 w2 w3 w4 w5 w6
          have HN6 := Lib.hid (HN6.out.trans X.h)
          have HO6 := Lib.hid (own_new HO6.out X.h)
          (replace r0 := New.keep X.h r0; replace r1 := New.keep X.h r1; replace r2 := New.keep X.h r2; replace r3 := New.keep X.h r3; replace k0 := New.keep X.h k0; replace k1 := New.keep X.h k1; replace k2 := New.keep X.h k2; replace k3 := New.keep X.h k3)
          generalize X.w = W6 at *
          clear X
          have zs := HN6.out.size
          clear HWR HLB
          have hol : (o).length ≤ 250 := by (try simp only [List.length_append, List.length_cons, List.length_nil]); omega
          have hzw : W0.heap.size ≤ W6.heap.size := HN6.out.size
          go_wp2_with (at_builtin; refine wpList_append_own _ rfl _ _ 30 rfl W0.heap.size 39 i0 (.agg #[.int .i64 0, .int .i64 0, .int .i64 0, .int .i64 0]) 4 32 Try.underlying30 HI.out HZ0.out HZ1.out HZ2.out rfl (by decide) _ (o).length ((o).flatMap Co.enc) rfl (World.ownsRow.alloc HO6.out _) ⟨W6.heap.size, 0, none⟩ 1 1 E.enc rfl rfl (co_new _ _ _) (Co.enc_one E) (by unfold maxLen; omega) (by omega) (by simp; omega) ?_)
          intro v7 W7 ho7 hg7 _
          have HO7 : Hid (W7.ownsRow W0.heap.size 39 4 v7 (o ++ [E]).length ((o ++ [E]).flatMap Co.enc)) := Lib.hid (by rw [List.length_append, List.flatMap_append]; simpa using ho7)
          have HN7 : Hid (New W0 W7) := Lib.hid (newGrown (HN6.out.trans (by (repeat (first | (with_reducible exact New.refl _) | (with_reducible assumption) | ((with_reducible refine New.setB ?_ ?_ _); focus (first | omega | (simp; omega) | (simp; done))) | (with_reducible refine New.alloc ?_ _) | (with_reducible refine New.drew ?_) | (with_reducible refine New.drewN ?_ _) | (with_reducible refine New.hat ?_ _) | ((with_reducible apply New.snart); (with_reducible assumption)))))) hg7 (fun j hj => own_block HO6.out j hj))
          have n7 : New W0 W7 := HN7.out
          clear ho7 hg7 r0 r1 r2 r3 k0 k1 k2 k3 hol hzw
          go_wp2_with fail
          go_roundg (n - (i + 1))
          case measure => omega
          case rel => exact ⟨i + 1, o ++ [E], v7, true, rfl, rfl, by go_num, by omega, by omega, by simp only [List.length_append, List.length_cons, List.length_nil]; omega, HE2, HO7, HN7⟩
        ·
          go_upto_region 8 with fail
          obtain ⟨w1, w2, w3, w4, w5, w6⟩ := HWR.out
          (refine wp_region_hat (by kernel_rfl) (by kernel_rfl) ?_; intro hatc hatf; (repeat (go_big_quiet_step ((fail)))); refine wpQuiet_nil ?_; rintro _ ⟨X, rfl⟩)
          clear hatc hatf w1 w2 w3 w4 w5 w6
          have HN6 := Lib.hid (HN6.out.trans X.h)
          have HO6 := Lib.hid (own_new HO6.out X.h)
          (replace r0 := New.keep X.h r0; replace r1 := New.keep X.h r1; replace r2 := New.keep X.h r2; replace r3 := New.keep X.h r3; replace k0 := New.keep X.h k0; replace k1 := New.keep X.h k1; replace k2 := New.keep X.h k2; replace k3 := New.keep X.h k3)
          generalize X.w = W6 at *
          clear X
          go_upto_region 9 with fail
          obtain ⟨w1, w2, w3, w4, w5, w6⟩ := HWR.out
          (refine wp_region_hat (by kernel_rfl) (by kernel_rfl) ?_; intro hatc hatf; (repeat (go_big_quiet_step ((fail)))); refine wpQuiet_nil ?_; rintro _ ⟨X, rfl⟩)
          clear hatc hatf w1 w2 w3 w4 w5 w6
          have HN6 := Lib.hid (HN6.out.trans X.h)
          have HO6 := Lib.hid (own_new HO6.out X.h)
          (replace r0 := New.keep X.h r0; replace r1 := New.keep X.h r1; replace r2 := New.keep X.h r2; replace r3 := New.keep X.h r3; replace k0 := New.keep X.h k0; replace k1 := New.keep X.h k1; replace k2 := New.keep X.h k2; replace k3 := New.keep X.h k3)
          generalize X.w = W6 at *
          clear X
          have zs := HN6.out.size
          clear HWR HLB
          have hol : (o).length ≤ 250 := by (try simp only [List.length_append, List.length_cons, List.length_nil]); omega
          have hzw : W0.heap.size ≤ W6.heap.size := HN6.out.size
          go_wp2_with (at_builtin; refine wpList_append_own _ rfl _ _ 30 rfl W0.heap.size 39 i0 (.agg #[.int .i64 0, .int .i64 0, .int .i64 0, .int .i64 0]) 4 32 Try.underlying30 HI.out HZ0.out HZ1.out HZ2.out rfl (by decide) _ (o).length ((o).flatMap Co.enc) rfl (World.ownsRow.alloc HO6.out _) ⟨W6.heap.size, 0, none⟩ 1 1 E.enc rfl rfl (co_new _ _ _) (Co.enc_one E) (by unfold maxLen; omega) (by omega) (by simp; omega) ?_)
          intro v7 W7 ho7 hg7 _
          have HO7 : Hid (W7.ownsRow W0.heap.size 39 4 v7 (o ++ [E]).length ((o ++ [E]).flatMap Co.enc)) := Lib.hid (by rw [List.length_append, List.flatMap_append]; simpa using ho7)
          have HN7 : Hid (New W0 W7) := Lib.hid (newGrown (HN6.out.trans (by (repeat (first | (with_reducible exact New.refl _) | (with_reducible assumption) | ((with_reducible refine New.setB ?_ ?_ _); focus (first | omega | (simp; omega) | (simp; done))) | (with_reducible refine New.alloc ?_ _) | (with_reducible refine New.drew ?_) | (with_reducible refine New.drewN ?_ _) | (with_reducible refine New.hat ?_ _) | ((with_reducible apply New.snart); (with_reducible assumption)))))) hg7 (fun j hj => own_block HO6.out j hj))
          have n7 : New W0 W7 := HN7.out
          clear ho7 hg7 r0 r1 r2 r3 k0 k1 k2 k3 hol hzw
          go_wp2_with fail
          go_roundg (n - (i + 1))
          case measure => omega
          case rel => exact ⟨i + 1, o ++ [E], v7, true, rfl, rfl, by go_num, by omega, by omega, by simp only [List.length_append, List.length_cons, List.length_nil]; omega, HE2, HO7, HN7⟩
      | false =>
        cases q with
        | true =>
          have HE2 : Hid ((o ++ [E]) ++ putGo c (l.drop (i + 1)) true = putGo c l false) := Lib.hid (by rw [← HE.out, HDN.out]; simp)
          clear HDN HE
          go_upto_region 8 with fail
          obtain ⟨w1, w2, w3, w4, w5, w6⟩ := HWR.out
          (refine wp_region_hat (by kernel_rfl) (by kernel_rfl) ?_; intro hatc hatf; (repeat (go_big_quiet_step ((fail)))); refine wpQuiet_nil ?_; rintro _ ⟨X, rfl⟩)
          clear hatc hatf w1 w2 w3 w4 w5 w6
          have HN6 := Lib.hid (HN6.out.trans X.h)
          have HO6 := Lib.hid (own_new HO6.out X.h)
          (replace r0 := New.keep X.h r0; replace r1 := New.keep X.h r1; replace r2 := New.keep X.h r2; replace r3 := New.keep X.h r3; replace k0 := New.keep X.h k0; replace k1 := New.keep X.h k1; replace k2 := New.keep X.h k2; replace k3 := New.keep X.h k3)
          generalize X.w = W6 at *
          clear X
          go_upto_region 9 with fail
          obtain ⟨w1, w2, w3, w4, w5, w6⟩ := HWR.out
          (refine wp_region_hat (by kernel_rfl) (by kernel_rfl) ?_; intro hatc hatf; (repeat (go_big_quiet_step ((fail)))); refine wpQuiet_nil ?_; rintro _ ⟨X, rfl⟩)
          clear hatc hatf w1 w2 w3 w4 w5 w6
          have HN6 := Lib.hid (HN6.out.trans X.h)
          have HO6 := Lib.hid (own_new HO6.out X.h)
          (replace r0 := New.keep X.h r0; replace r1 := New.keep X.h r1; replace r2 := New.keep X.h r2; replace r3 := New.keep X.h r3; replace k0 := New.keep X.h k0; replace k1 := New.keep X.h k1; replace k2 := New.keep X.h k2; replace k3 := New.keep X.h k3)
          generalize X.w = W6 at *
          clear X
          have zs := HN6.out.size
          clear HWR HLB
          have hol : (o).length ≤ 250 := by (try simp only [List.length_append, List.length_cons, List.length_nil]); omega
          have hzw : W0.heap.size ≤ W6.heap.size := HN6.out.size
          go_wp2_with (at_builtin; refine wpList_append_own _ rfl _ _ 30 rfl W0.heap.size 39 i0 (.agg #[.int .i64 0, .int .i64 0, .int .i64 0, .int .i64 0]) 4 32 Try.underlying30 HI.out HZ0.out HZ1.out HZ2.out rfl (by decide) _ (o).length ((o).flatMap Co.enc) rfl (World.ownsRow.alloc HO6.out _) ⟨W6.heap.size, 0, none⟩ 1 1 E.enc rfl rfl (co_new _ _ _) (Co.enc_one E) (by unfold maxLen; omega) (by omega) (by simp; omega) ?_)
          intro v7 W7 ho7 hg7 _
          have HO7 : Hid (W7.ownsRow W0.heap.size 39 4 v7 (o ++ [E]).length ((o ++ [E]).flatMap Co.enc)) := Lib.hid (by rw [List.length_append, List.flatMap_append]; simpa using ho7)
          have HN7 : Hid (New W0 W7) := Lib.hid (newGrown (HN6.out.trans (by (repeat (first | (with_reducible exact New.refl _) | (with_reducible assumption) | ((with_reducible refine New.setB ?_ ?_ _); focus (first | omega | (simp; omega) | (simp; done))) | (with_reducible refine New.alloc ?_ _) | (with_reducible refine New.drew ?_) | (with_reducible refine New.drewN ?_ _) | (with_reducible refine New.hat ?_ _) | ((with_reducible apply New.snart); (with_reducible assumption)))))) hg7 (fun j hj => own_block HO6.out j hj))
          have n7 : New W0 W7 := HN7.out
          clear ho7 hg7 r0 r1 r2 r3 k0 k1 k2 k3 hol hzw
          go_wp2_with fail
          go_roundg (n - (i + 1))
          case measure => omega
          case rel => exact ⟨i + 1, o ++ [E], v7, true, rfl, rfl, by go_num, by omega, by omega, by simp only [List.length_append, List.length_cons, List.length_nil]; omega, HE2, HO7, HN7⟩
        | false =>
          go_upto_region 8 with fail
          obtain ⟨w1, w2, w3, w4, w5, w6⟩ := HWR.out
          (refine wp_region_hat (by kernel_rfl) (by kernel_rfl) ?_; intro hatc hatf; (repeat (go_big_quiet_step ((fail)))); refine wpQuiet_nil ?_; rintro _ ⟨X, rfl⟩)
          clear hatc hatf w1 w2 w3 w4 w5 w6
          have HN6 := Lib.hid (HN6.out.trans X.h)
          have HO6 := Lib.hid (own_new HO6.out X.h)
          (replace r0 := New.keep X.h r0; replace r1 := New.keep X.h r1; replace r2 := New.keep X.h r2; replace r3 := New.keep X.h r3; replace k0 := New.keep X.h k0; replace k1 := New.keep X.h k1; replace k2 := New.keep X.h k2; replace k3 := New.keep X.h k3)
          generalize X.w = W6 at *
          clear X
          go_upto_region 9 with fail
          obtain ⟨w1, w2, w3, w4, w5, w6⟩ := HWR.out
          (refine wp_region_hat (by kernel_rfl) (by kernel_rfl) ?_; intro hatc hatf; (repeat (go_big_quiet_step ((fail)))); refine wpQuiet_nil ?_; rintro _ ⟨X, rfl⟩)
          clear hatc hatf w1 w2 w3 w4 w5 w6
          have HN6 := Lib.hid (HN6.out.trans X.h)
          have HO6 := Lib.hid (own_new HO6.out X.h)
          (replace r0 := New.keep X.h r0; replace r1 := New.keep X.h r1; replace r2 := New.keep X.h r2; replace r3 := New.keep X.h r3; replace k0 := New.keep X.h k0; replace k1 := New.keep X.h k1; replace k2 := New.keep X.h k2; replace k3 := New.keep X.h k3)
          generalize X.w = W6 at *
          clear X
          have zs := HN6.out.size
          clear HWR
          obtain ⟨DX, hDX⟩ : ∃ d, d = E.x * c.d - c.x * E.d := ⟨_, rfl⟩
          obtain ⟨DZ, hDZ⟩ : ∃ d, d = E.z * c.d - c.z * E.d := ⟨_, rfl⟩
          rw [← hDX, ← hDZ] at HLB ⊢
          clear hDX hDZ
          cases t1 : decide (0 < DX)
          · cases t2 : (DX == 0)
            ·
              have HL : Hid (lt = false) := Lib.hid (by rw [HLB.out, t1, t2]; first | rfl | (rw [t3]; rfl))
              have HE2 : Hid ((o ++ [E]) ++ putGo c (l.drop (i + 1)) false = putGo c l false) := Lib.hid (by rw [← HE.out, HDN.out, HL.out]; simp)
              clear HDN HE HLB HL
              have hol : (o).length ≤ 250 := by (try simp only [List.length_append, List.length_cons, List.length_nil]); omega
              have hzw : W0.heap.size ≤ W6.heap.size := HN6.out.size
              go_wp2_with (at_builtin; refine wpList_append_own _ rfl _ _ 30 rfl W0.heap.size 39 i0 (.agg #[.int .i64 0, .int .i64 0, .int .i64 0, .int .i64 0]) 4 32 Try.underlying30 HI.out HZ0.out HZ1.out HZ2.out rfl (by decide) _ (o).length ((o).flatMap Co.enc) rfl (World.ownsRow.alloc HO6.out _) ⟨W6.heap.size, 0, none⟩ 1 1 E.enc rfl rfl (co_new _ _ _) (Co.enc_one E) (by unfold maxLen; omega) (by omega) (by simp; omega) ?_)
              intro v7 W7 ho7 hg7 _
              have HO7 : Hid (W7.ownsRow W0.heap.size 39 4 v7 (o ++ [E]).length ((o ++ [E]).flatMap Co.enc)) := Lib.hid (by rw [List.length_append, List.flatMap_append]; simpa using ho7)
              have HN7 : Hid (New W0 W7) := Lib.hid (newGrown (HN6.out.trans (by (repeat (first | (with_reducible exact New.refl _) | (with_reducible assumption) | ((with_reducible refine New.setB ?_ ?_ _); focus (first | omega | (simp; omega) | (simp; done))) | (with_reducible refine New.alloc ?_ _) | (with_reducible refine New.drew ?_) | (with_reducible refine New.drewN ?_ _) | (with_reducible refine New.hat ?_ _) | ((with_reducible apply New.snart); (with_reducible assumption)))))) hg7 (fun j hj => own_block HO6.out j hj))
              have n7 : New W0 W7 := HN7.out
              clear ho7 hg7 r0 r1 r2 r3 k0 k1 k2 k3 hol hzw
              go_wp2_with fail
              go_roundg (n - (i + 1))
              case measure => omega
              case rel => exact ⟨i + 1, o ++ [E], v7, false, rfl, rfl, by go_num, by omega, by omega, by simp only [List.length_append, List.length_cons, List.length_nil]; omega, HE2, HO7, HN7⟩
            · cases t3 : decide (0 < DZ)
              ·
                have HL : Hid (lt = false) := Lib.hid (by rw [HLB.out, t1, t2]; first | rfl | (rw [t3]; rfl))
                have HE2 : Hid ((o ++ [E]) ++ putGo c (l.drop (i + 1)) false = putGo c l false) := Lib.hid (by rw [← HE.out, HDN.out, HL.out]; simp)
                clear HDN HE HLB HL
                have hol : (o).length ≤ 250 := by (try simp only [List.length_append, List.length_cons, List.length_nil]); omega
                have hzw : W0.heap.size ≤ W6.heap.size := HN6.out.size
                go_wp2_with (at_builtin; refine wpList_append_own _ rfl _ _ 30 rfl W0.heap.size 39 i0 (.agg #[.int .i64 0, .int .i64 0, .int .i64 0, .int .i64 0]) 4 32 Try.underlying30 HI.out HZ0.out HZ1.out HZ2.out rfl (by decide) _ (o).length ((o).flatMap Co.enc) rfl (World.ownsRow.alloc HO6.out _) ⟨W6.heap.size, 0, none⟩ 1 1 E.enc rfl rfl (co_new _ _ _) (Co.enc_one E) (by unfold maxLen; omega) (by omega) (by simp; omega) ?_)
                intro v7 W7 ho7 hg7 _
                have HO7 : Hid (W7.ownsRow W0.heap.size 39 4 v7 (o ++ [E]).length ((o ++ [E]).flatMap Co.enc)) := Lib.hid (by rw [List.length_append, List.flatMap_append]; simpa using ho7)
                have HN7 : Hid (New W0 W7) := Lib.hid (newGrown (HN6.out.trans (by (repeat (first | (with_reducible exact New.refl _) | (with_reducible assumption) | ((with_reducible refine New.setB ?_ ?_ _); focus (first | omega | (simp; omega) | (simp; done))) | (with_reducible refine New.alloc ?_ _) | (with_reducible refine New.drew ?_) | (with_reducible refine New.drewN ?_ _) | (with_reducible refine New.hat ?_ _) | ((with_reducible apply New.snart); (with_reducible assumption)))))) hg7 (fun j hj => own_block HO6.out j hj))
                have n7 : New W0 W7 := HN7.out
                clear ho7 hg7 r0 r1 r2 r3 k0 k1 k2 k3 hol hzw
                go_wp2_with fail
                go_roundg (n - (i + 1))
                case measure => omega
                case rel => exact ⟨i + 1, o ++ [E], v7, false, rfl, rfl, by go_num, by omega, by omega, by simp only [List.length_append, List.length_cons, List.length_nil]; omega, HE2, HO7, HN7⟩
              ·
                have HL : Hid (lt = true) := Lib.hid (by rw [HLB.out, t1]; first | rfl | (rw [t2, t3]; rfl))
                have HE2 : Hid ((o ++ [c] ++ [E]) ++ putGo c (l.drop (i + 1)) true = putGo c l false) := Lib.hid (by rw [← HE.out, HDN.out, HL.out]; simp)
                clear HDN HE HLB HL
                have hol : (o).length ≤ 250 := by (try simp only [List.length_append, List.length_cons, List.length_nil]); omega
                have hzw : W0.heap.size ≤ W6.heap.size := HN6.out.size
                go_wp2_with (at_builtin; refine wpList_append_own _ rfl _ _ 30 rfl W0.heap.size 39 i0 (.agg #[.int .i64 0, .int .i64 0, .int .i64 0, .int .i64 0]) 4 32 Try.underlying30 HI.out HZ0.out HZ1.out HZ2.out rfl (by decide) _ (o).length ((o).flatMap Co.enc) rfl (World.ownsRow.alloc HO6.out _) ⟨W6.heap.size, 0, none⟩ 1 1 c.enc rfl rfl (co_new _ _ _) (Co.enc_one c) (by unfold maxLen; omega) (by omega) (by simp; omega) ?_)
                intro v7 W7 ho7 hg7 _
                have HO7 : Hid (W7.ownsRow W0.heap.size 39 4 v7 (o ++ [c]).length ((o ++ [c]).flatMap Co.enc)) := Lib.hid (by rw [List.length_append, List.flatMap_append]; simpa using ho7)
                have HN7 : Hid (New W0 W7) := Lib.hid (newGrown (HN6.out.trans (by (repeat (first | (with_reducible exact New.refl _) | (with_reducible assumption) | ((with_reducible refine New.setB ?_ ?_ _); focus (first | omega | (simp; omega) | (simp; done))) | (with_reducible refine New.alloc ?_ _) | (with_reducible refine New.drew ?_) | (with_reducible refine New.drewN ?_ _) | (with_reducible refine New.hat ?_ _) | ((with_reducible apply New.snart); (with_reducible assumption)))))) hg7 (fun j hj => own_block HO6.out j hj))
                have n7 : New W0 W7 := HN7.out
                have hrow2 := HA2.out.keep HN7.out
                replace r0 : W7.cell? ⟨g, off + i * 4, none⟩ = some (.int .i64 E.x) := by rw [hEL.out]; exact hrow2 i hil 0 (by rw [Co.enc_len]; omega)
                replace r1 : W7.cell? ⟨g, off + i * 4 + 1, none⟩ = some (.int .i64 E.z) := by rw [hEL.out]; exact hrow2 i hil 1 (by rw [Co.enc_len]; omega)
                replace r2 : W7.cell? ⟨g, off + i * 4 + 2, none⟩ = some (.int .i64 E.y) := by rw [hEL.out]; exact hrow2 i hil 2 (by rw [Co.enc_len]; omega)
                replace r3 : W7.cell? ⟨g, off + i * 4 + 3, none⟩ = some (.int .i64 E.d) := by rw [hEL.out]; exact hrow2 i hil 3 (by rw [Co.enc_len]; omega)
                have k0 := HN7.out.keep HKC.out.1
                have k1 := HN7.out.keep HKC.out.2.1
                have k2 := HN7.out.keep HKC.out.2.2.1
                have k3 := HN7.out.keep HKC.out.2.2.2
                clear ho7 hg7 hrow2 hol hzw
                have hol : (o ++ [c]).length ≤ 250 := by (try simp only [List.length_append, List.length_cons, List.length_nil]); omega
                have hzw : W0.heap.size ≤ W7.heap.size := HN7.out.size
                go_wp2_with (at_builtin; refine wpList_append_own _ rfl _ _ 30 rfl W0.heap.size 39 i0 (.agg #[.int .i64 0, .int .i64 0, .int .i64 0, .int .i64 0]) 4 32 Try.underlying30 HI.out HZ0.out HZ1.out HZ2.out rfl (by decide) _ (o ++ [c]).length ((o ++ [c]).flatMap Co.enc) rfl (World.ownsRow.alloc HO7.out _) ⟨W7.heap.size, 0, none⟩ 1 1 E.enc rfl rfl (co_new _ _ _) (Co.enc_one E) (by unfold maxLen; omega) (by omega) (by simp; omega) ?_)
                intro v8 W8 ho8 hg8 _
                have HO8 : Hid (W8.ownsRow W0.heap.size 39 4 v8 (o ++ [c] ++ [E]).length ((o ++ [c] ++ [E]).flatMap Co.enc)) := Lib.hid (by rw [List.length_append, List.flatMap_append]; simpa using ho8)
                have HN8 : Hid (New W0 W8) := Lib.hid (newGrown (HN7.out.trans (by (repeat (first | (with_reducible exact New.refl _) | (with_reducible assumption) | ((with_reducible refine New.setB ?_ ?_ _); focus (first | omega | (simp; omega) | (simp; done))) | (with_reducible refine New.alloc ?_ _) | (with_reducible refine New.drew ?_) | (with_reducible refine New.drewN ?_ _) | (with_reducible refine New.hat ?_ _) | ((with_reducible apply New.snart); (with_reducible assumption)))))) hg8 (fun j hj => own_block HO7.out j hj))
                have n8 : New W0 W8 := HN8.out
                clear ho8 hg8 r0 r1 r2 r3 k0 k1 k2 k3 hol hzw
                go_wp2_with fail
                go_roundg (n - (i + 1))
                case measure => omega
                case rel => exact ⟨i + 1, o ++ [c] ++ [E], v8, true, rfl, rfl, by go_num, by omega, by omega, by simp only [List.length_append, List.length_cons, List.length_nil]; omega, HE2, HO8, HN8⟩
          ·
            have HL : Hid (lt = true) := Lib.hid (by rw [HLB.out, t1]; first | rfl | (rw [t2, t3]; rfl))
            have HE2 : Hid ((o ++ [c] ++ [E]) ++ putGo c (l.drop (i + 1)) true = putGo c l false) := Lib.hid (by rw [← HE.out, HDN.out, HL.out]; simp)
            clear HDN HE HLB HL
            have hol : (o).length ≤ 250 := by (try simp only [List.length_append, List.length_cons, List.length_nil]); omega
            have hzw : W0.heap.size ≤ W6.heap.size := HN6.out.size
            go_wp2_with (at_builtin; refine wpList_append_own _ rfl _ _ 30 rfl W0.heap.size 39 i0 (.agg #[.int .i64 0, .int .i64 0, .int .i64 0, .int .i64 0]) 4 32 Try.underlying30 HI.out HZ0.out HZ1.out HZ2.out rfl (by decide) _ (o).length ((o).flatMap Co.enc) rfl (World.ownsRow.alloc HO6.out _) ⟨W6.heap.size, 0, none⟩ 1 1 c.enc rfl rfl (co_new _ _ _) (Co.enc_one c) (by unfold maxLen; omega) (by omega) (by simp; omega) ?_)
            intro v7 W7 ho7 hg7 _
            have HO7 : Hid (W7.ownsRow W0.heap.size 39 4 v7 (o ++ [c]).length ((o ++ [c]).flatMap Co.enc)) := Lib.hid (by rw [List.length_append, List.flatMap_append]; simpa using ho7)
            have HN7 : Hid (New W0 W7) := Lib.hid (newGrown (HN6.out.trans (by (repeat (first | (with_reducible exact New.refl _) | (with_reducible assumption) | ((with_reducible refine New.setB ?_ ?_ _); focus (first | omega | (simp; omega) | (simp; done))) | (with_reducible refine New.alloc ?_ _) | (with_reducible refine New.drew ?_) | (with_reducible refine New.drewN ?_ _) | (with_reducible refine New.hat ?_ _) | ((with_reducible apply New.snart); (with_reducible assumption)))))) hg7 (fun j hj => own_block HO6.out j hj))
            have n7 : New W0 W7 := HN7.out
            have hrow2 := HA2.out.keep HN7.out
            replace r0 : W7.cell? ⟨g, off + i * 4, none⟩ = some (.int .i64 E.x) := by rw [hEL.out]; exact hrow2 i hil 0 (by rw [Co.enc_len]; omega)
            replace r1 : W7.cell? ⟨g, off + i * 4 + 1, none⟩ = some (.int .i64 E.z) := by rw [hEL.out]; exact hrow2 i hil 1 (by rw [Co.enc_len]; omega)
            replace r2 : W7.cell? ⟨g, off + i * 4 + 2, none⟩ = some (.int .i64 E.y) := by rw [hEL.out]; exact hrow2 i hil 2 (by rw [Co.enc_len]; omega)
            replace r3 : W7.cell? ⟨g, off + i * 4 + 3, none⟩ = some (.int .i64 E.d) := by rw [hEL.out]; exact hrow2 i hil 3 (by rw [Co.enc_len]; omega)
            have k0 := HN7.out.keep HKC.out.1
            have k1 := HN7.out.keep HKC.out.2.1
            have k2 := HN7.out.keep HKC.out.2.2.1
            have k3 := HN7.out.keep HKC.out.2.2.2
            clear ho7 hg7 hrow2 hol hzw
            have hol : (o ++ [c]).length ≤ 250 := by (try simp only [List.length_append, List.length_cons, List.length_nil]); omega
            have hzw : W0.heap.size ≤ W7.heap.size := HN7.out.size
            go_wp2_with (at_builtin; refine wpList_append_own _ rfl _ _ 30 rfl W0.heap.size 39 i0 (.agg #[.int .i64 0, .int .i64 0, .int .i64 0, .int .i64 0]) 4 32 Try.underlying30 HI.out HZ0.out HZ1.out HZ2.out rfl (by decide) _ (o ++ [c]).length ((o ++ [c]).flatMap Co.enc) rfl (World.ownsRow.alloc HO7.out _) ⟨W7.heap.size, 0, none⟩ 1 1 E.enc rfl rfl (co_new _ _ _) (Co.enc_one E) (by unfold maxLen; omega) (by omega) (by simp; omega) ?_)
            intro v8 W8 ho8 hg8 _
            have HO8 : Hid (W8.ownsRow W0.heap.size 39 4 v8 (o ++ [c] ++ [E]).length ((o ++ [c] ++ [E]).flatMap Co.enc)) := Lib.hid (by rw [List.length_append, List.flatMap_append]; simpa using ho8)
            have HN8 : Hid (New W0 W8) := Lib.hid (newGrown (HN7.out.trans (by (repeat (first | (with_reducible exact New.refl _) | (with_reducible assumption) | ((with_reducible refine New.setB ?_ ?_ _); focus (first | omega | (simp; omega) | (simp; done))) | (with_reducible refine New.alloc ?_ _) | (with_reducible refine New.drew ?_) | (with_reducible refine New.drewN ?_ _) | (with_reducible refine New.hat ?_ _) | ((with_reducible apply New.snart); (with_reducible assumption)))))) hg8 (fun j hj => own_block HO7.out j hj))
            have n8 : New W0 W8 := HN8.out
            clear ho8 hg8 r0 r1 r2 r3 k0 k1 k2 k3 hol hzw
            go_wp2_with fail
            go_roundg (n - (i + 1))
            case measure => omega
            case rel => exact ⟨i + 1, o ++ [c] ++ [E], v8, true, rfl, rfl, by go_num, by omega, by omega, by simp only [List.length_append, List.length_cons, List.length_nil]; omega, HE2, HO8, HN8⟩
    · have e : i = n := by omega
      subst e
      have hdr : l.drop i = [] := by rw [HNL.out]; exact List.drop_length
      have k0 := HN.out.keep HKC.out.1
      have k1 := HN.out.keep HKC.out.2.1
      have k2 := HN.out.keep HKC.out.2.2.1
      have k3 := HN.out.keep HKC.out.2.2.2
      cases dn with
      | true =>
        have HE2 : Hid (o = putGo c l false) := Lib.hid (by rw [← HE.out, hdr]; simp [putGo])
        clear hdr HE k0 k1 k2 k3
        go_wp2_with fail
        go_ret
        exact ⟨_, rfl, by rw [← HE2.out]; exact own_sl Co.enc_len HO.out, HN0.out.trans HN.out⟩
      | false =>
        have HE2 : Hid (o ++ [c] = putGo c l false) := Lib.hid (by rw [← HE.out, hdr]; simp [putGo])
        clear hdr HE
        have hol : (o).length ≤ 250 := by (try simp only [List.length_append, List.length_cons, List.length_nil]); omega
        have hzw : W0.heap.size ≤ wr.heap.size := HN.out.size
        go_wp2_with (at_builtin; refine wpList_append_own _ rfl _ _ 30 rfl W0.heap.size 39 i0 (.agg #[.int .i64 0, .int .i64 0, .int .i64 0, .int .i64 0]) 4 32 Try.underlying30 HI.out HZ0.out HZ1.out HZ2.out rfl (by decide) _ (o).length ((o).flatMap Co.enc) rfl (World.ownsRow.alloc HO.out _) ⟨wr.heap.size, 0, none⟩ 1 1 c.enc rfl rfl (co_new _ _ _) (Co.enc_one c) (by unfold maxLen; omega) (by omega) (by simp; omega) ?_)
        intro v7 W7 ho7 hg7 _
        have HO7 : Hid (W7.ownsRow W0.heap.size 39 4 v7 (o ++ [c]).length ((o ++ [c]).flatMap Co.enc)) := Lib.hid (by rw [List.length_append, List.flatMap_append]; simpa using ho7)
        have HN7 : Hid (New W0 W7) := Lib.hid (newGrown (HN.out.trans (by (repeat (first | (with_reducible exact New.refl _) | (with_reducible assumption) | ((with_reducible refine New.setB ?_ ?_ _); focus (first | omega | (simp; omega) | (simp; done))) | (with_reducible refine New.alloc ?_ _) | (with_reducible refine New.drew ?_) | (with_reducible refine New.drewN ?_ _) | (with_reducible refine New.hat ?_ _) | ((with_reducible apply New.snart); (with_reducible assumption)))))) hg7 (fun j hj => own_block HO.out j hj))
        have n7 : New W0 W7 := HN7.out
        clear ho7 hg7 k0 k1 k2 k3 hol hzw
        go_wp2_with fail
        go_ret
        exact ⟨_, rfl, by rw [← HE2.out]; exact own_sl Co.enc_len HO7.out, HN0.out.trans HN7.out⟩

end Go.Proofs.Yteoongcajfcgcaa
