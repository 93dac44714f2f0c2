import Derived.Test.YtklopjbpfddgfaaFiFZ11
import Derived.Test.YtklopjbpfddgfaaOgAZ11
import Derived.Test.YtklopjbpfddgfaaRaL

/- Package open: what goes over a column's floors, as a contract by places: an iterator that itself ranges over the spans that are open. -/
namespace Go.Proofs.Ytklopjbpfddgfaa
open Go.RowKit Go.Shelf Go.Sort
set_option linter.unusedVariables false
attribute [local go_sem] Oper.semAt_some

/-- The floor on top of the k-th span. -/
def flOf (l : List Sn) (k : Nat) : Fl := ⟨(l[k]?.map (·.hi)).getD 0, roofF l k, 1⟩
theorem flOf_at {l : List Sn} {k : Nat} (h : k < l.length) : flOf l k = ⟨l[k].hi, roofF l k, 1⟩ := by unfold flOf; rw [List.getElem?_eq_getElem h]; rfl
/-- A column's floors. -/
def flX (C : CfgR) (l : List Sn) : List Fl := (opX C l).map (flOf l)
def flA (f : Fl) : Array Value := #[.agg #[.int .i64 f.y, .int .i64 f.top, .int .i64 f.area]]
theorem flX_len (C : CfgR) (l : List Sn) : (flX C l).length = (opX C l).length := List.length_map _
theorem flX_at {C : CfgR} {l : List Sn} {i : Nat} (h : i < (flX C l).length) : (flX C l)[i] = flOf l ((opX C l)[i]'(by rw [← flX_len]; exact h)) := by simp [flX]
theorem opX_in {C : CfgR} {l : List Sn} {i : Nat} (h : i < (opX C l).length) : fiE C l = 0 ∧ (opX C l)[i] < l.length := by
  have h0 : fiE C l = 0 := by
    by_cases h0 : fiE C l = 0
    · exact h0
    · unfold opX at h
      rw [if_neg h0] at h
      simp at h
  refine ⟨h0, ?_⟩
  have he : opX C l = opL C l := by unfold opX; rw [if_pos h0]
  have hm : (opX C l)[i] ∈ opL C l := by
    have := List.getElem_mem h
    generalize hx : (opX C l)[i] = x at *
    rw [he] at this
    exact this
  unfold opL at hm
  exact List.mem_range.1 (List.mem_filter.1 hm).1

/-- All blocks of cells of these types lie as they lay. -/
def KeepU (W W' : World) : Prop := ∀ (b : Nat) (cs : Array Value) (t : TypeId) (fr : Nat × Nat), (t = 49 ∨ t = 86 ∨ t = 54 ∨ t = 48 ∨ t = 84) → W.heap[b]? = some (Obj.cells cs t fr) → W'.heap[b]? = W.heap[b]?
theorem KeepU.refl (W : World) : KeepU W W := fun _ _ _ _ _ _ => rfl
theorem KeepU.trans {X Y Z : World} (h : KeepU X Y) (k : KeepU Y Z) : KeepU X Z := fun b cs t fr ht hb => (k b cs t fr ht ((h b cs t fr ht hb).trans hb)).trans (h b cs t fr ht hb)
theorem KeepU.put {W : World} {d : Nat} (o : Obj) (h : ∃ r, W.heap[d]? = some (.loop r)) : KeepU W (W.putObj d o) := fun b cs t fr ht hb => World.putObj_heap_other (fun e => by subst e; obtain ⟨r, hr⟩ := h; rw [hb] at hr; cases hr)
theorem KeepU.keepT {W W' : World} (h : KeepU W W') : KeepT W W' := fun b cs t fr ht hb => h b cs t fr (by rcases ht with rfl | rfl <;> simp) hb
theorem KeepU.laid {W W' : World} (h : KeepU W W') {b : Nat} (l : LaidT W b) : W'.heap[b]? = W.heap[b]? := by
  obtain ⟨cs, t, fr, h1, h2⟩ := l
  exact h b cs t fr (by rcases h2 with rfl | rfl | rfl | rfl <;> simp) h1
def KeepG (S : List Nat) (W W' : World) : Prop := KeepS S W W' ∧ KeepU W W'

/-- What the iterator holds. -/
structure FloAt (w : World) (C : CfgR) (Bc Bl : Nat) (at0 : Option Addr) (cap : Nat) (l : List Sn) : Prop where
  cfg : w.heap[Bc]? = some (.cells #[.int .i64 C.cl, .int .i64 C.cb, .int .i64 C.ht, .int .i64 C.ri, .int .i64 C.ru, .int .i64 C.wd, .int .i64 C.dp] 48 (0, 0))
  box : w.heap[Bl]? = some (.cells #[.slice at0 l.length cap] 49 (0, 0))
  row : Sl Sn.enc 3 w (.slice at0 l.length cap) l
def floS (Bc Bl : Nat) (at0 : Option Addr) (l : List Sn) : List Nat := [Bc, Bl, rowB l at0 Bl]
theorem FloAt.rb {w : World} {C : CfgR} {Bc Bl : Nat} {at0 : Option Addr} {cap : Nat} {l : List Sn} (h : FloAt w C Bc Bl at0 cap l) : RowBox w Bl at0 cap l := ⟨h.box, h.row.row'.2.2.2.2⟩
theorem FloAt.keep {w W : World} {C : CfgR} {Bc Bl : Nat} {at0 : Option Addr} {cap : Nat} {l : List Sn} (h : FloAt w C Bc Bl at0 cap l) (k : KeepS (floS Bc Bl at0 l) w W) : FloAt W C Bc Bl at0 cap l := by
  have r := h.rb.keep (W := W) ⟨k _ (by simp [floS]), k _ (by simp [floS])⟩
  obtain ⟨a, c, e, h1, h2, h3, h4⟩ := h.row
  injection e with e1 e2 e3
  subst e1 e3
  exact ⟨(k _ (by simp [floS])).trans h.cfg, r.box, _, _, rfl, h1, h2, h3, r.row⟩
theorem FloAt.cells {w : World} {C : CfgR} {Bc Bl : Nat} {at0 : Option Addr} {cap : Nat} {l : List Sn} (h : FloAt w C Bc Bl at0 cap l) : ∀ b ∈ floS Bc Bl at0 l, ∃ o : Obj, w.heap[b]? = some o ∧ o.isCells = true := by
  intro b hb
  simp only [floS, List.mem_cons, List.not_mem_nil, or_false] at hb
  rcases hb with rfl | rfl | rfl
  · exact ⟨_, h.cfg, rfl⟩
  · exact ⟨_, h.box, rfl⟩
  · exact h.rb.cells _ (by simp)
theorem FloAt.lt {w : World} {C : CfgR} {Bc Bl : Nat} {at0 : Option Addr} {cap : Nat} {l : List Sn} (h : FloAt w C Bc Bl at0 cap l) : ∀ b ∈ floS Bc Bl at0 l, b < w.heap.size := fun b hb => by
  obtain ⟨o, ho, -⟩ := h.cells b hb
  exact (Array.getElem?_eq_some_iff.1 ho).1

set_option maxHeartbeats 4000000 in
set_option maxRecDepth 100000 in
theorem og_floors1 (C : CfgR) (at0 : Option Addr) (l : List Sn) (cap Bc Bl : Nat) (n : Nat) (hn : 7 ≤ n) (w : World) (H : FloAt w C Bc Bl at0 cap l) :
    SeqL Fence.wide n Try.prog 38 #[.pointer (some ⟨Bc, 0, none⟩), .pointer (some ⟨Bl, 0, none⟩)] flA (flX C l) (KeepG (floS Bc Bl at0 l)) w := by
  intro lp J Jx W hW hJ hJx hY h0
  have E0 : FloAt W C Bc Bl at0 cap l := H.keep (KeepS.new H.lt hW)
  clear H hW
  simp only [List.append_toArray, List.cons_append, List.nil_append]
  refine callsIn_of_wp_marks Try.func38 rfl trivial ?_ rfl
  simp only [Try.ntmps38, List.size_toArray, List.length_cons, List.length_nil, Nat.reduceAdd, Nat.reduceSub, Array.replicate_succ, Array.replicate_zero, List.push_toArray, List.append_toArray, List.nil_append, List.cons_append]
  refine wpIn_wide.2 ?_
  have HY := Lib.hid hY
  have HJ := Lib.hid hJ
  have HJx := Lib.hid hJx
  have H0 : Hid (J 0 W) := h0
  have HE0 := Lib.hid E0
  clear hY hJ hJx h0 E0
  go_upto_region 1 with fail
  refine Code.at (fun V1 hV => ?_)
  have n1 : New W V1 := by subst hV; (repeat (first | (with_reducible exact New.refl _) | (with_reducible assumption) | ((with_reducible refine New.setB ?_ ?_ _); focus (first | omega | (simp; omega) | (simp; done))) | (with_reducible refine New.alloc ?_ _) | (with_reducible refine New.drew ?_) | (with_reducible refine New.drewN ?_ _) | (with_reducible refine New.hat ?_ _) | ((with_reducible apply New.snart); (with_reducible assumption))))
  have z1 : V1.heap.size = W.heap.size + 1 := by subst hV; simp
  have y1 : V1.heap[W.heap.size]? = some (.cells #[.func (.yield lp) #[] #[]] 84 (0, 0)) := by subst hV; exact World.alloc_heap_new _ _
  have J1 : J 0 V1 := by subst hV; exact HJ.out.alloc _ H0.out
  clear hV
  have E1 := HE0.out.keep (KeepS.new HE0.out.lt n1)
  obtain ⟨c0, c1, c2, c3, c4, c5, c6⟩ := CfgR.at (cfg_cells E1.cfg)
  have b0 := E1.rb.cell
  have KE := fi_each C at0 l cap V1 E1.row
  go_wp2_with fail
  refine KE.mono ?_
  rintro e V ⟨n2, g, lb, S, rfl, hSb, heg, hsq⟩
  have E2 := E1.keep (KeepS.new E1.lt n2)
  have y2 := New.stays n2 y1
  have J2 : J 0 V := own_over HJ.out J1 n2
  have hn2 : New W V := n1.trans n2
  have z2 := n2.size
  clear c0 c1 c2 c3 c4 c5 c6 b0 KE E1 n1 y1 J1 n2
  go_wp2_with fail
  refine (wpIn_wide (n := n)).1 ?_
  have h2s := hn2.size
  obtain ⟨S2, hS2⟩ : ∃ S2, S2 = W.heap.size :: (floS Bc Bl at0 l ++ S) := ⟨_, rfl⟩
  have hSo : ∀ b ∈ S2, ∃ o : Obj, V.heap[b]? = some o ∧ o.isCells = true := by
    intro b hb
    rw [hS2] at hb
    rcases List.mem_cons.1 hb with rfl | hb
    · exact ⟨_, y2, rfl⟩
    · rcases List.mem_append.1 hb with hb | hb
      · exact E2.cells b hb
      · obtain ⟨cs, t, fr, h1, -⟩ := (hSb b hb).2.2
        exact ⟨_, h1, rfl⟩
  have s0 : W.heap.size ∈ S2 := by rw [hS2]; simp
  have s1 : ∀ b ∈ floS Bc Bl at0 l, b ∈ S2 := fun b hb => by rw [hS2]; exact List.mem_cons_of_mem _ (List.mem_append_left _ hb)
  have s2 : ∀ b ∈ S, b ∈ S2 := fun b hb => by rw [hS2]; exact List.mem_cons_of_mem _ (List.mem_append_right _ hb)
  have s3 : ∀ b ∈ S2, b = W.heap.size ∨ b ∈ floS Bc Bl at0 l ∨ b ∈ S := fun b hb => by
    rw [hS2] at hb
    rcases List.mem_cons.1 hb with h | hb
    · exact .inl h
    · exact .inr (List.mem_append.1 hb)
  clear hS2
  refine wpIn_rangeL rfl (by omega) (gf := g) (lb := lb) rfl trivial heg (hsq (n - 1) (by omega)) (fun h k => ⟨h.1.trans k.1, h.2.trans k.2⟩)
    (fun U o hr => ⟨fun b hb => World.putObj_heap_other (by have := (hSb b hb).2; omega), KeepT.put o hr⟩) (Below.refl _ _) (fun _ => rfl)
    (fun i U => J i U ∧ KeepS S2 V U)
    (fun q i U => q = Code.ret ∧ ∃ j, (0 < j ∧ j ≤ (flX C l).length) ∧ Jx j U)
    (OwnFrom.and (own_up id HJ.out h2s) (own_keepS hSo))
    (fun q => OwnFrom.and (own_pure _ _) (fun s X Y row hs hg hr => by
      obtain ⟨j, hj, hs⟩ := hs
      exact ⟨j, hj, HJx.out j X Y row hs hg (fun r e => ⟨Nat.le_trans h2s (hr r e).1, (hr r e).2⟩)⟩))
    ⟨J2, KeepS.refl _⟩
    (fun i a' _ => ∃ k : Nat, (opX C l)[i]? = some k ∧ a' = { tmps := #[.func (.yield lp) #[] #[], .pointer (some ⟨Bc, 0, none⟩), .pointer (some ⟨Bl, 0, none⟩), .pointer (some ⟨W.heap.size, 0, none⟩), .int .i64 (k : Nat), .int .i64 (roofF l k), .agg #[.int .i64 C.cl, .int .i64 C.cb, .int .i64 C.ht, .int .i64 C.ri, .int .i64 C.ru, .int .i64 C.wd, .int .i64 C.dp], .slice at0 l.length cap, .func (.func g) #[] lb, .int .i64 (k : Nat), .int .i64 (roofF l k), undef, undef, undef, undef, undef, undef, undef, undef, undef, undef], defers := [] })
    (fun i a' => fun _ _ _ _ hs _ _ => hs) ?assign ?body ?done ?stop
  case assign =>
    intro i hi U K hI hK
    generalize hk : (opX C l)[i] = k
    simp only [roomE]
    simp only [List.zip_toArray, List.zip_cons_cons, List.zip_nil_right, List.foldl_toArray', List.foldl_cons, List.foldl_nil, List.setIfInBounds_toArray, List.set_cons_succ, List.set_cons_zero, List.size_toArray, List.length_cons, List.length_nil]
    gi_wp2
    exact hK _ _ (KeepsFrom.refl _ _) ⟨KeepS.refl _, KeepT.refl _⟩ hI ⟨k, by rw [List.getElem?_eq_getElem hi, hk], rfl⟩
  case body =>
    rintro i hi a' U - ⟨hJ1, hK⟩ ⟨k, hk, rfl⟩
    have hn1 : 1 ≤ n - 1 - 1 := by omega
    have hn2' : 1 ≤ n - 1 - 1 - 1 := by omega
    have hkl : k < l.length := by
      have h := (opX_in hi).2
      have : (opX C l)[i] = k := by rw [List.getElem?_eq_getElem hi] at hk; exact Option.some.inj hk
      rwa [this] at h
    have E := E2.keep (fun b hb => hK b (s1 b hb))
    have yc := (show Boxed U _ _ _ from (hK W.heap.size s0).trans y2).cell
    have bc := E.rb.cell
    obtain ⟨b0, off, ha, hA⟩ := E.rb.row (by omega)
    subst ha
    obtain ⟨d0, d1, d2⟩ := Sn.cells hA k hkl
    have hfi : i < (flX C l).length := by rw [flX_len]; exact hi
    have hfe : (flX C l)[i] = ⟨l[k].hi, roofF l k, 1⟩ := by
      have : (opX C l)[i] = k := by rw [List.getElem?_eq_getElem hi] at hk; exact Option.some.inj hk
      rw [flX_at, this, flOf_at hkl]
    have hyall := fun V3 q => HY.out i hfi V3 q
    rw [hfe] at hyall
    have HYA := Lib.hid hyall
    have HJ1 := Lib.hid hJ1
    have HKK := Lib.hid hK
    obtain ⟨hy2, hhy⟩ : ∃ q, q = l[k].hi := ⟨_, rfl⟩
    rw [← hhy] at d1 HYA
    obtain ⟨rf, hrf⟩ : ∃ q, q = roofF l k := ⟨_, rfl⟩
    rw [← hrf] at HYA ⊢
    have HFI := Lib.hid hfi
    clear hyall hJ1 hK H0 HE0 E hA d0 d2 hhy hrf hfe hk hfi
    generalize l.length = m at *
    have bcd : U.drew.cell? ⟨Bl, 0, none⟩ = some (.slice (some ⟨b0, off, none⟩) m cap) := bc
    have ycd : U.drew.cell? ⟨W.heap.size, 0, none⟩ = some (.func (.yield lp) #[] #[]) := yc
    have d1d : U.drew.cell? ⟨b0, off + k * 3 + 1, none⟩ = some (.int .i64 hy2) := d1
    clear bc yc d1
    gi_wp2_with fail
    refine wpIn_region_loose 8 (fun _ w1 w2 => w2 = w1) (fun _ w1 => w1 = U.drew) (fun i w' v => match i with
      | 0 => v = .func (.yield lp) #[] #[] ∧ w' = U.drew
      | 1 => v = .slice (some ⟨b0, off, none⟩) m cap
      | 2 => v = .int .i64 (k : Nat)
      | 3 => v = .pointer (some ⟨b0, off + k * 3, none⟩)
      | 4 => v = .pointer (some ⟨b0, off + k * 3 + 1, none⟩)
      | 5 => v = .int .i64 hy2
      | 6 => v = .int .i64 rf
      | 7 => v = .agg #[.int .i64 hy2, .int .i64 rf, .int .i64 1]
      | _ => True) (by kernel_rfl) (by kernel_rfl) (by kernel_rfl) ?_ ?_ ?_ ?_ ?_
    · rintro i j' w1 w2 v hij h rfl
      exact h
    · rfl
    · rintro listed j' w1 w2 hj' hs h rfl
      exact h
    · intro i o listed hi ho hls a' w' hKK hr hd
      subst hKK
      rcases (show i = 0 ∨ i = 1 ∨ i = 2 ∨ i = 3 ∨ i = 4 ∨ i = 5 ∨ i = 6 ∨ i = 7 by omega) with rfl | rfl | rfl | rfl | rfl | rfl | rfl | rfl <;> obtain rfl := Option.some.inj ho
      · have r3 : (a'.tmps[3]?).getD undef = .pointer (some ⟨W.heap.size, 0, none⟩) := (eval_get a' 3).symm.trans (hr 3 (by kernel_rfl))
        exact ⟨_, _, by go_simp, rfl, rfl, rfl⟩
      · have r2 : (a'.tmps[2]?).getD undef = .pointer (some ⟨Bl, 0, none⟩) := (eval_get a' 2).symm.trans (hr 2 (by kernel_rfl))
        exact ⟨_, _, by go_simp, rfl, rfl⟩
      · have r4 : (a'.tmps[4]?).getD undef = .int .i64 (k : Nat) := (eval_get a' 4).symm.trans (hr 4 (by kernel_rfl))
        exact ⟨_, _, by go_simp, rfl, rfl⟩
      · have r12 : (a'.tmps[12]?).getD undef = .slice (some ⟨b0, off, none⟩) m cap := (eval_get a' 12).symm.trans (hd 1 12 (by omega) (by kernel_rfl) (by kernel_rfl))
        have r13 : (a'.tmps[13]?).getD undef = .int .i64 (k : Nat) := (eval_get a' 13).symm.trans (hd 2 13 (by omega) (by kernel_rfl) (by kernel_rfl))
        exact ⟨_, _, by go_simp, rfl, rfl⟩
      · have r14 : (a'.tmps[14]?).getD undef = .pointer (some ⟨b0, off + k * 3, none⟩) := (eval_get a' 14).symm.trans (hd 3 14 (by omega) (by kernel_rfl) (by kernel_rfl))
        exact ⟨_, _, by go_simp, rfl, rfl⟩
      · have r15 : (a'.tmps[15]?).getD undef = .pointer (some ⟨b0, off + k * 3 + 1, none⟩) := (eval_get a' 15).symm.trans (hd 4 15 (by omega) (by kernel_rfl) (by kernel_rfl))
        exact ⟨_, _, by go_simp, rfl, rfl⟩
      · have r5 : (a'.tmps[5]?).getD undef = .int .i64 rf := (eval_get a' 5).symm.trans (hr 5 (by kernel_rfl))
        exact ⟨_, _, by go_simp, rfl, rfl⟩
      · have r16 : (a'.tmps[16]?).getD undef = .int .i64 hy2 := (eval_get a' 16).symm.trans (hd 5 16 (by omega) (by kernel_rfl) (by kernel_rfl))
        have r17 : (a'.tmps[17]?).getD undef = .int .i64 rf := (eval_get a' 17).symm.trans (hd 6 17 (by omega) (by kernel_rfl) (by kernel_rfl))
        exact ⟨_, _, by go_simp, rfl, rfl⟩
    · intro vs w' hv'
      obtain ⟨e0, rfl⟩ := hv' 0 (by omega)
      have e1 := hv' 1 (by omega)
      have e2 := hv' 2 (by omega)
      have e3 := hv' 3 (by omega)
      have e4 := hv' 4 (by omega)
      have e5 := hv' 5 (by omega)
      have e6 := hv' 6 (by omega)
      have e7 := hv' 7 (by omega)
      simp only [] at e0 e1 e2 e3 e4 e5 e6 e7
      clear hv'
      simp only [List.take_succ_cons, List.take_zero, List.drop_succ_cons, List.drop_zero, putL, Act.put, List.setIfInBounds_toArray, List.set_cons_zero, List.set_cons_succ, Nat.reduceAdd, Nat.zero_add]
      rw [e0, e1, e2, e3, e4, e5, e6, e7]
      clear e0 e1 e2 e3 e4 e5 e6 e7 bcd ycd d1d
      have nU : New U U.drew := (New.refl _).drew
      have hJ2 := own_over HJ.out HJ1.out nU
      have hlt : ∀ b ∈ S2, b < U.heap.size := fun b hb => by
        obtain ⟨o, ho, -⟩ := hSo b hb
        exact (Array.getElem?_eq_some_iff.1 ((HKK.out b hb).trans ho)).1
      have hK2 : KeepS S2 V U.drew := HKK.out.trans (KeepS.new hlt nU)
      have KO0 : Hid (KeepO S U U.drew) := Lib.hid ⟨KeepS.new (fun b hb => hlt b (s2 b hb)) nU, fun b cs t fr ht hb => nU.block b (Array.getElem?_eq_some_iff.1 hb).1⟩
      have HN := Lib.hid nU
      clear nU HKK HJ1 hlt
      generalize U.drew = U2 at *
      have HJ2 := Lib.hid hJ2
      have HK2 := Lib.hid hK2
      have hyz := HYA.out U2 HJ2.out
      unfold flA at hyz
      simp only at hyz
      obtain ⟨fn, tmps, assign, body, hy, hR⟩ := hyz
      clear hJ2 hK2 HYA
      gi_wp2_with fail
      refine (roundIn_in hR).mono ?_
      clear hy hR
      have u2 : ∀ U3, KeepsFrom W.heap.size U2 U3 → KeepsFrom V.heap.size U U3 := fun U3 kf => (keepsFrom_new HN.out).trans (keepsFrom_up kf h2s)
      rintro e U3 (⟨rfl, kf, ko, hJ4⟩ | ⟨rfl, kf, hJ4⟩)
      · have k4 : KeepS S2 U2 U3 := fun b hb => by
          rcases s3 b hb with rfl | h | h
          · exact ko.2 _ _ _ _ (.inr (.inr (.inr (.inr rfl)))) ((HK2.out _ hb).trans y2)
          · exact ko.1 b h
          · obtain ⟨cs, t, fr, h1, h2⟩ := (hSb b h).2.2
            exact ko.2.laid ⟨cs, t, fr, (HK2.out _ hb).trans h1, h2⟩
        have HO : Hid (KeepO S U U3) := Lib.hid ⟨KO0.out.1.trans (fun b hb => k4 b (s2 b hb)), KO0.out.2.trans ko.2.keepT⟩
        have HF := Lib.hid (u2 _ kf)
        have HJ4 := Lib.hid hJ4
        have HK4 := Lib.hid (HK2.out.trans k4)
        clear hJ4 kf ko k4 u2
        gi_wp2_with fail
        exact ⟨HF.out, HO.out, HJ4.out, HK4.out⟩
      · have HJ4 : Hid (∃ j, (0 < j ∧ j ≤ (flX C l).length) ∧ Jx j U3) := Lib.hid ⟨_, ⟨by omega, HFI.out⟩, hJ4⟩
        have HF := Lib.hid (u2 _ kf)
        clear hJ4 kf u2
        gi_wp2_with fail
        exact ⟨HF.out, rfl, HJ4.out⟩
  case done =>
    rintro U ⟨hJ1, hK⟩ hD
    rw [← flX_len] at hJ1
    have HJ1 : Hid (J (flX C l).length U) := hJ1
    clear hJ1
    go_wp2_with fail
    refine ret_mark hD fun U2 hU hk => ⟨_, results_none rfl _ _ _, ⟨_, rfl⟩, .inl ?_⟩
    rw [hU]
    exact HJ.out.putObj _ HJ1.out h2s hD rfl
  case stop =>
    rintro i q U hi0 hi1 ⟨rfl, j, hj, hJ1⟩ hD
    refine wpIn_wide.2 ?_
    have HJ1 := Lib.hid hJ1
    clear hJ1
    go_wp2_with fail
    refine ret_mark hD fun U2 hU hk => ⟨_, results_none rfl _ _ _, ⟨_, rfl⟩, .inr ⟨j, hj.1, hj.2, ?_⟩⟩
    rw [hU]
    exact HJx.out.putObj _ HJ1.out h2s hD rfl

end Go.Proofs.Ytklopjbpfddgfaa
