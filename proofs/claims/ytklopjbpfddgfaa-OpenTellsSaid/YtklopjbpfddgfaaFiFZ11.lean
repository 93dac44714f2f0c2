import Derived.Test.YtklopjbpfddgfaaFiEZ11

/- Package filter: Each. -/
namespace Go.Proofs.Ytklopjbpfddgfaa
open Go.RowKit Go.Shelf Go.Sort
set_option linter.unusedVariables false
attribute [local go_sem] Oper.semAt_some

theorem run_store_func {P : Program} {a : Addr} {f : _root_.Go.Fn} {x y : Array Value} {m : Mode} {w : World} : (store a (.func f x y) m).run P w = stored P w a (.func f x y) m := run_store P w a _ m rfl
attribute [local go_sem] run_store_func

/-- What Each goes over. -/
def opX (C : CfgR) (l : List Sn) : List Nat := if fiE C l = 0 then opL C l else []

theorem fi_each1 (enc : Nat → Array Value) (Kp : World → World → Prop) (n : Nat) (w : World) : SeqL Fence.wide n Try.prog 41 #[] enc [] Kp w := by
  intro lp J Jx W hW hJ hJx hY h0
  simp only [List.append_toArray, List.cons_append, List.nil_append]
  refine callsIn_of_wp Try.func41 rfl trivial ?_ rfl
  simp only [Try.ntmps41, List.size_toArray, List.length_cons, List.length_nil, Nat.reduceAdd, Nat.reduceSub, Array.replicate_succ, Array.replicate_zero, List.push_toArray, List.append_toArray, List.nil_append, List.cons_append]
  have H0 : Hid (J 0 W) := h0
  clear h0
  gi_wp2_with fail
  go_end0
  exact ⟨⟨_, rfl⟩, .inl H0.out⟩

/-- What blocks an iterator lays: variables, a row of spans. -/
def LaidT (w : World) (b : Nat) : Prop := ∃ cs t fr, w.heap[b]? = some (.cells cs t fr) ∧ (t = 49 ∨ t = 86 ∨ t = 54 ∨ t = 48)
theorem LaidT.new {w w' : World} {b : Nat} (h : LaidT w b) (n : New w w') : LaidT w' b := by
  obtain ⟨cs, t, fr, h1, h2⟩ := h
  exact ⟨cs, t, fr, (n.block b (Array.getElem?_eq_some_iff.1 h1).1).trans h1, h2⟩
/-- What Each answers: a function that goes over the places of open spans. -/
def Eached (C : CfgR) (l : List Sn) (w : World) (e : Ending) (w' : World) : Prop :=
  New w w' ∧ ∃ (g : Nat) (lb : Array Value) (S : List Nat), e = .returned (.func (.func g) #[] lb) ∧ (∀ b ∈ S, w.heap.size ≤ b ∧ b < w'.heap.size ∧ LaidT w' b) ∧ (∀ args W, (callFunc g args).run Try.prog W = .ok (.enter g args) W) ∧ ∀ n, 4 ≤ n → SeqL Fence.wide n Try.prog g lb (roomE l) (opX C l) (KeepO S) w'

set_option maxHeartbeats 2000000 in
set_option maxRecDepth 100000 in
theorem fi_each (C : CfgR) (at0 : Option Addr) (l : List Sn) (c : Nat) (w : World) (h : Sl Sn.enc 3 w (.slice at0 l.length c) l) :
    Calls Try.prog 36 #[.agg #[.int .i64 C.cl, .int .i64 C.cb, .int .i64 C.ht, .int .i64 C.ri, .int .i64 C.ru, .int .i64 C.wd, .int .i64 C.dp], .slice at0 l.length c] w (Eached C l w) := by
  have hlm : l.length ≤ maxLen := by obtain ⟨_, h1, h2, _⟩ := h.row'; omega
  have KF := Lib.hid (fun W n => fi_check C at0 l c hlm W ((h.keep (n : New w W)).row'.2.2.2.2))
  have HS := Lib.hid h
  obtain ⟨r, hr⟩ : ∃ r, r = fiE C l := ⟨_, rfl⟩
  rw [← hr] at KF
  have HR := Lib.hid hr
  have h3 := fiE_three C l
  rw [← hr] at h3
  clear hr hlm h
  obtain ⟨Q, hQ⟩ : ∃ Q, Q = Eached C l w := ⟨_, rfl⟩
  rw [← hQ]
  have HQ := Lib.hid hQ
  clear hQ
  go_enter Try.func36, Try.ntmps36
  go_upto_region 1 with fail
  refine Code.at (fun W0 hW => ?_)
  have n0 : New w W0 := by subst hW; (repeat (first | (with_reducible exact New.refl _) | (with_reducible assumption) | ((with_reducible refine New.setB ?_ ?_ _); focus (first | omega | (simp; omega) | (simp; done))) | (with_reducible refine New.alloc ?_ _) | (with_reducible refine New.drew ?_) | (with_reducible refine New.drewN ?_ _) | (with_reducible refine New.hat ?_ _) | ((with_reducible apply New.snart); (with_reducible assumption))))
  have z0 : W0.heap.size = w.heap.size + 1 := by subst hW; simp
  have x0 : W0.heap[w.heap.size]? = some (.cells #[.int .i64 C.cl, .int .i64 C.cb, .int .i64 C.ht, .int .i64 C.ri, .int .i64 C.ru, .int .i64 C.wd, .int .i64 C.dp] 48 (0, 0)) := by subst hW; exact World.alloc_heap_new _ _
  clear hW
  obtain ⟨c0, c1, c2, c3, c4, c5, c6⟩ := CfgR.at (cfg_cells x0)
  go_wp2_with fail
  refine (KF.out _ n0).mono ?_
  rintro e W1 ⟨rfl, n1⟩
  have x1 := New.stays n1 x0
  have hn1 : New w W1 := n0.trans n1
  clear c0 c1 c2 c3 c4 c5 c6 x0 n1 z0 n0
  rcases h3 with rfl | h3
  · have KL := Lib.hid (fun hl => fi_clone at0 l c hl W1 (HS.out.keep hn1))
    have hl8 : l.length ≤ 8 := (chkE_zero (fiE_ok HR.out.symm).2).1
    go_wp2_with fail
    refine (KL.out (by omega)).mono ?_
    rintro e W2 ⟨a, d, rfl, hSl, n2, hab⟩
    have x2 := New.stays n2 x1
    have hn2 : New w W2 := hn1.trans n2
    have hwc : w.heap.size < W1.heap.size := (Array.getElem?_eq_some_iff.1 x1).1
    have HSl := Lib.hid hSl
    have HAB := Lib.hid hab
    have z2 := n2.size
    clear n2 x1 hSl hab
    go_wp2_with fail
    rw [HQ.out]
    show Eached C l w (.returned (.func (.func 45) #[] #[.pointer (some ⟨W2.heap.size, 0, none⟩), .pointer (some ⟨W2.heap.size + 1, 0, none⟩)])) _
    obtain ⟨U, hU⟩ : ∃ U, U = (W2.alloc (.cells #[.slice a l.length d] 49)).alloc (.cells #[.func (.func 43) #[] #[.pointer (some ⟨W2.heap.size, 0, none⟩), .pointer (some ⟨w.heap.size, 0, none⟩)]] 86) := ⟨_, rfl⟩
    rw [← hU]
    have nU : New W2 U := by subst hU; (repeat (first | (with_reducible exact New.refl _) | (with_reducible assumption) | ((with_reducible refine New.setB ?_ ?_ _); focus (first | omega | (simp; omega) | (simp; done))) | (with_reducible refine New.alloc ?_ _) | (with_reducible refine New.drew ?_) | (with_reducible refine New.drewN ?_ _) | (with_reducible refine New.hat ?_ _) | ((with_reducible apply New.snart); (with_reducible assumption))))
    have bx : U.heap[W2.heap.size]? = some (.cells #[.slice a l.length d] 49 (0, 0)) := by subst hU; exact (((New.refl _).alloc _)).stays (World.alloc_heap_new W2 _)
    have fx : U.heap[W2.heap.size + 1]? = some (.cells #[.func (.func 43) #[] #[.pointer (some ⟨W2.heap.size, 0, none⟩), .pointer (some ⟨w.heap.size, 0, none⟩)]] 86 (0, 0)) := by
      subst hU
      have h := World.alloc_heap_new (W2.alloc (.cells #[.slice a l.length d] 49)) (.cells #[.func (.func 43) #[] #[.pointer (some ⟨W2.heap.size, 0, none⟩), .pointer (some ⟨w.heap.size, 0, none⟩)]] 86)
      rw [World.size_alloc] at h
      exact h
    have E : FEachAt U C W2.heap.size (W2.heap.size + 1) w.heap.size a d l := ⟨⟨bx, (HSl.out.keep nU).row'.2.2.2.2⟩, fx, New.stays nU x2⟩
    refine ⟨hn2.trans nU, _, _, eachS W2.heap.size (W2.heap.size + 1) w.heap.size a l, rfl, fun b hb => ⟨?_, E.lt b hb, ?_⟩, enters_of Try.func45 (by kernel_rfl) rfl, fun n hn => by unfold opX; rw [if_pos HR.out.symm]; exact fi_each3 C a l d _ _ _ (by omega) n hn U E⟩
    all_goals simp only [eachS, List.mem_cons, List.not_mem_nil, or_false] at hb
    · rcases hb with rfl | rfl | rfl | rfl
      · omega
      · cases l with
        | nil => show w.heap.size ≤ W2.heap.size; omega
        | cons x xs => cases a with
          | none => show w.heap.size ≤ W2.heap.size; omega
          | some ad => have := (HAB.out ad rfl).1; show w.heap.size ≤ ad.block; omega
      · omega
      · omega
    · rcases hb with rfl | rfl | rfl | rfl
      · exact ⟨_, _, _, bx, .inl rfl⟩
      · cases l with
        | nil => exact ⟨_, _, _, bx, .inl rfl⟩
        | cons x xs => cases a with
          | none => exact ⟨_, _, _, bx, .inl rfl⟩
          | some ad =>
            obtain ⟨-, cs, fr, hcs⟩ := HAB.out ad rfl
            exact LaidT.new ⟨_, _, _, hcs, .inr (.inr (.inl rfl))⟩ nU
      · exact ⟨_, _, _, fx, .inr (.inl rfl)⟩
      · exact ⟨_, _, _, New.stays nU x2, .inr (.inr (.inr rfl))⟩
  · have hne : (r != 0) = true := by rcases h3 with rfl | rfl <;> rfl
    have hr0 : fiE C l ≠ 0 := by rw [← HR.out]; rcases h3 with rfl | rfl <;> decide
    clear h3
    go_wp2_with fail
    rw [HQ.out]
    exact ⟨hn1, _, #[], [], rfl, fun b hb => (by cases hb), enters_of Try.func41 (by kernel_rfl) rfl, fun n hn => by unfold opX; rw [if_neg hr0]; exact fi_each1 _ _ _ _⟩

end Go.Proofs.Ytklopjbpfddgfaa
