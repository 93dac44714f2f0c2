/- The document's own put: spans and a piece. -/
import Derived.Test.YtajigioibkhhmaaSpRa
import Derived.Test.YtajigioibkhhmaaSpCr
import Derived.Deep.LoopGhost
import Derived.Deep.DeepCutAuto
namespace Go.Proofs.Ytajigioibkhhmaa
open Go.RowKit
set_option linter.unusedVariables false

set_option maxHeartbeats 8000000 in
set_option maxRecDepth 100000 in
theorem rs_put (v : Value) (l : List Sn) (c : Sn) (w : World) (hs : Sl Sn.enc 3 w v l) (hl : l.length ≤ 1000) :
    Calls Try.prog 25 #[v, .agg #[.int .i64 c.lo, .int .i64 c.hi, .bool c.wk]] w fun e w' => ∃ v', e = .returned v' ∧ Sl Sn.enc 3 w' v' (putS c l false) ∧ New w w' := by
  obtain ⟨i0, hi, hz0, hz1, hz2⟩ := info_parts sn_info
  have HI := Lib.hid hi
  have HZ0 := Lib.hid hz0
  have HZ1 := Lib.hid hz1
  have HZ2 := Lib.hid hz2
  have KM := Lib.hid (fun p q W => r_meet p q W)
  have KJ := Lib.hid (fun p q W => r_join p q W)
  obtain ⟨at0, cap, rfl, hcap, hmax, -, hrow⟩ := hs
  have HR := Lib.hid hrow
  unfold maxLen at hmax
  obtain ⟨n, hn⟩ : ∃ n, n = l.length := ⟨_, rfl⟩
  rw [← hn] at hl hcap ⊢
  have HNL := Lib.hid hn
  clear hi hz0 hz1 hz2 hrow hn
  go_enter Try.func25, Try.ntmps25
  go_wp2_with fail
  refine Code.at (fun W0 hW => ?_)
  have P0 : PutSt w w.heap.size W0.heap.size W0 (.slice none 0 0) [] c := by
    subst hW
    exact ⟨by (repeat (first | (with_reducible exact New.refl _) | (with_reducible assumption) | ((with_reducible refine New.setB ?_ ?_ _); focus (first | omega | (simp; omega) | (simp; done))) | (with_reducible refine New.alloc ?_ _) | (with_reducible refine New.drew ?_) | (with_reducible refine New.drewN ?_ _) | (with_reducible refine New.hat ?_ _) | ((with_reducible apply New.snart); (with_reducible assumption)))), by simp, World.ownsRow_nil _ _ _ _, by go_simp, by go_simp, by go_simp, fun j hj => by go_simp⟩
  have HP0 := Lib.hid P0
  have HS : Hid ([] ++ putS c (l.drop 0) false = putS c l false) := Lib.hid (by rw [List.drop_zero]; rfl)
  obtain ⟨B, hB⟩ : ∃ B, B = w.heap.size := ⟨_, rfl⟩
  obtain ⟨base, hbase⟩ : ∃ base, base = W0.heap.size := ⟨_, rfl⟩
  rw [← hB, ← hbase] at HP0
  rw [← hB]
  clear hW P0 hB hbase
  go_loopg [5, 6, 7] n (fun gk s5 s6 s7 wr => ∃ (i : Nat) (o : List Sn) (u : Value) (s : Sn) (dn : Bool), u = s5 ∧ s6 = .bool dn ∧ s7 = .int .i64 i ∧ i ≤ n ∧ n - i ≤ gk ∧ o.length ≤ 2 * i ∧ Hid (o ++ putS s (l.drop i) dn = putS c l false) ∧ Hid (PutSt w B base wr u o s))
  case atStart => exact ⟨0, [], _, c, false, rfl, rfl, rfl, by omega, by omega, by simp, HS, HP0⟩
  case round =>
    clear HP0 HS
    obtain ⟨i, o, u, s, dn, rfl, rfl, rfl, hi, hgk, ho, HE, HP⟩ := hrel
    by_cases hlt : i < n
    · have hil : i < l.length := by rw [← HNL.out]; exact hlt
      obtain ⟨g, off, rfl, hA⟩ := HR.out (by omega)
      obtain ⟨r0, r1, r2⟩ := Sn.cells (hA.keep HP.out.new) i hil
      have HA := Lib.hid hA
      have HDR : Hid (l.drop i = l[i] :: l.drop (i + 1)) := Lib.hid (List.drop_eq_getElem_cons hil)
      obtain ⟨E, hE⟩ : ∃ E, E = l[i] := ⟨_, rfl⟩
      rw [← hE] at r0 r1 r2 HDR
      have HEE := Lib.hid hE
      clear hE hA
      have k0 := HP.out.c0
      have k1 := HP.out.c1
      have k2 := HP.out.c2
      cases hm : meets E s
      · have KC : Hid (∀ W, Calls Try.prog 33 #[.agg #[.int .i64 E.lo, .int .i64 E.hi, .bool E.wk], .agg #[.int .i64 s.lo, .int .i64 s.hi, .bool s.wk]] W fun e w' => e = .returned (.bool false) ∧ New W w') := Lib.hid (fun W => by rw [← hm]; exact KM.out E s W)
        have HM := Lib.hid hm
        clear hm
        go_upto_region 6 with fail
        (refine wp_region_hat (by kernel_rfl) (by kernel_rfl) ?_; intro hatc hatf; (repeat (go_big_quiet_step ((go_at_call 33; exact Calls.hat (KC.out _))))); refine wpQuiet_nil ?_; rintro _ ⟨X, rfl⟩)
        clear hatc hatf
        (replace r0 := New.keep X.h r0; replace r1 := New.keep X.h r1; replace r2 := New.keep X.h r2; replace k0 := New.keep X.h k0; replace k1 := New.keep X.h k1; replace k2 := New.keep X.h k2)
        have HP := Lib.hid (HP.out.keep X.h)
        generalize X.w = W6 at *
        clear X
        cases dn
        · by_cases hg : s.hi < E.lo
          · have hgd : decide (s.hi < E.lo) = true := decide_eq_true hg
            have HE2 : Hid (((o ++ [s]) ++ [E]) ++ putS s (l.drop (i + 1)) true = putS c l false) := Lib.hid (by
              rw [← HE.out, HDR.out, putS, HM.out]; simp [hg])
            clear HE hg
            go_upto_region 8 with fail
            (refine wp_region_hat (by kernel_rfl) (by kernel_rfl) ?_; intro hatc hatf; (repeat (go_big_quiet_step ((fail)))); refine wpQuiet_nil ?_; rintro _ ⟨X, rfl⟩)
            clear hatc hatf
            (replace r0 := New.keep X.h r0; replace r1 := New.keep X.h r1; replace r2 := New.keep X.h r2; replace k0 := New.keep X.h k0; replace k1 := New.keep X.h k1; replace k2 := New.keep X.h k2)
            have HP := Lib.hid (HP.out.keep X.h)
            generalize X.w = W6 at *
            clear X
            have hol : (o).length ≤ 2100 := by (try simp only [List.length_append, List.length_cons, List.length_nil]); omega
            have hzw : base ≤ _ := HP.out.lt.2.2
            go_wp2_with (at_builtin; refine wpList_append_own _ rfl _ _ 24 rfl base 37 i0 (.agg #[.int .i64 0, .int .i64 0, .bool false]) 3 24 Try.underlying24 HI.out HZ0.out HZ1.out HZ2.out rfl (by decide) _ (o).length ((o).flatMap Sn.enc) rfl (World.ownsRow.alloc HP.out.own _) ⟨_, 0, none⟩ 1 1 s.enc rfl rfl (sn_new _ _ _) (Sn.enc_one s) (by unfold maxLen; omega) (by omega) (by simp; omega) ?_)
            intro v7 W7 ho7 hg7 _
            have HP := Lib.hid ((HP.out.keep ((New.refl _).alloc _)).more ho7 hg7)
            have n7 : New w W7 := HP.out.new
            (obtain ⟨r0, r1, r2⟩ := Sn.cells (HA.out.keep n7) i hil)
            rw [← HEE.out] at r0 r1 r2
            clear hol hzw ho7 hg7 k0 k1 k2
            have k0 := HP.out.c0
            have k1 := HP.out.c1
            have k2 := HP.out.c2
            obtain ⟨o1, hO1⟩ : ∃ o1, o1 = o ++ [s] := ⟨_, rfl⟩
            rw [← hO1] at HP
            have hl1 : o1.length ≤ 2 * i + 1 := by rw [hO1]; simp; omega
            have HE3 : Hid ((o1 ++ [E]) ++ putS s (l.drop (i + 1)) true = putS c l false) := Lib.hid (by rw [hO1]; exact HE2.out)
            clear hO1 HE2
            have hol : (o1).length ≤ 2100 := by (try simp only [List.length_append, List.length_cons, List.length_nil]); omega
            have hzw : base ≤ _ := HP.out.lt.2.2
            go_wp2_with (at_builtin; refine wpList_append_own _ rfl _ _ 24 rfl base 37 i0 (.agg #[.int .i64 0, .int .i64 0, .bool false]) 3 24 Try.underlying24 HI.out HZ0.out HZ1.out HZ2.out rfl (by decide) _ (o1).length ((o1).flatMap Sn.enc) rfl (World.ownsRow.alloc HP.out.own _) ⟨_, 0, none⟩ 1 1 E.enc rfl rfl (sn_new _ _ _) (Sn.enc_one E) (by unfold maxLen; omega) (by omega) (by simp; omega) ?_)
            intro v7 W7 ho7 hg7 _
            have HP := Lib.hid ((HP.out.keep ((New.refl _).alloc _)).more ho7 hg7)
            clear hol hzw ho7 hg7 k0 k1 k2
            go_wp2_with fail
            go_roundg (n - (i + 1))
            case measure => omega
            case rel => exact ⟨i + 1, o1 ++ [E], _, s, true, rfl, rfl, by go_num, by omega, by omega, by simp only [List.length_append, List.length_cons, List.length_nil]; omega, HE3, HP⟩
          · have hgd : decide (s.hi < E.lo) = false := decide_eq_false hg
            have HE2 : Hid ((o ++ [E]) ++ putS s (l.drop (i + 1)) false = putS c l false) := Lib.hid (by
              rw [← HE.out, HDR.out, putS, HM.out]; simp [hg])
            clear HE hg
            go_upto_region 8 with fail
            (refine wp_region_hat (by kernel_rfl) (by kernel_rfl) ?_; intro hatc hatf; (repeat (go_big_quiet_step ((fail)))); refine wpQuiet_nil ?_; rintro _ ⟨X, rfl⟩)
            clear hatc hatf
            (replace r0 := New.keep X.h r0; replace r1 := New.keep X.h r1; replace r2 := New.keep X.h r2; replace k0 := New.keep X.h k0; replace k1 := New.keep X.h k1; replace k2 := New.keep X.h k2)
            have HP := Lib.hid (HP.out.keep X.h)
            generalize X.w = W6 at *
            clear X
            have hol : (o).length ≤ 2100 := by (try simp only [List.length_append, List.length_cons, List.length_nil]); omega
            have hzw : base ≤ _ := HP.out.lt.2.2
            go_wp2_with (at_builtin; refine wpList_append_own _ rfl _ _ 24 rfl base 37 i0 (.agg #[.int .i64 0, .int .i64 0, .bool false]) 3 24 Try.underlying24 HI.out HZ0.out HZ1.out HZ2.out rfl (by decide) _ (o).length ((o).flatMap Sn.enc) rfl (World.ownsRow.alloc HP.out.own _) ⟨_, 0, none⟩ 1 1 E.enc rfl rfl (sn_new _ _ _) (Sn.enc_one E) (by unfold maxLen; omega) (by omega) (by simp; omega) ?_)
            intro v7 W7 ho7 hg7 _
            have HP := Lib.hid ((HP.out.keep ((New.refl _).alloc _)).more ho7 hg7)
            clear hol hzw ho7 hg7 k0 k1 k2
            go_wp2_with fail
            go_roundg (n - (i + 1))
            case measure => omega
            case rel => exact ⟨i + 1, o ++ [E], _, s, false, rfl, rfl, by go_num, by omega, by omega, by simp only [List.length_append, List.length_cons, List.length_nil]; omega, HE2, HP⟩
        · have HE2 : Hid ((o ++ [E]) ++ putS s (l.drop (i + 1)) true = putS c l false) := Lib.hid (by
            rw [← HE.out, HDR.out, putS, HM.out]; simp)
          clear HE
          go_upto_region 8 with fail
          (refine wp_region_hat (by kernel_rfl) (by kernel_rfl) ?_; intro hatc hatf; (repeat (go_big_quiet_step ((fail)))); refine wpQuiet_nil ?_; rintro _ ⟨X, rfl⟩)
          clear hatc hatf
          (replace r0 := New.keep X.h r0; replace r1 := New.keep X.h r1; replace r2 := New.keep X.h r2; replace k0 := New.keep X.h k0; replace k1 := New.keep X.h k1; replace k2 := New.keep X.h k2)
          have HP := Lib.hid (HP.out.keep X.h)
          generalize X.w = W6 at *
          clear X
          have hol : (o).length ≤ 2100 := by (try simp only [List.length_append, List.length_cons, List.length_nil]); omega
          have hzw : base ≤ _ := HP.out.lt.2.2
          go_wp2_with (at_builtin; refine wpList_append_own _ rfl _ _ 24 rfl base 37 i0 (.agg #[.int .i64 0, .int .i64 0, .bool false]) 3 24 Try.underlying24 HI.out HZ0.out HZ1.out HZ2.out rfl (by decide) _ (o).length ((o).flatMap Sn.enc) rfl (World.ownsRow.alloc HP.out.own _) ⟨_, 0, none⟩ 1 1 E.enc rfl rfl (sn_new _ _ _) (Sn.enc_one E) (by unfold maxLen; omega) (by omega) (by simp; omega) ?_)
          intro v7 W7 ho7 hg7 _
          have HP := Lib.hid ((HP.out.keep ((New.refl _).alloc _)).more ho7 hg7)
          clear hol hzw ho7 hg7 k0 k1 k2
          go_wp2_with fail
          go_roundg (n - (i + 1))
          case measure => omega
          case rel => exact ⟨i + 1, o ++ [E], _, s, true, rfl, rfl, by go_num, by omega, by omega, by simp only [List.length_append, List.length_cons, List.length_nil]; omega, HE2, HP⟩
      · have KC : Hid (∀ W, Calls Try.prog 33 #[.agg #[.int .i64 E.lo, .int .i64 E.hi, .bool E.wk], .agg #[.int .i64 s.lo, .int .i64 s.hi, .bool s.wk]] W fun e w' => e = .returned (.bool true) ∧ New W w') := Lib.hid (fun W => by rw [← hm]; exact KM.out E s W)
        obtain ⟨U, hU⟩ : ∃ U, U = un E s := ⟨_, rfl⟩
        have KC2 : Hid (∀ W, Calls Try.prog 34 #[.agg #[.int .i64 E.lo, .int .i64 E.hi, .bool E.wk], .agg #[.int .i64 s.lo, .int .i64 s.hi, .bool s.wk]] W fun e w' => e = .returned (.agg #[.int .i64 U.lo, .int .i64 U.hi, .bool U.wk]) ∧ New W w') := Lib.hid (fun W => by rw [hU]; exact KJ.out E s W)
        have HE2 : Hid (o ++ putS U (l.drop (i + 1)) dn = putS c l false) := Lib.hid (by
          rw [← HE.out, HDR.out, putS, if_pos hm, hU])
        clear HE hm hU
        go_upto_region 6 with fail
        (refine wp_region_hat (by kernel_rfl) (by kernel_rfl) ?_; intro hatc hatf; (repeat (go_big_quiet_step ((go_at_call 33; exact Calls.hat (KC.out _))))); refine wpQuiet_nil ?_; rintro _ ⟨X, rfl⟩)
        clear hatc hatf
        (replace r0 := New.keep X.h r0; replace r1 := New.keep X.h r1; replace r2 := New.keep X.h r2; replace k0 := New.keep X.h k0; replace k1 := New.keep X.h k1; replace k2 := New.keep X.h k2)
        have HP := Lib.hid (HP.out.keep X.h)
        generalize X.w = W6 at *
        clear X
        go_upto_region 7 with fail
        (refine wp_region_steady 6 (by kernel_rfl) (by kernel_rfl) ?_; (intro hatc hatf; simp only [List.take_succ_cons, List.take_zero, List.drop_succ_cons, List.drop_zero]; (repeat (first | (refine mildWalk_made (by decide) ?_; simp only [Act.put, List.setIfInBounds_toArray, List.set_cons_zero, List.set_cons_succ]) | (refine mildWalk_step (by decide) (fun K hK => ?_); go_simp; first | (refine hK _ ?_; clear hK K) | (apply Exists.intro; refine ⟨fun _ => ?_, hK _ ?_⟩; (go_at_call 34; exact KC2.out _); clear hK K)))); refine mildWalk_nil ?_; (try simp only [List.setIfInBounds_toArray, List.set_cons_zero, List.set_cons_succ])))
        intro x
        clear hatc hatf
        have HP := Lib.hid (HP.out.keep x.h)
        generalize x.w = W3 at *
        clear r0 r1 r2 k0 k1 k2
        have HT := Lib.hid HP.out.there
        have HP := Lib.hid (HP.out.join U)
        go_wp2_with (refine wpList_store_mid rfl 37 _ _ rfl B 0 #[.int .i64 U.lo, .int .i64 U.hi, .bool U.wk] rfl rfl HT.out (by kernel_rfl) (all_oneCell_toArray (Sn.enc_one U)) ?_)
        clear HT
        go_wp2_with fail
        go_roundg (n - (i + 1))
        case measure => omega
        case rel => exact ⟨i + 1, o, _, U, dn, rfl, rfl, by go_num, by omega, by omega, by omega, HE2, HP⟩
    · have e : i = n := by omega
      subst e
      have hdr : l.drop i = [] := List.drop_eq_nil_of_le (by have := HNL.out; omega)
      have k0 := HP.out.c0
      have k1 := HP.out.c1
      have k2 := HP.out.c2
      cases dn
      · have HE2 : Hid (o ++ [s] = putS c l false) := Lib.hid (by rw [← HE.out, hdr]; rfl)
        clear HE hdr
        have hol : (o).length ≤ 2100 := by (try simp only [List.length_append, List.length_cons, List.length_nil]); omega
        have hzw : base ≤ _ := HP.out.lt.2.2
        go_wp2_with (at_builtin; refine wpList_append_own _ rfl _ _ 24 rfl base 37 i0 (.agg #[.int .i64 0, .int .i64 0, .bool false]) 3 24 Try.underlying24 HI.out HZ0.out HZ1.out HZ2.out rfl (by decide) _ (o).length ((o).flatMap Sn.enc) rfl (World.ownsRow.alloc HP.out.own _) ⟨_, 0, none⟩ 1 1 s.enc rfl rfl (sn_new _ _ _) (Sn.enc_one s) (by unfold maxLen; omega) (by omega) (by simp; omega) ?_)
        intro v7 W7 ho7 hg7 _
        have HP := Lib.hid ((HP.out.keep ((New.refl _).alloc _)).more ho7 hg7)
        clear hol hzw ho7 hg7 k0 k1 k2
        go_wp2_with fail
        go_ret
        exact ⟨_, rfl, by rw [← HE2.out]; exact own_sl Sn.enc_len HP.out.own, HP.out.new⟩
      · have HE2 : Hid (o = putS c l false) := Lib.hid (by rw [← HE.out, hdr]; simp [putS])
        clear HE hdr
        go_wp2_with fail
        go_ret
        exact ⟨_, rfl, by rw [← HE2.out]; exact own_sl Sn.enc_len HP.out.own, HP.out.new⟩

end Go.Proofs.Ytajigioibkhhmaa
