/- The law SpansAny. -/
import Derived.Test.YtekdajoglekejaaSpZ
import Derived.Test.YtekdajoglekejaaSpT
import Derived.Deep.LoopGhost
import Derived.Deep.DeepCutAuto
namespace Go.Proofs.Ytekdajoglekejaa
open Go.RowKit
set_option linter.unusedVariables false

/-- Merge, told flat. -/
theorem k_flat (at0 : Option Addr) (l : List Sn) (c : Nat) (hl : l.length ≤ 1000) (w : World) (h : Sl Sn.enc 3 w (.slice at0 l.length c) l) :
    Calls Try.prog 9 #[.slice at0 l.length c] w fun e w' => New w w' ∧ ∃ (R : List Sn) (a : Option Addr) (c : Nat) (r : Int), MR l R r ∧ R.length ≤ l.length ∧ e = .returned (.tuple #[.slice a R.length c, .int .i64 r]) ∧ Sl Sn.enc 3 w' (.slice a R.length c) R :=
  (k_merge at0 l c hl w h).mono fun _ _ hm => hm.flat
/-- The head and the tail of a slice that is cut. -/
theorem sl_head {at0 : Option Addr} {l : List Sn} {c : Nat} {w : World} (h : Sl Sn.enc 3 w (.slice at0 l.length c) l) (k : Nat) (hk : k ≤ l.length) : Sl Sn.enc 3 w (.slice at0 k c) (l.take k) := by
  obtain ⟨_, h1, h2, h3, h4⟩ := h.row'
  have e : (l.take k).length = k := by simp; omega
  exact ⟨at0, c, by rw [e], by omega, h2, h3, h4.take k⟩
theorem sl_tail {a : Addr} {l : List Sn} {c : Nat} {w : World} (h : Sl Sn.enc 3 w (.slice (some a) l.length c) l) (k : Nat) (hk : k ≤ l.length) : Sl Sn.enc 3 w (.slice (if c = k then some a else some (a.add (k * 3))) (l.length - k) (c - k)) (l.drop k) := by
  obtain ⟨_, h1, h2, h3, h4⟩ := h.row'
  have e : (l.drop k).length = l.length - k := by simp
  refine ⟨if c = k then some a else some (a.add (k * 3)), c - k, by rw [e], by omega, by omega, fun q => ?_, fun h0 => ?_⟩
  · split at q <;> cases q
  · obtain ⟨b, off, q, hA⟩ := h4 (by omega)
    injection q with q
    subst q
    rw [if_neg (by omega)]
    exact ⟨b, off + k * 3, by rw [add_none], hA.drop k⟩

set_option maxHeartbeats 8000000 in
set_option maxRecDepth 100000 in
theorem l_any_some (a0 : Addr) (bt0 : Option Addr) (l : List Sn) (o : List Int) (c d : Nat) (cut y : Int) (w : World) (h : Sl Sn.enc 3 w (.slice (some a0) l.length c) l) (h' : Sl encI 1 w (.slice bt0 o.length d) o) :
    Calls Try.prog 5 #[.slice (some a0) l.length c, .slice bt0 o.length d, .int .i64 cut, .int .i64 y] w fun e w' => e = .returned (.bool true) ∧ New w w' := by
  obtain ⟨i0, hi, hz0, hz1, hz2⟩ := info_parts sn_info
  have HI := Lib.hid hi
  have HZ0 := Lib.hid hz0
  have HZ1 := Lib.hid hz1
  have HZ2 := Lib.hid hz2
  have KW := Lib.hid (fun W => s_wakes W)
  have hlm : l.length ≤ maxLen := by obtain ⟨_, h1, h2, _⟩ := h.row'; omega
  have KM := Lib.hid (fun hl W n => k_flat (some a0) l c hl W (h.keep (n : New w W)))
  have KV := Lib.hid (fun hl W n => s_moved (some a0) bt0 l o c d hl W (h.keep (n : New w W)) (h'.keep n))
  have HH := Lib.hid (fun k hk W n => sl_head (h.keep (n : New w W)) k hk)
  have HT := Lib.hid (fun k hk W n => sl_tail (h.keep (n : New w W)) k hk)
  have HR := Lib.hid h.row'.2.2.2.2
  have HC := Lib.hid h.row'.2.1
  clear h h' hi hz0 hz1 hz2
  unfold maxLen at hlm
  obtain ⟨n, hn⟩ : ∃ n, n = l.length := ⟨_, rfl⟩
  rw [← hn] at hlm KM KV HC HH HT ⊢
  have HN := Lib.hid hn
  clear hn
  go_enter Try.func5, Try.ntmps5
  go_wp2_with fail
  · rename_i hl
    refine (KW.out _).mono ?_
    rintro e w1 ⟨rfl, n1⟩
    have hn := New.trans (by (repeat (first | (with_reducible exact New.refl _) | (with_reducible assumption) | ((with_reducible refine New.setB ?_ ?_ _); focus (first | omega | (simp; omega) | (simp; done))) | (with_reducible refine New.alloc ?_ _) | (with_reducible refine New.drew ?_) | (with_reducible refine New.drewN ?_ _) | (with_reducible refine New.hat ?_ _) | ((with_reducible apply New.snart); (with_reducible assumption)))) : New w _) n1
    clear n1
    go_wp2_with fail
    go_ret
    exact ⟨rfl, hn⟩
  · rename_i hl
    have hl60 : n ≤ 60 := by omega

    refine (KM.out (by omega) _ (by (repeat (first | (with_reducible exact New.refl _) | (with_reducible assumption) | ((with_reducible refine New.setB ?_ ?_ _); focus (first | omega | (simp; omega) | (simp; done))) | (with_reducible refine New.alloc ?_ _) | (with_reducible refine New.drew ?_) | (with_reducible refine New.drewN ?_ _) | (with_reducible refine New.hat ?_ _) | ((with_reducible apply New.snart); (with_reducible assumption)))))).mono ?_
    rintro e w1 ⟨n1, R, a1, c1, r, hR, hRl, rfl, h1⟩
    have H1 := Lib.hid (And.intro hR h1)
    have HN1 := Lib.hid n1
    clear hR h1 n1
    go_wp2_with fail
    refine (KV.out (by omega) _ HN1.out).mono ?_
    rintro e w2 ⟨m, v, rfl, hm, hp, n2⟩
    obtain ⟨a2, c2, rfl, hm2⟩ : ∃ a2 c2, v = .slice a2 m.length c2 ∧ Sl Sn.enc 3 w2 (.slice a2 m.length c2) m := by
      obtain ⟨a2, c2, e, q⟩ := id hm
      exact ⟨a2, c2, e, by rw [← e]; exact hm⟩
    have hml : m.length ≤ 1000 := by rw [hp.length_eq, ← HN.out]; omega
    have KM2 := Lib.hid (k_flat a2 m c2 hml w2 hm2)
    have HP := Lib.hid hp
    have HN2 := Lib.hid n2
    generalize m.length = ml at *
    clear hm hp n2 hm2
    go_wp2_with fail
    refine KM2.out.mono ?_
    rintro e w3 ⟨n3, R', a3, c3, r', hR', hRl', rfl, h3⟩
    obtain ⟨e1, e2⟩ := (hR'.perm HP.out).uniq H1.out.1
    subst e1 e2
    have H3 := Lib.hid h3
    have HN3 := Lib.hid n3
    clear hR' h3 n3
    rcases H1.out.1.two with rfl | rfl
    rotate_left
    · go_wp2_with fail
      refine (KW.out _).mono ?_
      rintro e w4 ⟨rfl, n4⟩
      have hn := ((HN1.out.trans HN2.out).trans HN3.out).trans n4
      clear n4
      go_wp2_with fail
      go_ret
      exact ⟨rfl, hn⟩
    · obtain ⟨hw1, k, hk, hkc⟩ := cut_of cut n hl60
      obtain ⟨hIS, hFI⟩ := H1.out.1.ok rfl
      have HIS := Lib.hid hIS
      have HFI := Lib.hid hFI
      have HFT : Hid (Fine (l.take k)) := Lib.hid (fun p hp => hFI p (List.mem_of_mem_take hp))
      have hn3 : New w w3 := (HN1.out.trans HN2.out).trans HN3.out
      have hsh := HH.out k hk w3 hn3
      have htl : (l.take k).length = k := by rw [List.length_take, ← HN.out]; omega
      have KM4 := Lib.hid (k_flat (some a0) (l.take k) c (by rw [htl]; omega) w3 (by rw [htl]; exact hsh))
      rw [htl] at KM4
      have HN3b := Lib.hid hn3
      have hkc2 : k ≤ c := by have := HC.out; omega
      clear hIS hFI hsh htl hn3
      go_wp2_with fail
      refine KM4.out.mono ?_
      rintro e w4 ⟨n4, P, a4, c4, r4, hP, hPl, rfl, h4⟩
      obtain ⟨hP1, rfl⟩ := hP.is HFT.out
      have HPI := Lib.hid hP1
      have hPl2 : P.length ≤ k := hPl
      have HN4 := Lib.hid (HN3b.out.trans n4)
      have N34 := Lib.hid n4
      have h4' := Lib.hid h4
      clear hP hP1 n4 h4 hPl KM4
      have hP60 : P.length ≤ 60 := by omega
      go_wp2_with (at_builtin; refine wpList_append_sl rfl _ _ 22 rfl Sn.enc_len Sn.enc_one w4.heap.size 31 i0 (.agg #[.int .i64 0, .int .i64 0, .bool false]) 24 Try.underlying22 HI.out HZ0.out HZ1.out HZ2.out rfl (by decide) (.slice none 0 0) [] rfl (World.ownsRow_nil _ _ _ _) _ P rfl h4'.out (by unfold maxLen; simp; omega) (by simp; omega) (Nat.le_refl _) ?_)
      intro v5 W5 hown5 hnew5 _
      change W5.ownsRow _ _ _ _ P.length (P.flatMap Sn.enc) at hown5
      have n5 : New w4 W5 := hnew5 w4 (New.refl _) (Nat.le_refl _)
      obtain ⟨a5, c5, N5, hN5, rfl⟩ := own_shape2 hown5
      have OW5 := Lib.hid hown5
      have HN5 := Lib.hid (HN4.out.trans n5)
      have N45 := Lib.hid n5
      have HN5l := Lib.hid hN5
      have hs5 : w4.heap.size ≤ W5.heap.size := n5.size
      clear hown5 hnew5 n5 hN5
      by_cases hck : c = k
      · have hcn : n = c := by have := HC.out; omega
        subst hcn
        have hkn : n = k := by omega
        subst hkn
        have hdl : (l.drop n).length ≤ 60 := by rw [List.length_drop, ← HN.out]; omega
        go_wp2_with (at_builtin; refine wpList_append_sl rfl _ _ 22 rfl Sn.enc_len Sn.enc_one w4.heap.size 31 i0 (.agg #[.int .i64 0, .int .i64 0, .bool false]) 24 Try.underlying22 HI.out HZ0.out HZ1.out HZ2.out rfl (by decide) (.slice a5 N5 c5) P rfl OW5.out _ (l.drop n) rfl (by rw [show l.drop n = [] from List.drop_eq_nil_of_le (by have := HN.out; omega)]; exact ⟨some a0, 0, rfl, Nat.le_refl _, by unfold maxLen; omega, fun h => (by cases h), RowIn.nil⟩) (by unfold maxLen; omega) (by omega) hs5 ?_)
        intro v6 W6 hown6 hnew6 _
        have n6 : New w4 W6 := hnew6 w4 N45.out (Nat.le_refl _)
        have hown6 : W6.ownsRow w4.heap.size 31 3 v6 (P ++ l.drop n).length ((P ++ l.drop n).flatMap Sn.enc) := by rw [List.length_append, List.length_drop, List.flatMap_append]; exact hown6
        obtain ⟨a6, c6, N6, hN6, rfl⟩ := own_shape2 hown6
        have h6 := own_sl Sn.enc_len hown6
        rw [hN6] at h6
        have KM6 := Lib.hid (k_flat a6 (P ++ l.drop n) c6 (by rw [List.length_append]; omega) W6 h6)
        rw [← hN6] at KM6
        have HN6 := Lib.hid (HN4.out.trans n6)
        have N46 := Lib.hid n6
        clear hown6 hnew6 n6 h6 hN6 hs5
        go_wp2_with fail
        refine KM6.out.mono ?_
        rintro e w7 ⟨n7, C, a7, c7, r7, hC, hCl, rfl, h7⟩
        have hfi : Fine (P ++ l.drop n) := fun p hp => by
          rcases List.mem_append.1 hp with q | q
          · exact HPI.out.fine HFT.out p q
          · exact HFI.out p (List.mem_of_mem_drop q)
        obtain ⟨hC1, rfl⟩ := hC.is hfi
        have hC2 := IsM.parts HFT.out.proper HPI.out hC1
        rw [List.take_append_drop] at hC2
        obtain rfl : R' = C := (hC2.uniq HFI.out.proper HIS.out (fun p => Iff.rfl)).symm
        have N37 := N34.out.trans (N46.out.trans n7)
        have N17 := (HN2.out.trans HN3.out).trans N37
        have HN7 := Lib.hid (HN6.out.trans n7)
        have hRs : R'.length ≤ 60 := by have := HN.out; omega
        have KM8 := Lib.hid (k_flat a1 R' c1 (by omega) w7 (H1.out.2.keep N17))
        have HS7 := Lib.hid (And.intro (H1.out.2.keep N17) (And.intro (H3.out.keep N37) h7))
        clear hC hCl h7 n7 hfi hC1 hC2 KM6 N37 N17 H1 H3 HN6 HN5 HN4 HN3b HN1 HN2 HN3 N34 N46 N45 OW5 HPI HFT h4' KM KV KM2 HH HT
        go_wp2_with fail
        refine KM8.out.mono ?_
        rintro e w8 ⟨n8, D, a8, c8, r8, hD, hDl, rfl, h8⟩
        obtain ⟨hD1, rfl⟩ := hD.is (HIS.out.fine HFI.out)
        obtain rfl : R' = D := (hD1.uniq (HIS.out.fine HFI.out).proper (IsM.self HIS.out.sep HIS.out.fit) (fun p => Iff.rfl)).symm
        have HN8 := Lib.hid (HN7.out.trans n8)
        have KE1 := Lib.hid (fun W n => k_same a1 a3 R' R' c1 c3 (by omega) (by omega) W ((HS7.out.1.keep n8).keep (n : New w8 W)) ((HS7.out.2.1.keep n8).keep n))
        have KE2 := Lib.hid (fun W n => k_same a1 a7 R' R' c1 c7 (by omega) (by omega) W ((HS7.out.1.keep n8).keep (n : New w8 W)) ((HS7.out.2.2.keep n8).keep n))
        have KE3 := Lib.hid (fun W n => k_same a1 a8 R' R' c1 c8 (by omega) (by omega) W ((HS7.out.1.keep n8).keep (n : New w8 W)) (h8.keep n))
        simp only [allEq_self] at KE1 KE2 KE3
        have HA := Lib.hid ((HS7.out.1.keep n8).row'.2.2.2.2)
        obtain ⟨mr, hmr⟩ : ∃ mr, mr = R'.length := ⟨_, rfl⟩
        rw [← hmr] at KE1 KE2 KE3 hRs ⊢
        have HMR := Lib.hid hmr
        clear hD hDl h8 n8 hD1 KM8 HS7 HN7 hmr
        go_wp2_with fail
        refine (KE1.out _ (New.refl _)).mono ?_
        rintro e w9 ⟨rfl, n9⟩
        go_wp2_with fail
        refine (KE2.out _ n9).mono ?_
        rintro e wa ⟨rfl, na⟩
        have n9a := n9.trans na
        clear n9 na
        go_wp2_with fail
        refine (KE3.out _ n9a).mono ?_
        rintro e wb ⟨rfl, nb⟩
        have N8 := Lib.hid (n9a.trans nb)
        clear n9a nb KE1 KE2 KE3
        go_wp2_with fail
        go_loopg [21, 23] n (fun gk s21 s23 wr => ∃ (j : Nat) (b : Bool), s21 = .bool b ∧ s23 = .int .i64 j ∧ j ≤ n ∧ n - j ≤ gk ∧ Hid (b = (l.take j).any (hasS y)) ∧ Hid (New wb wr))
        case atStart => exact ⟨0, false, rfl, rfl, by omega, by omega, Lib.hid (by simp), Lib.hid (New.refl _)⟩
        case round =>
          obtain ⟨j, b, rfl, rfl, hj, hgk, HB, hnr⟩ := hrel
          by_cases hlt : j < n
          · have hjl : j < l.length := by rw [← HN.out]; exact hlt
            obtain ⟨be, oe, hbe, hE⟩ := HR.out (by omega)
            injection hbe with hbe
            subst hbe
            obtain ⟨e0, e1, e2⟩ := Sn.cells (hE.keep ((HN8.out.trans N8.out).trans hnr.out)) j hjl
            obtain ⟨E, hEE⟩ : ∃ E, E = l[j] := ⟨_, rfl⟩
            rw [← hEE] at e0 e1 e2
            obtain ⟨t1, ht1⟩ : ∃ t, decide (E.lo ≤ y) = t := ⟨_, rfl⟩
            obtain ⟨t2, ht2⟩ : ∃ t, decide (y ≤ E.hi) = t := ⟨_, rfl⟩
            have HBB : Hid ((b || (t1 && t2)) = (l.take (j + 1)).any (hasS y)) := Lib.hid (by rw [any_succ _ _ _ hjl, ← HB.out, ← hEE, ← ht1, ← ht2]; rfl)
            clear hEE hE HB e2
            cases b <;> cases t1 <;> cases t2
            all_goals
              go_wp2_with fail
              go_roundg (n - (j + 1))
              case measure => omega
              case rel => exact ⟨j + 1, _, rfl, by go_num, by omega, by omega, HBB, hnr⟩
          · have e : j = n := by omega
            subst e
            have hb : b = fstB (hasS y) l := by have := HB.out; rw [HN.out, List.take_length] at this; exact this
            have HBF : Hid (R'.countP (hasS y) = if b = true then 1 else 0) := Lib.hid (by rw [sep_count HIS.out.sep y, HIS.out.height HFI.out.proper y, ← hb])
            clear hb HB
            go_wp2_with fail
            go_loopg [22, 24] mr (fun gk s22 s24 wq => ∃ (i ct : Nat), s22 = .int .i64 ct ∧ s24 = .int .i64 i ∧ i ≤ mr ∧ mr - i ≤ gk ∧ ct ≤ i ∧ Hid (ct = (R'.take i).countP (hasS y)) ∧ Hid (New wb wq))
            case atStart => exact ⟨0, 0, rfl, rfl, by omega, by omega, by omega, Lib.hid (by simp), hnr⟩
            case round =>
              obtain ⟨i, ct, rfl, rfl, hi, hgk, hct, HCT, hnq⟩ := hrel
              by_cases hlt : i < mr
              · have him : i < R'.length := by rw [← HMR.out]; exact hlt
                obtain ⟨bq, oq, hbq, hQ⟩ := HA.out (by omega)
                subst hbq
                have hQ' := hQ.keep (N8.out.trans hnq.out)
                obtain ⟨q0, q1, q2⟩ := Sn.cells hQ' i him
                obtain ⟨t1, ht1⟩ : ∃ t, decide (R'[i].lo ≤ y) = t := ⟨_, rfl⟩
                obtain ⟨t2, ht2⟩ : ∃ t, decide (y ≤ R'[i].hi) = t := ⟨_, rfl⟩
                have HCC : Hid (ct + (if (t1 && t2) = true then 1 else 0) = (R'.take (i + 1)).countP (hasS y)) := Lib.hid (by rw [count_succ _ _ _ him, ← HCT.out, ← ht1, ← ht2]; rfl)
                obtain ⟨q, hq⟩ : ∃ q, q = R'[i] := ⟨_, rfl⟩
                have hlo : Hid (q.lo = R'[i].lo) := Lib.hid (by rw [hq])
                rw [← hq] at q0 q1 q2 ht1 ht2
                clear hQ hq HCT q2
                by_cases hi0 : i = 0
                · have hgt : decide (0 < i) = false := decide_eq_false (by omega)
                  clear hQ' hi0
                  cases t1 <;> cases t2
                  all_goals
                    go_upto_region 28 with fail
                    (refine wp_region_hat (by kernel_rfl) (by kernel_rfl) ?_; intro hatc hatf; (repeat (go_big_quiet_step ((fail)))); refine wpQuiet_nil ?_; rintro _ ⟨X, rfl⟩)
                    clear hatc hatf
                    have hnq2 := Lib.hid (hnq.out.trans X.h)
                    generalize X.w = W2 at *
                    clear X
                    go_wp2_with fail
                    go_roundg (mr - (i + 1))
                    case measure => omega
                    case rel => exact ⟨i + 1, _, by first | rfl | go_num, by go_num, by omega, by omega, by simp; omega, HCC, hnq2⟩
                · have hgt : decide (0 < i) = true := decide_eq_true (by omega)
                  obtain ⟨p0, p1, p2⟩ := Sn.cells hQ' (i - 1) (by omega)
                  have hz : IntKind.i64.wrap ((i : Int) - 1) = ((i - 1 : Nat) : Int) := by rw [IntWalk.i64_in _ (by omega)]; omega
                  have hlt2 : i - 1 < mr := by omega
                  have hsp := List.pairwise_iff_getElem.1 HIS.out.sep (i - 1) i (by omega) him (by omega)
                  obtain ⟨z, hzz⟩ : ∃ z, z = R'[i - 1].hi := ⟨_, rfl⟩
                  rw [← hzz, ← hlo.out] at hsp
                  rw [← hzz] at p1
                  have hno : decide (q.lo ≤ z) = false := decide_eq_false (by omega)
                  clear hQ' hi0 hsp hzz p0 p2
                  cases t1 <;> cases t2
                  all_goals
                    go_upto_region 28 with fail
                    (refine wp_region_hat (by kernel_rfl) (by kernel_rfl) ?_; intro hatc hatf; (repeat (go_big_quiet_step ((fail)))); refine wpQuiet_nil ?_; rintro _ ⟨X, rfl⟩)
                    clear hatc hatf
                    have hnq2 := Lib.hid (hnq.out.trans X.h)
                    generalize X.w = W2 at *
                    clear X
                    go_wp2_with fail
                    go_roundg (mr - (i + 1))
                    case measure => omega
                    case rel => exact ⟨i + 1, _, by first | rfl | go_num, by go_num, by omega, by omega, by simp; omega, HCC, hnq2⟩
              · have e : i = mr := by omega
                subst e
                have hct2 : ct = if b = true then 1 else 0 := by have := HCT.out; rw [HMR.out, List.take_length, HBF.out] at this; exact this
                clear HCT
                cases b
                all_goals
                  obtain rfl := hct2
                  go_wp2_with fail
                  refine (KW.out _).mono ?_
                  rintro e we ⟨rfl, ne⟩
                  have hn := ((HN8.out.trans N8.out).trans hnq.out).trans ne
                  clear ne
                  go_wp2_with fail
                  go_ret
                  exact ⟨rfl, hn⟩
      · have hdl : (l.drop k).length ≤ 60 := by rw [List.length_drop, ← HN.out]; omega
        go_wp2_with (at_builtin; refine wpList_append_sl rfl _ _ 22 rfl Sn.enc_len Sn.enc_one w4.heap.size 31 i0 (.agg #[.int .i64 0, .int .i64 0, .bool false]) 24 Try.underlying22 HI.out HZ0.out HZ1.out HZ2.out rfl (by decide) (.slice a5 N5 c5) P rfl OW5.out _ (l.drop k) rfl (by have := HT.out k hk W5 HN5.out; rwa [if_neg hck] at this) (by unfold maxLen; omega) (by omega) hs5 ?_)
        intro v6 W6 hown6 hnew6 _
        have n6 : New w4 W6 := hnew6 w4 N45.out (Nat.le_refl _)
        have hown6 : W6.ownsRow w4.heap.size 31 3 v6 (P ++ l.drop k).length ((P ++ l.drop k).flatMap Sn.enc) := by rw [List.length_append, List.length_drop, List.flatMap_append]; exact hown6
        obtain ⟨a6, c6, N6, hN6, rfl⟩ := own_shape2 hown6
        have h6 := own_sl Sn.enc_len hown6
        rw [hN6] at h6
        have KM6 := Lib.hid (k_flat a6 (P ++ l.drop k) c6 (by rw [List.length_append]; omega) W6 h6)
        rw [← hN6] at KM6
        have HN6 := Lib.hid (HN4.out.trans n6)
        have N46 := Lib.hid n6
        clear hown6 hnew6 n6 h6 hN6 hs5
        go_wp2_with fail
        refine KM6.out.mono ?_
        rintro e w7 ⟨n7, C, a7, c7, r7, hC, hCl, rfl, h7⟩
        have hfi : Fine (P ++ l.drop k) := fun p hp => by
          rcases List.mem_append.1 hp with q | q
          · exact HPI.out.fine HFT.out p q
          · exact HFI.out p (List.mem_of_mem_drop q)
        obtain ⟨hC1, rfl⟩ := hC.is hfi
        have hC2 := IsM.parts HFT.out.proper HPI.out hC1
        rw [List.take_append_drop] at hC2
        obtain rfl : R' = C := (hC2.uniq HFI.out.proper HIS.out (fun p => Iff.rfl)).symm
        have N37 := N34.out.trans (N46.out.trans n7)
        have N17 := (HN2.out.trans HN3.out).trans N37
        have HN7 := Lib.hid (HN6.out.trans n7)
        have hRs : R'.length ≤ 60 := by have := HN.out; omega
        have KM8 := Lib.hid (k_flat a1 R' c1 (by omega) w7 (H1.out.2.keep N17))
        have HS7 := Lib.hid (And.intro (H1.out.2.keep N17) (And.intro (H3.out.keep N37) h7))
        clear hC hCl h7 n7 hfi hC1 hC2 KM6 N37 N17 H1 H3 HN6 HN5 HN4 HN3b HN1 HN2 HN3 N34 N46 N45 OW5 HPI HFT h4' KM KV KM2 HH HT
        go_wp2_with fail
        refine KM8.out.mono ?_
        rintro e w8 ⟨n8, D, a8, c8, r8, hD, hDl, rfl, h8⟩
        obtain ⟨hD1, rfl⟩ := hD.is (HIS.out.fine HFI.out)
        obtain rfl : R' = D := (hD1.uniq (HIS.out.fine HFI.out).proper (IsM.self HIS.out.sep HIS.out.fit) (fun p => Iff.rfl)).symm
        have HN8 := Lib.hid (HN7.out.trans n8)
        have KE1 := Lib.hid (fun W n => k_same a1 a3 R' R' c1 c3 (by omega) (by omega) W ((HS7.out.1.keep n8).keep (n : New w8 W)) ((HS7.out.2.1.keep n8).keep n))
        have KE2 := Lib.hid (fun W n => k_same a1 a7 R' R' c1 c7 (by omega) (by omega) W ((HS7.out.1.keep n8).keep (n : New w8 W)) ((HS7.out.2.2.keep n8).keep n))
        have KE3 := Lib.hid (fun W n => k_same a1 a8 R' R' c1 c8 (by omega) (by omega) W ((HS7.out.1.keep n8).keep (n : New w8 W)) (h8.keep n))
        simp only [allEq_self] at KE1 KE2 KE3
        have HA := Lib.hid ((HS7.out.1.keep n8).row'.2.2.2.2)
        obtain ⟨mr, hmr⟩ : ∃ mr, mr = R'.length := ⟨_, rfl⟩
        rw [← hmr] at KE1 KE2 KE3 hRs ⊢
        have HMR := Lib.hid hmr
        clear hD hDl h8 n8 hD1 KM8 HS7 HN7 hmr
        go_wp2_with fail
        refine (KE1.out _ (New.refl _)).mono ?_
        rintro e w9 ⟨rfl, n9⟩
        go_wp2_with fail
        refine (KE2.out _ n9).mono ?_
        rintro e wa ⟨rfl, na⟩
        have n9a := n9.trans na
        clear n9 na
        go_wp2_with fail
        refine (KE3.out _ n9a).mono ?_
        rintro e wb ⟨rfl, nb⟩
        have N8 := Lib.hid (n9a.trans nb)
        clear n9a nb KE1 KE2 KE3
        go_wp2_with fail
        go_loopg [21, 23] n (fun gk s21 s23 wr => ∃ (j : Nat) (b : Bool), s21 = .bool b ∧ s23 = .int .i64 j ∧ j ≤ n ∧ n - j ≤ gk ∧ Hid (b = (l.take j).any (hasS y)) ∧ Hid (New wb wr))
        case atStart => exact ⟨0, false, rfl, rfl, by omega, by omega, Lib.hid (by simp), Lib.hid (New.refl _)⟩
        case round =>
          obtain ⟨j, b, rfl, rfl, hj, hgk, HB, hnr⟩ := hrel
          by_cases hlt : j < n
          · have hjl : j < l.length := by rw [← HN.out]; exact hlt
            obtain ⟨be, oe, hbe, hE⟩ := HR.out (by omega)
            injection hbe with hbe
            subst hbe
            obtain ⟨e0, e1, e2⟩ := Sn.cells (hE.keep ((HN8.out.trans N8.out).trans hnr.out)) j hjl
            obtain ⟨E, hEE⟩ : ∃ E, E = l[j] := ⟨_, rfl⟩
            rw [← hEE] at e0 e1 e2
            obtain ⟨t1, ht1⟩ : ∃ t, decide (E.lo ≤ y) = t := ⟨_, rfl⟩
            obtain ⟨t2, ht2⟩ : ∃ t, decide (y ≤ E.hi) = t := ⟨_, rfl⟩
            have HBB : Hid ((b || (t1 && t2)) = (l.take (j + 1)).any (hasS y)) := Lib.hid (by rw [any_succ _ _ _ hjl, ← HB.out, ← hEE, ← ht1, ← ht2]; rfl)
            clear hEE hE HB e2
            cases b <;> cases t1 <;> cases t2
            all_goals
              go_wp2_with fail
              go_roundg (n - (j + 1))
              case measure => omega
              case rel => exact ⟨j + 1, _, rfl, by go_num, by omega, by omega, HBB, hnr⟩
          · have e : j = n := by omega
            subst e
            have hb : b = fstB (hasS y) l := by have := HB.out; rw [HN.out, List.take_length] at this; exact this
            have HBF : Hid (R'.countP (hasS y) = if b = true then 1 else 0) := Lib.hid (by rw [sep_count HIS.out.sep y, HIS.out.height HFI.out.proper y, ← hb])
            clear hb HB
            go_wp2_with fail
            go_loopg [22, 24] mr (fun gk s22 s24 wq => ∃ (i ct : Nat), s22 = .int .i64 ct ∧ s24 = .int .i64 i ∧ i ≤ mr ∧ mr - i ≤ gk ∧ ct ≤ i ∧ Hid (ct = (R'.take i).countP (hasS y)) ∧ Hid (New wb wq))
            case atStart => exact ⟨0, 0, rfl, rfl, by omega, by omega, by omega, Lib.hid (by simp), hnr⟩
            case round =>
              obtain ⟨i, ct, rfl, rfl, hi, hgk, hct, HCT, hnq⟩ := hrel
              by_cases hlt : i < mr
              · have him : i < R'.length := by rw [← HMR.out]; exact hlt
                obtain ⟨bq, oq, hbq, hQ⟩ := HA.out (by omega)
                subst hbq
                have hQ' := hQ.keep (N8.out.trans hnq.out)
                obtain ⟨q0, q1, q2⟩ := Sn.cells hQ' i him
                obtain ⟨t1, ht1⟩ : ∃ t, decide (R'[i].lo ≤ y) = t := ⟨_, rfl⟩
                obtain ⟨t2, ht2⟩ : ∃ t, decide (y ≤ R'[i].hi) = t := ⟨_, rfl⟩
                have HCC : Hid (ct + (if (t1 && t2) = true then 1 else 0) = (R'.take (i + 1)).countP (hasS y)) := Lib.hid (by rw [count_succ _ _ _ him, ← HCT.out, ← ht1, ← ht2]; rfl)
                obtain ⟨q, hq⟩ : ∃ q, q = R'[i] := ⟨_, rfl⟩
                have hlo : Hid (q.lo = R'[i].lo) := Lib.hid (by rw [hq])
                rw [← hq] at q0 q1 q2 ht1 ht2
                clear hQ hq HCT q2
                by_cases hi0 : i = 0
                · have hgt : decide (0 < i) = false := decide_eq_false (by omega)
                  clear hQ' hi0
                  cases t1 <;> cases t2
                  all_goals
                    go_upto_region 28 with fail
                    (refine wp_region_hat (by kernel_rfl) (by kernel_rfl) ?_; intro hatc hatf; (repeat (go_big_quiet_step ((fail)))); refine wpQuiet_nil ?_; rintro _ ⟨X, rfl⟩)
                    clear hatc hatf
                    have hnq2 := Lib.hid (hnq.out.trans X.h)
                    generalize X.w = W2 at *
                    clear X
                    go_wp2_with fail
                    go_roundg (mr - (i + 1))
                    case measure => omega
                    case rel => exact ⟨i + 1, _, by first | rfl | go_num, by go_num, by omega, by omega, by simp; omega, HCC, hnq2⟩
                · have hgt : decide (0 < i) = true := decide_eq_true (by omega)
                  obtain ⟨p0, p1, p2⟩ := Sn.cells hQ' (i - 1) (by omega)
                  have hz : IntKind.i64.wrap ((i : Int) - 1) = ((i - 1 : Nat) : Int) := by rw [IntWalk.i64_in _ (by omega)]; omega
                  have hlt2 : i - 1 < mr := by omega
                  have hsp := List.pairwise_iff_getElem.1 HIS.out.sep (i - 1) i (by omega) him (by omega)
                  obtain ⟨z, hzz⟩ : ∃ z, z = R'[i - 1].hi := ⟨_, rfl⟩
                  rw [← hzz, ← hlo.out] at hsp
                  rw [← hzz] at p1
                  have hno : decide (q.lo ≤ z) = false := decide_eq_false (by omega)
                  clear hQ' hi0 hsp hzz p0 p2
                  cases t1 <;> cases t2
                  all_goals
                    go_upto_region 28 with fail
                    (refine wp_region_hat (by kernel_rfl) (by kernel_rfl) ?_; intro hatc hatf; (repeat (go_big_quiet_step ((fail)))); refine wpQuiet_nil ?_; rintro _ ⟨X, rfl⟩)
                    clear hatc hatf
                    have hnq2 := Lib.hid (hnq.out.trans X.h)
                    generalize X.w = W2 at *
                    clear X
                    go_wp2_with fail
                    go_roundg (mr - (i + 1))
                    case measure => omega
                    case rel => exact ⟨i + 1, _, by first | rfl | go_num, by go_num, by omega, by omega, by simp; omega, HCC, hnq2⟩
              · have e : i = mr := by omega
                subst e
                have hct2 : ct = if b = true then 1 else 0 := by have := HCT.out; rw [HMR.out, List.take_length, HBF.out] at this; exact this
                clear HCT
                cases b
                all_goals
                  obtain rfl := hct2
                  go_wp2_with fail
                  refine (KW.out _).mono ?_
                  rintro e we ⟨rfl, ne⟩
                  have hn := ((HN8.out.trans N8.out).trans hnq.out).trans ne
                  clear ne
                  go_wp2_with fail
                  go_ret
                  exact ⟨rfl, hn⟩

end Go.Proofs.Ytekdajoglekejaa
