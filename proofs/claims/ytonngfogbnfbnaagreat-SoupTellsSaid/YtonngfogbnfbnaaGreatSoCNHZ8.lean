import Derived.Test.YtonngfogbnfbnaaGreatSoCFTZ8
import Derived.Test.YtonngfogbnfbnaaGreatSoCFBZ8
import Derived.Test.YtonngfogbnfbnaaGreatSoCFHZ8
import Derived.Test.YtonngfogbnfbnaaGreatSoCGZ8
import Derived.Test.YtonngfogbnfbnaaGreatSlCutZ8
import Derived.Test.YtonngfogbnfbnaaGreatLoose

/- The document's package of soups: Drop, one kind. -/
namespace Go.Proofs.YtonngfogbnfbnaaGreat
open Go.RowKit
set_option linter.unusedVariables false
set_option linter.unusedSimpArgs false
set_option maxRecDepth 100000

theorem h_one' (w : World) (x : HopR) (T : TypeId) : Sl HopR.enc 10 (w.alloc (.cells x.enc.toArray T)) (.slice (some ⟨w.heap.size, 0, none⟩) 1 1) [x] :=
  ⟨_, 1, rfl, Nat.le_refl _, by decide, fun h => (by cases h), fun _ => ⟨w.heap.size, 0, rfl, fun j hj => by
    obtain rfl : j = 0 := by have : j < 1 := hj; omega
    rw [Nat.zero_mul]
    exact cells_new w x.enc.toArray T⟩⟩

set_option maxHeartbeats 8000000 in
theorem u_hdrop_none (S : SoupV) (id : Int) (hz : HopR.IsFirst S.hs id (-1)) (w : World) (hS : S.ok w) :
    Calls Tryz.prog 13 #[.agg #[.slice S.a0 S.ts.length S.c0, .slice S.a1 S.bs.length S.c1, .slice S.a2 S.hs.length S.c2], .int .i64 2, .int .i64 id] w (SoupE [] [] [] 4 w) := by
  obtain ⟨z1, hz1⟩ := TriR.isFirst S.ts id
  obtain ⟨z2, hz2⟩ := BoxR.isFirst S.bs id
  have KT := Lib.hid (fun W n => u_tget S id _ hz1 W (hS.keep n))
  have KB := Lib.hid (fun W n => u_bget S id _ hz2 W (hS.keep n))
  have KH := Lib.hid (fun W n => u_hget S id _ hz W (hS.keep n))
  have hd : decide ((0 : Int) ≤ -1) = false := rfl
  clear hz hz1 hz2 hS
  go_enter Tryz.func13, Tryz.ntmps13
  go_wp2_with fail
  refine Calls.at (fun W hW => ?_)
  have hn : New w W := by subst hW; (repeat (first | (with_reducible exact New.refl _) | (with_reducible assumption) | ((with_reducible refine New.setB ?_ ?_ _); focus (first | omega | (simp; omega) | (simp; done))) | (with_reducible refine New.alloc ?_ _) | (with_reducible refine New.drew ?_) | (with_reducible refine New.drewN ?_ _) | (with_reducible refine New.hat ?_ _) | ((with_reducible apply New.snart); (with_reducible assumption))))
  have q0 : W.cell? ⟨w.heap.size, 0, none⟩ = some (.slice S.a0 S.ts.length S.c0) := by subst hW; go_simp
  have q1 : W.cell? ⟨w.heap.size, 1, none⟩ = some (.slice S.a1 S.bs.length S.c1) := by subst hW; go_simp
  have q2 : W.cell? ⟨w.heap.size, 2, none⟩ = some (.slice S.a2 S.hs.length S.c2) := by subst hW; go_simp
  have fz : Thr W (w.heap.size + 1) 3 := by subst hW; exact Thr.new _ #[.slice none 0 0, .slice none 0 0, .slice none 0 0] _ _ (by simp)
  clear hW
  refine (KT.out _ hn).mono ?_
  rintro e U0 ⟨rfl, n1⟩
  replace q0 := New.keep n1 q0
  replace q1 := New.keep n1 q1
  replace q2 := New.keep n1 q2
  replace fz := fz.keep n1
  replace hn := hn.trans n1
  have sz : w.heap.size + 1 < U0.heap.size := fz.lt (by omega)
  have sz1 : w.heap.size < U0.heap.size := by omega
  clear n1
  clear KT
  go_wp2_with fail
  refine Calls.at (fun V0 hV => ?_)
  have n1 : New U0 V0 := by subst hV; (repeat (first | (with_reducible exact New.refl _) | (with_reducible assumption) | ((with_reducible refine New.setB ?_ ?_ _); focus (first | omega | (simp; omega) | (simp; done))) | (with_reducible refine New.alloc ?_ _) | (with_reducible refine New.drew ?_) | (with_reducible refine New.drewN ?_ _) | (with_reducible refine New.hat ?_ _) | ((with_reducible apply New.snart); (with_reducible assumption))))
  clear hV
  replace q0 := New.keep n1 q0
  replace q1 := New.keep n1 q1
  replace q2 := New.keep n1 q2
  replace fz := fz.keep n1
  replace hn := hn.trans n1
  have sz : w.heap.size + 1 < V0.heap.size := fz.lt (by omega)
  have sz1 : w.heap.size < V0.heap.size := by omega
  clear n1
  refine (KB.out _ hn).mono ?_
  rintro e U1 ⟨rfl, n1⟩
  replace q0 := New.keep n1 q0
  replace q1 := New.keep n1 q1
  replace q2 := New.keep n1 q2
  replace fz := fz.keep n1
  replace hn := hn.trans n1
  have sz : w.heap.size + 1 < U1.heap.size := fz.lt (by omega)
  have sz1 : w.heap.size < U1.heap.size := by omega
  clear n1
  clear KB
  go_wp2_with fail
  refine Calls.at (fun V1 hV => ?_)
  have n1 : New U1 V1 := by subst hV; (repeat (first | (with_reducible exact New.refl _) | (with_reducible assumption) | ((with_reducible refine New.setB ?_ ?_ _); focus (first | omega | (simp; omega) | (simp; done))) | (with_reducible refine New.alloc ?_ _) | (with_reducible refine New.drew ?_) | (with_reducible refine New.drewN ?_ _) | (with_reducible refine New.hat ?_ _) | ((with_reducible apply New.snart); (with_reducible assumption))))
  clear hV
  replace q0 := New.keep n1 q0
  replace q1 := New.keep n1 q1
  replace q2 := New.keep n1 q2
  replace fz := fz.keep n1
  replace hn := hn.trans n1
  have sz : w.heap.size + 1 < V1.heap.size := fz.lt (by omega)
  have sz1 : w.heap.size < V1.heap.size := by omega
  clear n1
  refine (KH.out _ hn).mono ?_
  rintro e U2 ⟨rfl, n1⟩
  replace q0 := New.keep n1 q0
  replace q1 := New.keep n1 q1
  replace q2 := New.keep n1 q2
  replace fz := fz.keep n1
  replace hn := hn.trans n1
  have sz : w.heap.size + 1 < U2.heap.size := fz.lt (by omega)
  have sz1 : w.heap.size < U2.heap.size := by omega
  clear n1
  clear KH
  go_wp2_with (refine wpList_store_row rfl 28 _ _ rfl _ _ rfl rfl (fz.keep (by (repeat (first | (with_reducible exact New.refl _) | (with_reducible assumption) | ((with_reducible refine New.setB ?_ ?_ _); focus (first | omega | (simp; omega) | (simp; done))) | (with_reducible refine New.alloc ?_ _) | (with_reducible refine New.drew ?_) | (with_reducible refine New.drewN ?_ _) | (with_reducible refine New.hat ?_ _) | ((with_reducible apply New.snart); (with_reducible assumption)))))) (by kernel_rfl) (by intro v hv; simp at hv; rcases hv with rfl | rfl | rfl <;> rfl) (fun Z nZ kZ cZ => ?_))
  have nz := nZ w (by (repeat (first | (with_reducible exact New.refl _) | (with_reducible assumption) | ((with_reducible refine New.setB ?_ ?_ _); focus (first | omega | (simp; omega) | (simp; done))) | (with_reducible refine New.alloc ?_ _) | (with_reducible refine New.drew ?_) | (with_reducible refine New.drewN ?_ _) | (with_reducible refine New.hat ?_ _) | ((with_reducible apply New.snart); (with_reducible assumption))))) (by omega)
  have r0 : Z.cell? ⟨w.heap.size + 1, 0, none⟩ = some (.slice none 0 0) := by have := cZ 0 (by simp); simpa using this
  have r1 : Z.cell? ⟨w.heap.size + 1, 1, none⟩ = some (.slice none 0 0) := by have := cZ 1 (by simp); simpa using this
  have r2 : Z.cell? ⟨w.heap.size + 1, 2, none⟩ = some (.slice none 0 0) := by have := cZ 2 (by simp); simpa using this
  clear nZ kZ cZ
  refine bodyPost_ret (v := .tuple #[.agg #[.slice none 0 0, .slice none 0 0, .slice none 0 0], .int .i64 4]) (by simp [results, Tryz.results13, go_sem, r0, r1, r2]) rfl ?_
  exact ⟨SoupV.none, rfl, SoupV.none_ok _, rfl, rfl, rfl, SoupV.none_own _, nz⟩

set_option maxHeartbeats 20000000 in
theorem u_hdrop_some (S : SoupV) (fS : S.few) (id : Int) (j : Nat) (hj : j < S.hs.length) (hz : HopR.IsFirst S.hs id j) (w : World) (hS : S.ok w) :
    Calls Tryz.prog 13 #[.agg #[.slice S.a0 S.ts.length S.c0, .slice S.a1 S.bs.length S.c1, .slice S.a2 S.hs.length S.c2], .int .i64 2, .int .i64 id] w (SoupE S.ts S.bs (S.hs.take j ++ S.hs.drop (j + 1)) 0 w) := by
  obtain ⟨i0, hi, hy0, hy1, hy2⟩ := info_parts h_info
  obtain ⟨z1, hz1⟩ := TriR.isFirst S.ts id
  obtain ⟨z2, hz2⟩ := BoxR.isFirst S.bs id
  have KT := Lib.hid (fun W n => u_tget S id _ hz1 W (hS.keep n))
  have KB := Lib.hid (fun W n => u_bget S id _ hz2 W (hS.keep n))
  have KH := Lib.hid (fun W n => u_hget S id _ hz W (hS.keep n))
  have hd0 : decide ((0 : Int) ≤ (j : Int)) = true := decide_eq_true (by omega)
  have KY := Lib.hid (fun W n => u_copy S fS W (hS.keep n))
  have HR := Lib.hid hS.h.row.2.2.2.2
  have fl := fS.h
  have hid : Hid (S.hs[j].i = id) := Lib.hid (by
    rcases hz with ⟨h, _⟩ | ⟨k, hk, e, h, _⟩
    · omega
    · obtain rfl : j = k := by omega
      exact h)
  have hlo : Hid (∀ k (h : k < S.hs.length), k < j → S.hs[k].i ≠ id) := Lib.hid (fun k hk hkj => by
    rcases hz with ⟨h, _⟩ | ⟨m, hm, e, _, h⟩
    · omega
    · obtain rfl : j = m := by omega
      exact h k hkj)
  clear hz hz1 hz2 hS fS
  go_enter Tryz.func13, Tryz.ntmps13
  go_wp2_with fail
  refine Calls.at (fun W hW => ?_)
  have hn : New w W := by subst hW; (repeat (first | (with_reducible exact New.refl _) | (with_reducible assumption) | ((with_reducible refine New.setB ?_ ?_ _); focus (first | omega | (simp; omega) | (simp; done))) | (with_reducible refine New.alloc ?_ _) | (with_reducible refine New.drew ?_) | (with_reducible refine New.drewN ?_ _) | (with_reducible refine New.hat ?_ _) | ((with_reducible apply New.snart); (with_reducible assumption))))
  have q0 : W.cell? ⟨w.heap.size, 0, none⟩ = some (.slice S.a0 S.ts.length S.c0) := by subst hW; go_simp
  have q1 : W.cell? ⟨w.heap.size, 1, none⟩ = some (.slice S.a1 S.bs.length S.c1) := by subst hW; go_simp
  have q2 : W.cell? ⟨w.heap.size, 2, none⟩ = some (.slice S.a2 S.hs.length S.c2) := by subst hW; go_simp
  have fz : Thr W (w.heap.size + 1) 3 := by subst hW; exact Thr.new _ #[.slice none 0 0, .slice none 0 0, .slice none 0 0] _ _ (by simp)
  clear hW
  refine (KT.out _ hn).mono ?_
  rintro e U0 ⟨rfl, n1⟩
  replace q0 := New.keep n1 q0
  replace q1 := New.keep n1 q1
  replace q2 := New.keep n1 q2
  replace fz := fz.keep n1
  replace hn := hn.trans n1
  have sz : w.heap.size + 1 < U0.heap.size := fz.lt (by omega)
  have sz1 : w.heap.size < U0.heap.size := by omega
  clear n1
  clear KT
  go_wp2_with fail
  refine Calls.at (fun V0 hV => ?_)
  have n1 : New U0 V0 := by subst hV; (repeat (first | (with_reducible exact New.refl _) | (with_reducible assumption) | ((with_reducible refine New.setB ?_ ?_ _); focus (first | omega | (simp; omega) | (simp; done))) | (with_reducible refine New.alloc ?_ _) | (with_reducible refine New.drew ?_) | (with_reducible refine New.drewN ?_ _) | (with_reducible refine New.hat ?_ _) | ((with_reducible apply New.snart); (with_reducible assumption))))
  clear hV
  replace q0 := New.keep n1 q0
  replace q1 := New.keep n1 q1
  replace q2 := New.keep n1 q2
  replace fz := fz.keep n1
  replace hn := hn.trans n1
  have sz : w.heap.size + 1 < V0.heap.size := fz.lt (by omega)
  have sz1 : w.heap.size < V0.heap.size := by omega
  clear n1
  refine (KB.out _ hn).mono ?_
  rintro e U1 ⟨rfl, n1⟩
  replace q0 := New.keep n1 q0
  replace q1 := New.keep n1 q1
  replace q2 := New.keep n1 q2
  replace fz := fz.keep n1
  replace hn := hn.trans n1
  have sz : w.heap.size + 1 < U1.heap.size := fz.lt (by omega)
  have sz1 : w.heap.size < U1.heap.size := by omega
  clear n1
  clear KB
  go_wp2_with fail
  refine Calls.at (fun V1 hV => ?_)
  have n1 : New U1 V1 := by subst hV; (repeat (first | (with_reducible exact New.refl _) | (with_reducible assumption) | ((with_reducible refine New.setB ?_ ?_ _); focus (first | omega | (simp; omega) | (simp; done))) | (with_reducible refine New.alloc ?_ _) | (with_reducible refine New.drew ?_) | (with_reducible refine New.drewN ?_ _) | (with_reducible refine New.hat ?_ _) | ((with_reducible apply New.snart); (with_reducible assumption))))
  clear hV
  replace q0 := New.keep n1 q0
  replace q1 := New.keep n1 q1
  replace q2 := New.keep n1 q2
  replace fz := fz.keep n1
  replace hn := hn.trans n1
  have sz : w.heap.size + 1 < V1.heap.size := fz.lt (by omega)
  have sz1 : w.heap.size < V1.heap.size := by omega
  clear n1
  refine (KH.out _ hn).mono ?_
  rintro e U2 ⟨rfl, n1⟩
  replace q0 := New.keep n1 q0
  replace q1 := New.keep n1 q1
  replace q2 := New.keep n1 q2
  replace fz := fz.keep n1
  replace hn := hn.trans n1
  have sz : w.heap.size + 1 < U2.heap.size := fz.lt (by omega)
  have sz1 : w.heap.size < U2.heap.size := by omega
  clear n1
  clear KH
  go_wp2_with fail
  refine Calls.at (fun V2 hV => ?_)
  have n1 : New U2 V2 := by subst hV; (repeat (first | (with_reducible exact New.refl _) | (with_reducible assumption) | ((with_reducible refine New.setB ?_ ?_ _); focus (first | omega | (simp; omega) | (simp; done))) | (with_reducible refine New.alloc ?_ _) | (with_reducible refine New.drew ?_) | (with_reducible refine New.drewN ?_ _) | (with_reducible refine New.hat ?_ _) | ((with_reducible apply New.snart); (with_reducible assumption))))
  clear hV
  replace q0 := New.keep n1 q0
  replace q1 := New.keep n1 q1
  replace q2 := New.keep n1 q2
  replace fz := fz.keep n1
  replace hn := hn.trans n1
  have sz : w.heap.size + 1 < V2.heap.size := fz.lt (by omega)
  have sz1 : w.heap.size < V2.heap.size := by omega
  clear n1
  have szV : w.heap.size + 1 < V2.heap.size := by omega
  refine (KY.out _ hn).mono ?_
  rintro e W5 ⟨⟨ts', bs', hs', b0, b1, b2, k0, k1, k2⟩, rfl, hS', rfl, rfl, rfl, hown, n1⟩
  have szV5 : V2.heap.size ≤ W5.heap.size := n1.size
  replace q0 := New.keep n1 q0
  replace q1 := New.keep n1 q1
  replace q2 := New.keep n1 q2
  replace fz := fz.keep n1
  replace hn := hn.trans n1
  have sz : w.heap.size + 1 < W5.heap.size := fz.lt (by omega)
  have sz1 : w.heap.size < W5.heap.size := by omega
  clear n1
  have HS' := Lib.hid hS'
  have HO' := Lib.hid hown
  clear hS' hown KY
  go_wp2_with fail
  refine Code.at (fun W6 hW => ?_)
  have o0 : W6.cell? ⟨W5.heap.size, 2, none⟩ = some (.slice none 0 0) := by subst hW; go_simp
  have o1 : W6.cell? ⟨W5.heap.size, 0, none⟩ = some (.slice b0 S.ts.length k0) := by subst hW; go_simp
  have o2 : W6.cell? ⟨W5.heap.size, 1, none⟩ = some (.slice b1 S.bs.length k1) := by subst hW; go_simp
  have z0 : W6.frozen? ⟨W5.heap.size, 2, none⟩ = false := by subst hW; go_simp
  have n6 : New W5 W6 := by subst hW; (repeat (first | (with_reducible exact New.refl _) | (with_reducible assumption) | ((with_reducible refine New.setB ?_ ?_ _); focus (first | omega | (simp; omega) | (simp; done))) | (with_reducible refine New.alloc ?_ _) | (with_reducible refine New.drew ?_) | (with_reducible refine New.drewN ?_ _) | (with_reducible refine New.hat ?_ _) | ((with_reducible apply New.snart); (with_reducible assumption))))
  have Q5 := Lib.hid q2
  have FZ := Lib.hid fz
  clear hW q0 q1 q2 fz
  go_loopg [15, 18] S.hs.length (fun k d i wr => ∃ (m : Nat) (a : Option Addr) (c : Nat), i = .int .i64 m ∧ m + k = S.hs.length ∧ d = .bool (decide (j < m)) ∧ wr.cell? ⟨W5.heap.size, 2, none⟩ = some (.slice a (cutl S.hs j m).length c) ∧ wr.ownsRow (W5.heap.size + 1) 45 10 (.slice a (cutl S.hs j m).length c) (cutl S.hs j m).length ((cutl S.hs j m).flatMap HopR.enc) ∧ wr.cell? ⟨W5.heap.size, 0, none⟩ = some (.slice b0 S.ts.length k0) ∧ wr.cell? ⟨W5.heap.size, 1, none⟩ = some (.slice b1 S.bs.length k1) ∧ wr.frozen? ⟨W5.heap.size, 2, none⟩ = false ∧ New W5 wr)
  case atStart => exact ⟨0, none, 0, rfl, by omega, by simp, by rw [cutl_zero]; exact o0, by rw [cutl_zero]; exact World.ownsRow_nil _ _ _ _, o1, o2, z0, n6⟩
  case round =>
    clear o0 o1 o2 z0 n6
    obtain ⟨m, a, c, rfl, hmk, rfl, o0, hown, o1, o2, z0, nr⟩ := hrel
    have OW := Lib.hid hown
    clear hown
    have nW := hn.trans nr
    have q0 := nr.keep Q5.out
    have fz := FZ.out.keep nr
    have szo : W5.heap.size < wr.heap.size := cell_lt o0
    have sz3 : w.heap.size + 1 < W5.heap.size := by omega
    have sz4 : w.heap.size < wr.heap.size := by omega
    have sz5 : w.heap.size + 1 < wr.heap.size := by omega
    by_cases hlt : m < S.hs.length
    · obtain ⟨b, off, ha, hA⟩ := HR.out (by omega)
      rw [ha] at q0
      replace ha := Lib.hid ha
      obtain ⟨e0, e1, e2, e3, e4, e5, e6, e7, e8, e9⟩ := HopR.cells (hA.keep nW) m hlt
      have hml := cutl_len (l := S.hs) (j := j) (m := m)
      clear hA
      rcases Nat.lt_trichotomy m j with h1 | h1 | h1
      · have hd : decide (j < m) = false := decide_eq_false (by omega)
        have hg : (S.hs[m].i == id) = false := by simpa using hlo.out m hlt h1
        have HM := Lib.hid (cutl_lo h1 hlt)
        go_upto_region 34 with fail
        have hsU : W5.heap.size < wr.heap.size := cell_lt o0
        refine wp_region_loose 8 (fixV [.pointer (some ⟨W5.heap.size, 2, none⟩), .slice a ((cutl S.hs j m).length) c, .pointer (some ⟨w.heap.size, 2, none⟩), .slice (some ⟨b, off, none⟩) S.hs.length S.c2, .int .i64 m, .pointer (some ⟨b, off + m * 10, none⟩), .agg #[.int .i64 S.hs[m].i, .int .i64 S.hs[m].fx, .int .i64 S.hs[m].fz, .int .i64 S.hs[m].fy, .int .i64 S.hs[m].tx, .int .i64 S.hs[m].tz, .int .i64 S.hs[m].ty, .bool S.hs[m].bo, .int .i64 S.hs[m].ar, .int .i64 S.hs[m].co]] (fun W v => Sl HopR.enc 10 W v [S.hs[m]])) (by kernel_rfl) (by kernel_rfl) (fixV_keep (fun _ _ _ h n => h.keep n) _) ?_ ?_
        · intro i o hi ho a' w' nn hr hdd
          rcases (show i = 0 ∨ i = 1 ∨ i = 2 ∨ i = 3 ∨ i = 4 ∨ i = 5 ∨ i = 6 ∨ i = 7 by omega) with rfl | rfl | rfl | rfl | rfl | rfl | rfl | rfl <;> obtain rfl := Option.some.inj ho
          · have r0 : (a'.tmps[14]?).getD undef = .pointer (some ⟨W5.heap.size, 0, none⟩) := (eval_get a' 14).symm.trans (hr 14 (by kernel_rfl))
            exact yields_value (.pointer (some ⟨W5.heap.size, 2, none⟩)) (by go_simp) ⟨New.refl _, rfl⟩
          · have r0 : (a'.tmps[156]?).getD undef = .pointer (some ⟨W5.heap.size, 2, none⟩) := (eval_get a' 156).symm.trans (hdd 0 156 (by omega) (by kernel_rfl) (by kernel_rfl))
            have c0 := nn.keep o0
            exact yields_value (.slice a ((cutl S.hs j m).length) c) (by go_simp) ⟨New.refl _, rfl⟩
          · have r0 : (a'.tmps[3]?).getD undef = .pointer (some ⟨w.heap.size, 0, none⟩) := (eval_get a' 3).symm.trans (hr 3 (by kernel_rfl))
            exact yields_value (.pointer (some ⟨w.heap.size, 2, none⟩)) (by go_simp) ⟨New.refl _, rfl⟩
          · have r0 : (a'.tmps[158]?).getD undef = .pointer (some ⟨w.heap.size, 2, none⟩) := (eval_get a' 158).symm.trans (hdd 2 158 (by omega) (by kernel_rfl) (by kernel_rfl))
            have c0 := nn.keep q0
            exact yields_value (.slice (some ⟨b, off, none⟩) S.hs.length S.c2) (by go_simp) ⟨New.refl _, rfl⟩
          · have r0 : (a'.tmps[18]?).getD undef = .int .i64 m := (eval_get a' 18).symm.trans (hr 18 (by kernel_rfl))
            exact yields_value (.int .i64 m) (by go_simp) ⟨New.refl _, rfl⟩
          · have r0 : (a'.tmps[159]?).getD undef = .slice (some ⟨b, off, none⟩) S.hs.length S.c2 := (eval_get a' 159).symm.trans (hdd 3 159 (by omega) (by kernel_rfl) (by kernel_rfl))
            have r1 : (a'.tmps[160]?).getD undef = .int .i64 m := (eval_get a' 160).symm.trans (hdd 4 160 (by omega) (by kernel_rfl) (by kernel_rfl))
            exact yields_value (.pointer (some ⟨b, off + m * 10, none⟩)) (by go_simp) ⟨New.refl _, rfl⟩
          · have r0 : (a'.tmps[161]?).getD undef = .pointer (some ⟨b, off + m * 10, none⟩) := (eval_get a' 161).symm.trans (hdd 5 161 (by omega) (by kernel_rfl) (by kernel_rfl))
            replace e0 := New.keep (nn) e0; replace e1 := New.keep (nn) e1; replace e2 := New.keep (nn) e2; replace e3 := New.keep (nn) e3; replace e4 := New.keep (nn) e4; replace e5 := New.keep (nn) e5; replace e6 := New.keep (nn) e6; replace e7 := New.keep (nn) e7; replace e8 := New.keep (nn) e8; replace e9 := New.keep (nn) e9
            exact yields_value (.agg #[.int .i64 S.hs[m].i, .int .i64 S.hs[m].fx, .int .i64 S.hs[m].fz, .int .i64 S.hs[m].fy, .int .i64 S.hs[m].tx, .int .i64 S.hs[m].tz, .int .i64 S.hs[m].ty, .bool S.hs[m].bo, .int .i64 S.hs[m].ar, .int .i64 S.hs[m].co]) (by go_simp) ⟨New.refl _, rfl⟩
          · have r0 : (a'.tmps[162]?).getD undef = .agg #[.int .i64 S.hs[m].i, .int .i64 S.hs[m].fx, .int .i64 S.hs[m].fz, .int .i64 S.hs[m].fy, .int .i64 S.hs[m].tx, .int .i64 S.hs[m].tz, .int .i64 S.hs[m].ty, .bool S.hs[m].bo, .int .i64 S.hs[m].ar, .int .i64 S.hs[m].co] := (eval_get a' 162).symm.trans (hdd 6 162 (by omega) (by kernel_rfl) (by kernel_rfl))
            generalize S.hs[m] = y at *
            exact yields_value (w' := w'.alloc (.cells y.enc.toArray 45)) (.slice (some ⟨w'.heap.size, 0, none⟩) 1 1) (by unfold HopR.enc; go_simp) ⟨(New.refl w').alloc _, h_one' w' y _⟩
        · intro vs w' nn hv
          have e1 : vs 1 = .slice a ((cutl S.hs j m).length) c := hv 1 (by omega)
          have s7 : Sl HopR.enc 10 w' (vs 7) [S.hs[m]] := hv 7 (by omega)
          simp only [List.take_succ_cons, List.take_zero, List.drop_succ_cons, List.drop_zero, putL, Act.put, List.setIfInBounds_toArray, List.set_cons_zero, List.set_cons_succ, Nat.reduceAdd, Nat.zero_add]
          rw [e1]
          generalize vs 7 = u7 at *
          clear hv e1
          (replace z0 := nn.keepF o0 z0; replace o0 := nn.keep o0; replace o1 := nn.keep o1; replace o2 := nn.keep o2; replace q0 := nn.keep q0; replace e0 := New.keep (nn) e0; replace e1 := New.keep (nn) e1; replace e2 := New.keep (nn) e2; replace e3 := New.keep (nn) e3; replace e4 := New.keep (nn) e4; replace e5 := New.keep (nn) e5; replace e6 := New.keep (nn) e6; replace e7 := New.keep (nn) e7; replace e8 := New.keep (nn) e8; replace e9 := New.keep (nn) e9; replace OW := Lib.hid (own_new OW.out nn); replace nr := nr.trans nn; replace nW := nW.trans nn; clear nn)
          replace s7 := Lib.hid s7
          have hsw : W5.heap.size < w'.heap.size := cell_lt o0
          go_upto_region 31 with (at_builtin; refine wpList_append_sl rfl _ _ 26 rfl HopR.enc_len HopR.enc_one (W5.heap.size + 1) 45 i0 (.agg #[.int .i64 HopR.zero.i, .int .i64 HopR.zero.fx, .int .i64 HopR.zero.fz, .int .i64 HopR.zero.fy, .int .i64 HopR.zero.tx, .int .i64 HopR.zero.tz, .int .i64 HopR.zero.ty, .bool HopR.zero.bo, .int .i64 HopR.zero.ar, .int .i64 HopR.zero.co]) 80 Tryz.underlying26 hi hy0 hy1 hy2 rfl (by decide) _ (cutl S.hs j m) rfl OW.out _ [S.hs[m]] rfl s7.out (by unfold maxLen; simp; omega) (by simp; omega) (by omega) ?_; intro v2 Y hown2 hnew hblk; obtain ⟨a2, c2, N2, hN2, rfl⟩ := own_shape2 hown2; replace hN2 := Lib.hid hN2; have hb := hblk _ (Nat.lt_succ_self W5.heap.size); replace z0 := frozen_block hb z0; replace o0 := cell_block hb o0; replace o1 := cell_block hb o1; replace o2 := cell_block hb o2)
          refine Code.at (fun Z hZ => ?_)
          have nz : New W5 Z := by subst hZ; exact New.setB (Nat.le_refl W5.heap.size) (hnew W5 nr (by omega)) _
          have OZ : Hid (Z.ownsRow (W5.heap.size + 1) 45 10 (.slice a2 N2 c2) (cutl S.hs j m ++ [S.hs[m]]).length ((cutl S.hs j m ++ [S.hs[m]]).flatMap HopR.enc)) := Lib.hid (by subst hZ; exact ownsRow_setCell_below hown2 (by show W5.heap.size < W5.heap.size + 1; omega) _)
          have p0 : Z.cell? ⟨W5.heap.size, 2, none⟩ = some (.slice a2 N2 c2) := by subst hZ; exact World.cell?_setCell_same _ _ _ o0
          have p1 : Z.cell? ⟨W5.heap.size, 0, none⟩ = some (.slice b0 S.ts.length k0) := by subst hZ; exact cell_put o1 (by intro e; injection e with _ e2; omega) _
          have p2 : Z.cell? ⟨W5.heap.size, 1, none⟩ = some (.slice b1 S.bs.length k1) := by subst hZ; exact cell_put o2 (by intro e; injection e with _ e2; omega) _
          have pz : Z.frozen? ⟨W5.heap.size, 2, none⟩ = false := by subst hZ; rw [World.frozen?_setCell]; exact z0
          clear hZ
          go_wp2_with fail
          go_roundg (gk - 1)
          case measure => omega
          case rel => exact ⟨m + 1, a2, c2, by go_num, by omega, by (rw [decide_eq_false (by omega)]), by have t := p0; rw [hN2.out] at t; rw [HM.out]; exact t, by have t := OZ.out; rw [hN2.out] at t; rw [HM.out]; exact t, p1, p2, pz, nz⟩
      · have hd : decide (j < m) = false := decide_eq_false (by omega)
        have hg : (S.hs[m].i == id) = true := by subst h1; simpa using hid.out
        have HM : Hid (cutl S.hs j (m + 1) = cutl S.hs j m) := Lib.hid (by subst h1; exact cutl_at)
        replace h1 := Lib.hid h1

        go_wp2_with fail
        go_roundg (gk - 1)
        case measure => omega
        case rel => exact ⟨m + 1, a, c, by go_num, by omega, by (rw [decide_eq_true (by have := h1.out; omega)]), by rw [HM.out]; exact o0, by rw [HM.out]; exact OW.out, o1, o2, z0, nr⟩
      · have hd : decide (j < m) = true := decide_eq_true h1
        have HM := Lib.hid (cutl_hi h1 hlt)
        cases hg : (S.hs[m].i == id)
        · skip
          go_upto_region 34 with fail
          have hsU : W5.heap.size < wr.heap.size := cell_lt o0
          refine wp_region_loose 8 (fixV [.pointer (some ⟨W5.heap.size, 2, none⟩), .slice a ((cutl S.hs j m).length) c, .pointer (some ⟨w.heap.size, 2, none⟩), .slice (some ⟨b, off, none⟩) S.hs.length S.c2, .int .i64 m, .pointer (some ⟨b, off + m * 10, none⟩), .agg #[.int .i64 S.hs[m].i, .int .i64 S.hs[m].fx, .int .i64 S.hs[m].fz, .int .i64 S.hs[m].fy, .int .i64 S.hs[m].tx, .int .i64 S.hs[m].tz, .int .i64 S.hs[m].ty, .bool S.hs[m].bo, .int .i64 S.hs[m].ar, .int .i64 S.hs[m].co]] (fun W v => Sl HopR.enc 10 W v [S.hs[m]])) (by kernel_rfl) (by kernel_rfl) (fixV_keep (fun _ _ _ h n => h.keep n) _) ?_ ?_
          · intro i o hi ho a' w' nn hr hdd
            rcases (show i = 0 ∨ i = 1 ∨ i = 2 ∨ i = 3 ∨ i = 4 ∨ i = 5 ∨ i = 6 ∨ i = 7 by omega) with rfl | rfl | rfl | rfl | rfl | rfl | rfl | rfl <;> obtain rfl := Option.some.inj ho
            · have r0 : (a'.tmps[14]?).getD undef = .pointer (some ⟨W5.heap.size, 0, none⟩) := (eval_get a' 14).symm.trans (hr 14 (by kernel_rfl))
              exact yields_value (.pointer (some ⟨W5.heap.size, 2, none⟩)) (by go_simp) ⟨New.refl _, rfl⟩
            · have r0 : (a'.tmps[156]?).getD undef = .pointer (some ⟨W5.heap.size, 2, none⟩) := (eval_get a' 156).symm.trans (hdd 0 156 (by omega) (by kernel_rfl) (by kernel_rfl))
              have c0 := nn.keep o0
              exact yields_value (.slice a ((cutl S.hs j m).length) c) (by go_simp) ⟨New.refl _, rfl⟩
            · have r0 : (a'.tmps[3]?).getD undef = .pointer (some ⟨w.heap.size, 0, none⟩) := (eval_get a' 3).symm.trans (hr 3 (by kernel_rfl))
              exact yields_value (.pointer (some ⟨w.heap.size, 2, none⟩)) (by go_simp) ⟨New.refl _, rfl⟩
            · have r0 : (a'.tmps[158]?).getD undef = .pointer (some ⟨w.heap.size, 2, none⟩) := (eval_get a' 158).symm.trans (hdd 2 158 (by omega) (by kernel_rfl) (by kernel_rfl))
              have c0 := nn.keep q0
              exact yields_value (.slice (some ⟨b, off, none⟩) S.hs.length S.c2) (by go_simp) ⟨New.refl _, rfl⟩
            · have r0 : (a'.tmps[18]?).getD undef = .int .i64 m := (eval_get a' 18).symm.trans (hr 18 (by kernel_rfl))
              exact yields_value (.int .i64 m) (by go_simp) ⟨New.refl _, rfl⟩
            · have r0 : (a'.tmps[159]?).getD undef = .slice (some ⟨b, off, none⟩) S.hs.length S.c2 := (eval_get a' 159).symm.trans (hdd 3 159 (by omega) (by kernel_rfl) (by kernel_rfl))
              have r1 : (a'.tmps[160]?).getD undef = .int .i64 m := (eval_get a' 160).symm.trans (hdd 4 160 (by omega) (by kernel_rfl) (by kernel_rfl))
              exact yields_value (.pointer (some ⟨b, off + m * 10, none⟩)) (by go_simp) ⟨New.refl _, rfl⟩
            · have r0 : (a'.tmps[161]?).getD undef = .pointer (some ⟨b, off + m * 10, none⟩) := (eval_get a' 161).symm.trans (hdd 5 161 (by omega) (by kernel_rfl) (by kernel_rfl))
              replace e0 := New.keep (nn) e0; replace e1 := New.keep (nn) e1; replace e2 := New.keep (nn) e2; replace e3 := New.keep (nn) e3; replace e4 := New.keep (nn) e4; replace e5 := New.keep (nn) e5; replace e6 := New.keep (nn) e6; replace e7 := New.keep (nn) e7; replace e8 := New.keep (nn) e8; replace e9 := New.keep (nn) e9
              exact yields_value (.agg #[.int .i64 S.hs[m].i, .int .i64 S.hs[m].fx, .int .i64 S.hs[m].fz, .int .i64 S.hs[m].fy, .int .i64 S.hs[m].tx, .int .i64 S.hs[m].tz, .int .i64 S.hs[m].ty, .bool S.hs[m].bo, .int .i64 S.hs[m].ar, .int .i64 S.hs[m].co]) (by go_simp) ⟨New.refl _, rfl⟩
            · have r0 : (a'.tmps[162]?).getD undef = .agg #[.int .i64 S.hs[m].i, .int .i64 S.hs[m].fx, .int .i64 S.hs[m].fz, .int .i64 S.hs[m].fy, .int .i64 S.hs[m].tx, .int .i64 S.hs[m].tz, .int .i64 S.hs[m].ty, .bool S.hs[m].bo, .int .i64 S.hs[m].ar, .int .i64 S.hs[m].co] := (eval_get a' 162).symm.trans (hdd 6 162 (by omega) (by kernel_rfl) (by kernel_rfl))
              generalize S.hs[m] = y at *
              exact yields_value (w' := w'.alloc (.cells y.enc.toArray 45)) (.slice (some ⟨w'.heap.size, 0, none⟩) 1 1) (by unfold HopR.enc; go_simp) ⟨(New.refl w').alloc _, h_one' w' y _⟩
          · intro vs w' nn hv
            have e1 : vs 1 = .slice a ((cutl S.hs j m).length) c := hv 1 (by omega)
            have s7 : Sl HopR.enc 10 w' (vs 7) [S.hs[m]] := hv 7 (by omega)
            simp only [List.take_succ_cons, List.take_zero, List.drop_succ_cons, List.drop_zero, putL, Act.put, List.setIfInBounds_toArray, List.set_cons_zero, List.set_cons_succ, Nat.reduceAdd, Nat.zero_add]
            rw [e1]
            generalize vs 7 = u7 at *
            clear hv e1
            (replace z0 := nn.keepF o0 z0; replace o0 := nn.keep o0; replace o1 := nn.keep o1; replace o2 := nn.keep o2; replace q0 := nn.keep q0; replace e0 := New.keep (nn) e0; replace e1 := New.keep (nn) e1; replace e2 := New.keep (nn) e2; replace e3 := New.keep (nn) e3; replace e4 := New.keep (nn) e4; replace e5 := New.keep (nn) e5; replace e6 := New.keep (nn) e6; replace e7 := New.keep (nn) e7; replace e8 := New.keep (nn) e8; replace e9 := New.keep (nn) e9; replace OW := Lib.hid (own_new OW.out nn); replace nr := nr.trans nn; replace nW := nW.trans nn; clear nn)
            replace s7 := Lib.hid s7
            have hsw : W5.heap.size < w'.heap.size := cell_lt o0
            go_upto_region 31 with (at_builtin; refine wpList_append_sl rfl _ _ 26 rfl HopR.enc_len HopR.enc_one (W5.heap.size + 1) 45 i0 (.agg #[.int .i64 HopR.zero.i, .int .i64 HopR.zero.fx, .int .i64 HopR.zero.fz, .int .i64 HopR.zero.fy, .int .i64 HopR.zero.tx, .int .i64 HopR.zero.tz, .int .i64 HopR.zero.ty, .bool HopR.zero.bo, .int .i64 HopR.zero.ar, .int .i64 HopR.zero.co]) 80 Tryz.underlying26 hi hy0 hy1 hy2 rfl (by decide) _ (cutl S.hs j m) rfl OW.out _ [S.hs[m]] rfl s7.out (by unfold maxLen; simp; omega) (by simp; omega) (by omega) ?_; intro v2 Y hown2 hnew hblk; obtain ⟨a2, c2, N2, hN2, rfl⟩ := own_shape2 hown2; replace hN2 := Lib.hid hN2; have hb := hblk _ (Nat.lt_succ_self W5.heap.size); replace z0 := frozen_block hb z0; replace o0 := cell_block hb o0; replace o1 := cell_block hb o1; replace o2 := cell_block hb o2)
            refine Code.at (fun Z hZ => ?_)
            have nz : New W5 Z := by subst hZ; exact New.setB (Nat.le_refl W5.heap.size) (hnew W5 nr (by omega)) _
            have OZ : Hid (Z.ownsRow (W5.heap.size + 1) 45 10 (.slice a2 N2 c2) (cutl S.hs j m ++ [S.hs[m]]).length ((cutl S.hs j m ++ [S.hs[m]]).flatMap HopR.enc)) := Lib.hid (by subst hZ; exact ownsRow_setCell_below hown2 (by show W5.heap.size < W5.heap.size + 1; omega) _)
            have p0 : Z.cell? ⟨W5.heap.size, 2, none⟩ = some (.slice a2 N2 c2) := by subst hZ; exact World.cell?_setCell_same _ _ _ o0
            have p1 : Z.cell? ⟨W5.heap.size, 0, none⟩ = some (.slice b0 S.ts.length k0) := by subst hZ; exact cell_put o1 (by intro e; injection e with _ e2; omega) _
            have p2 : Z.cell? ⟨W5.heap.size, 1, none⟩ = some (.slice b1 S.bs.length k1) := by subst hZ; exact cell_put o2 (by intro e; injection e with _ e2; omega) _
            have pz : Z.frozen? ⟨W5.heap.size, 2, none⟩ = false := by subst hZ; rw [World.frozen?_setCell]; exact z0
            clear hZ
            go_wp2_with fail
            go_roundg (gk - 1)
            case measure => omega
            case rel => exact ⟨m + 1, a2, c2, by go_num, by omega, by (rw [decide_eq_true (by omega)]), by have t := p0; rw [hN2.out] at t; rw [HM.out]; exact t, by have t := OZ.out; rw [hN2.out] at t; rw [HM.out]; exact t, p1, p2, pz, nz⟩
        · skip
          go_upto_region 34 with fail
          have hsU : W5.heap.size < wr.heap.size := cell_lt o0
          refine wp_region_loose 8 (fixV [.pointer (some ⟨W5.heap.size, 2, none⟩), .slice a ((cutl S.hs j m).length) c, .pointer (some ⟨w.heap.size, 2, none⟩), .slice (some ⟨b, off, none⟩) S.hs.length S.c2, .int .i64 m, .pointer (some ⟨b, off + m * 10, none⟩), .agg #[.int .i64 S.hs[m].i, .int .i64 S.hs[m].fx, .int .i64 S.hs[m].fz, .int .i64 S.hs[m].fy, .int .i64 S.hs[m].tx, .int .i64 S.hs[m].tz, .int .i64 S.hs[m].ty, .bool S.hs[m].bo, .int .i64 S.hs[m].ar, .int .i64 S.hs[m].co]] (fun W v => Sl HopR.enc 10 W v [S.hs[m]])) (by kernel_rfl) (by kernel_rfl) (fixV_keep (fun _ _ _ h n => h.keep n) _) ?_ ?_
          · intro i o hi ho a' w' nn hr hdd
            rcases (show i = 0 ∨ i = 1 ∨ i = 2 ∨ i = 3 ∨ i = 4 ∨ i = 5 ∨ i = 6 ∨ i = 7 by omega) with rfl | rfl | rfl | rfl | rfl | rfl | rfl | rfl <;> obtain rfl := Option.some.inj ho
            · have r0 : (a'.tmps[14]?).getD undef = .pointer (some ⟨W5.heap.size, 0, none⟩) := (eval_get a' 14).symm.trans (hr 14 (by kernel_rfl))
              exact yields_value (.pointer (some ⟨W5.heap.size, 2, none⟩)) (by go_simp) ⟨New.refl _, rfl⟩
            · have r0 : (a'.tmps[156]?).getD undef = .pointer (some ⟨W5.heap.size, 2, none⟩) := (eval_get a' 156).symm.trans (hdd 0 156 (by omega) (by kernel_rfl) (by kernel_rfl))
              have c0 := nn.keep o0
              exact yields_value (.slice a ((cutl S.hs j m).length) c) (by go_simp) ⟨New.refl _, rfl⟩
            · have r0 : (a'.tmps[3]?).getD undef = .pointer (some ⟨w.heap.size, 0, none⟩) := (eval_get a' 3).symm.trans (hr 3 (by kernel_rfl))
              exact yields_value (.pointer (some ⟨w.heap.size, 2, none⟩)) (by go_simp) ⟨New.refl _, rfl⟩
            · have r0 : (a'.tmps[158]?).getD undef = .pointer (some ⟨w.heap.size, 2, none⟩) := (eval_get a' 158).symm.trans (hdd 2 158 (by omega) (by kernel_rfl) (by kernel_rfl))
              have c0 := nn.keep q0
              exact yields_value (.slice (some ⟨b, off, none⟩) S.hs.length S.c2) (by go_simp) ⟨New.refl _, rfl⟩
            · have r0 : (a'.tmps[18]?).getD undef = .int .i64 m := (eval_get a' 18).symm.trans (hr 18 (by kernel_rfl))
              exact yields_value (.int .i64 m) (by go_simp) ⟨New.refl _, rfl⟩
            · have r0 : (a'.tmps[159]?).getD undef = .slice (some ⟨b, off, none⟩) S.hs.length S.c2 := (eval_get a' 159).symm.trans (hdd 3 159 (by omega) (by kernel_rfl) (by kernel_rfl))
              have r1 : (a'.tmps[160]?).getD undef = .int .i64 m := (eval_get a' 160).symm.trans (hdd 4 160 (by omega) (by kernel_rfl) (by kernel_rfl))
              exact yields_value (.pointer (some ⟨b, off + m * 10, none⟩)) (by go_simp) ⟨New.refl _, rfl⟩
            · have r0 : (a'.tmps[161]?).getD undef = .pointer (some ⟨b, off + m * 10, none⟩) := (eval_get a' 161).symm.trans (hdd 5 161 (by omega) (by kernel_rfl) (by kernel_rfl))
              replace e0 := New.keep (nn) e0; replace e1 := New.keep (nn) e1; replace e2 := New.keep (nn) e2; replace e3 := New.keep (nn) e3; replace e4 := New.keep (nn) e4; replace e5 := New.keep (nn) e5; replace e6 := New.keep (nn) e6; replace e7 := New.keep (nn) e7; replace e8 := New.keep (nn) e8; replace e9 := New.keep (nn) e9
              exact yields_value (.agg #[.int .i64 S.hs[m].i, .int .i64 S.hs[m].fx, .int .i64 S.hs[m].fz, .int .i64 S.hs[m].fy, .int .i64 S.hs[m].tx, .int .i64 S.hs[m].tz, .int .i64 S.hs[m].ty, .bool S.hs[m].bo, .int .i64 S.hs[m].ar, .int .i64 S.hs[m].co]) (by go_simp) ⟨New.refl _, rfl⟩
            · have r0 : (a'.tmps[162]?).getD undef = .agg #[.int .i64 S.hs[m].i, .int .i64 S.hs[m].fx, .int .i64 S.hs[m].fz, .int .i64 S.hs[m].fy, .int .i64 S.hs[m].tx, .int .i64 S.hs[m].tz, .int .i64 S.hs[m].ty, .bool S.hs[m].bo, .int .i64 S.hs[m].ar, .int .i64 S.hs[m].co] := (eval_get a' 162).symm.trans (hdd 6 162 (by omega) (by kernel_rfl) (by kernel_rfl))
              generalize S.hs[m] = y at *
              exact yields_value (w' := w'.alloc (.cells y.enc.toArray 45)) (.slice (some ⟨w'.heap.size, 0, none⟩) 1 1) (by unfold HopR.enc; go_simp) ⟨(New.refl w').alloc _, h_one' w' y _⟩
          · intro vs w' nn hv
            have e1 : vs 1 = .slice a ((cutl S.hs j m).length) c := hv 1 (by omega)
            have s7 : Sl HopR.enc 10 w' (vs 7) [S.hs[m]] := hv 7 (by omega)
            simp only [List.take_succ_cons, List.take_zero, List.drop_succ_cons, List.drop_zero, putL, Act.put, List.setIfInBounds_toArray, List.set_cons_zero, List.set_cons_succ, Nat.reduceAdd, Nat.zero_add]
            rw [e1]
            generalize vs 7 = u7 at *
            clear hv e1
            (replace z0 := nn.keepF o0 z0; replace o0 := nn.keep o0; replace o1 := nn.keep o1; replace o2 := nn.keep o2; replace q0 := nn.keep q0; replace e0 := New.keep (nn) e0; replace e1 := New.keep (nn) e1; replace e2 := New.keep (nn) e2; replace e3 := New.keep (nn) e3; replace e4 := New.keep (nn) e4; replace e5 := New.keep (nn) e5; replace e6 := New.keep (nn) e6; replace e7 := New.keep (nn) e7; replace e8 := New.keep (nn) e8; replace e9 := New.keep (nn) e9; replace OW := Lib.hid (own_new OW.out nn); replace nr := nr.trans nn; replace nW := nW.trans nn; clear nn)
            replace s7 := Lib.hid s7
            have hsw : W5.heap.size < w'.heap.size := cell_lt o0
            go_upto_region 31 with (at_builtin; refine wpList_append_sl rfl _ _ 26 rfl HopR.enc_len HopR.enc_one (W5.heap.size + 1) 45 i0 (.agg #[.int .i64 HopR.zero.i, .int .i64 HopR.zero.fx, .int .i64 HopR.zero.fz, .int .i64 HopR.zero.fy, .int .i64 HopR.zero.tx, .int .i64 HopR.zero.tz, .int .i64 HopR.zero.ty, .bool HopR.zero.bo, .int .i64 HopR.zero.ar, .int .i64 HopR.zero.co]) 80 Tryz.underlying26 hi hy0 hy1 hy2 rfl (by decide) _ (cutl S.hs j m) rfl OW.out _ [S.hs[m]] rfl s7.out (by unfold maxLen; simp; omega) (by simp; omega) (by omega) ?_; intro v2 Y hown2 hnew hblk; obtain ⟨a2, c2, N2, hN2, rfl⟩ := own_shape2 hown2; replace hN2 := Lib.hid hN2; have hb := hblk _ (Nat.lt_succ_self W5.heap.size); replace z0 := frozen_block hb z0; replace o0 := cell_block hb o0; replace o1 := cell_block hb o1; replace o2 := cell_block hb o2)
            refine Code.at (fun Z hZ => ?_)
            have nz : New W5 Z := by subst hZ; exact New.setB (Nat.le_refl W5.heap.size) (hnew W5 nr (by omega)) _
            have OZ : Hid (Z.ownsRow (W5.heap.size + 1) 45 10 (.slice a2 N2 c2) (cutl S.hs j m ++ [S.hs[m]]).length ((cutl S.hs j m ++ [S.hs[m]]).flatMap HopR.enc)) := Lib.hid (by subst hZ; exact ownsRow_setCell_below hown2 (by show W5.heap.size < W5.heap.size + 1; omega) _)
            have p0 : Z.cell? ⟨W5.heap.size, 2, none⟩ = some (.slice a2 N2 c2) := by subst hZ; exact World.cell?_setCell_same _ _ _ o0
            have p1 : Z.cell? ⟨W5.heap.size, 0, none⟩ = some (.slice b0 S.ts.length k0) := by subst hZ; exact cell_put o1 (by intro e; injection e with _ e2; omega) _
            have p2 : Z.cell? ⟨W5.heap.size, 1, none⟩ = some (.slice b1 S.bs.length k1) := by subst hZ; exact cell_put o2 (by intro e; injection e with _ e2; omega) _
            have pz : Z.frozen? ⟨W5.heap.size, 2, none⟩ = false := by subst hZ; rw [World.frozen?_setCell]; exact z0
            clear hZ
            go_wp2_with fail
            go_roundg (gk - 1)
            case measure => omega
            case rel => exact ⟨m + 1, a2, c2, by go_num, by omega, by (rw [decide_eq_true (by omega)]), by have t := p0; rw [hN2.out] at t; rw [HM.out]; exact t, by have t := OZ.out; rw [hN2.out] at t; rw [HM.out]; exact t, p1, p2, pz, nz⟩
    · obtain rfl : m = S.hs.length := by omega
      have HE := Lib.hid (cutl_end hj)
      have SV : Hid (SoupV.ok ⟨S.ts, S.bs, cutl S.hs j S.hs.length, b0, b1, a, k0, k1, c⟩ wr ∧ SoupV.own ⟨S.ts, S.bs, cutl S.hs j S.hs.length, b0, b1, a, k0, k1, c⟩ V2.heap.size) := Lib.hid ⟨⟨HS'.out.t.keep nr, HS'.out.b.keep nr, own_sl HopR.enc_len OW.out⟩, ⟨HO'.out.t, HO'.out.b, fun j hj => Nat.le_trans (by omega) (own_block OW.out j hj)⟩⟩
      go_wp2_with (refine wpList_store_row rfl 28 _ _ rfl _ _ rfl rfl (fz.keep (by (repeat (first | (with_reducible exact New.refl _) | (with_reducible assumption) | ((with_reducible refine New.setB ?_ ?_ _); focus (first | omega | (simp; omega) | (simp; done))) | (with_reducible refine New.alloc ?_ _) | (with_reducible refine New.drew ?_) | (with_reducible refine New.drewN ?_ _) | (with_reducible refine New.hat ?_ _) | ((with_reducible apply New.snart); (with_reducible assumption)))))) (by kernel_rfl) (by intro v hv; simp at hv; rcases hv with rfl | rfl | rfl <;> rfl) (fun Q nQ kQ cQ => ?_))
      have nz := nQ w (by first | exact nW | (repeat (first | (with_reducible exact New.refl _) | (with_reducible assumption) | ((with_reducible refine New.setB ?_ ?_ _); focus (first | omega | (simp; omega) | (simp; done))) | (with_reducible refine New.alloc ?_ _) | (with_reducible refine New.drew ?_) | (with_reducible refine New.drewN ?_ _) | (with_reducible refine New.hat ?_ _) | ((with_reducible apply New.snart); (with_reducible assumption))))) (by omega)
      have okq := SoupV.ok_but (SV.out.1) (SV.out.2) szV kQ
      have r0 : Q.cell? ⟨w.heap.size + 1, 0, none⟩ = some (.slice b0 S.ts.length k0) := by have := cQ 0 (by simp); simpa using this
      have r1 : Q.cell? ⟨w.heap.size + 1, 1, none⟩ = some (.slice b1 S.bs.length k1) := by have := cQ 1 (by simp); simpa using this
      have r2 : Q.cell? ⟨w.heap.size + 1, 2, none⟩ = some (.slice a ((cutl S.hs j S.hs.length).length) c) := by have := cQ 2 (by simp); simpa using this
      clear nQ kQ cQ
      refine bodyPost_ret (v := .tuple #[.agg #[.slice b0 S.ts.length k0, .slice b1 S.bs.length k1, .slice a ((cutl S.hs j S.hs.length).length) c], .int .i64 0]) (by simp [results, Tryz.results13, go_sem, r0, r1, r2]) rfl ?_
      exact ⟨⟨S.ts, S.bs, cutl S.hs j S.hs.length, b0, b1, a, k0, k1, c⟩, rfl, okq, rfl, rfl, HE.out, SV.out.2.mono (by omega), nz⟩

end Go.Proofs.YtonngfogbnfbnaaGreat
