import Derived.Test.YtonngfogbnfbnaaGreatSoIHZ8
import Derived.Test.YtonngfogbnfbnaaGreatLoose

/- Package soup: Tri, Box, Hop. -/
namespace Go.Proofs.YtonngfogbnfbnaaGreat
open Go.RowKit
set_option linter.unusedVariables false

def h_gotV (S : SoupV) (id z : Int) : Nat → Value
  | 0 => .agg #[.slice S.a0 S.ts.length S.c0, .slice S.a1 S.bs.length S.c1, .slice S.a2 S.hs.length S.c2]
  | 1 => .int .i64 id
  | 2 => .agg #[.func (.func 64) #[] #[], .func (.func 65) #[] #[], .int .i64 16, .int .i64 2, .func (.func 66) #[] #[]]
  | 3 => .tuple #[.agg #[.int .i64 (HopR.got S.hs z).i, .int .i64 (HopR.got S.hs z).fx, .int .i64 (HopR.got S.hs z).fz, .int .i64 (HopR.got S.hs z).fy, .int .i64 (HopR.got S.hs z).tx, .int .i64 (HopR.got S.hs z).tz, .int .i64 (HopR.got S.hs z).ty, .bool (HopR.got S.hs z).bo, .int .i64 (HopR.got S.hs z).ar, .int .i64 (HopR.got S.hs z).co], .bool (decide (0 ≤ z))]
  | 4 => .agg #[.int .i64 (HopR.got S.hs z).i, .int .i64 (HopR.got S.hs z).fx, .int .i64 (HopR.got S.hs z).fz, .int .i64 (HopR.got S.hs z).fy, .int .i64 (HopR.got S.hs z).tx, .int .i64 (HopR.got S.hs z).tz, .int .i64 (HopR.got S.hs z).ty, .bool (HopR.got S.hs z).bo, .int .i64 (HopR.got S.hs z).ar, .int .i64 (HopR.got S.hs z).co]
  | _ => .bool (decide (0 ≤ z))

set_option maxHeartbeats 4000000 in
set_option maxRecDepth 100000 in
theorem h_get (S : SoupV) (id z : Int) (hz : HopR.IsFirst S.hs id z) (w : World) (hS : S.ok w) :
    Calls Tryz.prog 10 #[.agg #[.slice S.a0 S.ts.length S.c0, .slice S.a1 S.bs.length S.c1, .slice S.a2 S.hs.length S.c2], .int .i64 id] w fun e w' => e = .returned (.tuple #[.agg #[.int .i64 (HopR.got S.hs z).i, .int .i64 (HopR.got S.hs z).fx, .int .i64 (HopR.got S.hs z).fz, .int .i64 (HopR.got S.hs z).fy, .int .i64 (HopR.got S.hs z).tx, .int .i64 (HopR.got S.hs z).tz, .int .i64 (HopR.got S.hs z).ty, .bool (HopR.got S.hs z).bo, .int .i64 (HopR.got S.hs z).ar, .int .i64 (HopR.got S.hs z).co], .bool (decide (0 ≤ z))]) ∧ New w w' := by
  have HF := Lib.hid (fun W (n : New w W) => h_find S id z hz W (hS.keep n))
  have HK := Lib.hid (fun W => h_kind W)
  obtain ⟨V, hVV⟩ : ∃ V, V = h_gotV S id z := ⟨_, rfl⟩
  have E0 := congrFun hVV 0
  have E1 := congrFun hVV 1
  have E2 := congrFun hVV 2
  have E3 := congrFun hVV 3
  have E4 := congrFun hVV 4
  have E5 := congrFun hVV 5
  simp only [h_gotV] at E0 E1 E2 E3 E4 E5
  clear hVV hS hz
  generalize hg : HopR.got S.hs z = r at *
  generalize hb : decide (0 ≤ z) = b at *
  clear hg hb
  go_enter Tryz.func10, Tryz.ntmps10
  go_upto_region 1 with fail
  generalize hW : World.alloc _ _ = W
  have hn : New w W := by subst hW; (repeat (first | (with_reducible exact New.refl _) | (with_reducible assumption) | ((with_reducible refine New.setB ?_ ?_ _); focus (first | omega | (simp; omega) | (simp; done))) | (with_reducible refine New.alloc ?_ _) | (with_reducible refine New.drew ?_) | (with_reducible refine New.drewN ?_ _) | (with_reducible refine New.hat ?_ _) | ((with_reducible apply New.snart); (with_reducible assumption))))
  have q0 : W.cell? ⟨w.heap.size, 0, none⟩ = some (.slice S.a0 S.ts.length S.c0) := by subst hW; go_simp
  have q1 : W.cell? ⟨w.heap.size, 1, none⟩ = some (.slice S.a1 S.bs.length S.c1) := by subst hW; go_simp
  have q2 : W.cell? ⟨w.heap.size, 2, none⟩ = some (.slice S.a2 S.hs.length S.c2) := by subst hW; go_simp
  have fz : Thr W (w.heap.size + 1) 10 := by subst hW; exact Thr.new _ _ _ _ (by simp)
  clear hW
  refine wp_region_loose 6 (fun i _ v => v = V i) (by kernel_rfl) (by kernel_rfl) (fun _ _ _ _ h _ => h) ?_ ?_
  · intro i o hi ho a' w' nn hr hd
    rcases (show i = 0 ∨ i = 1 ∨ i = 2 ∨ i = 3 ∨ i = 4 ∨ i = 5 by omega) with rfl | rfl | rfl | rfl | rfl | rfl <;> obtain rfl := Option.some.inj ho
    · have r2 : (a'.tmps[2]?).getD undef = .pointer (some ⟨w.heap.size, 0, none⟩) := (eval_get a' 2).symm.trans (hr 2 (by kernel_rfl))
      have x0 := nn.keep q0
      have x1 := nn.keep q1
      have x2 := nn.keep q2
      exact yields_value (V 0) (by rw [E0]; go_simp) ⟨New.refl _, rfl⟩
    · have r2 : (a'.tmps[1]?).getD undef = .int .i64 id := (eval_get a' 1).symm.trans (hr 1 (by kernel_rfl))
      exact yields_value (V 1) (by rw [E1]; go_simp) ⟨New.refl _, rfl⟩
    · exact yields_enter 26 #[] (by go_simp) ((HK.out _).mono fun e w'' ⟨he, hn⟩ => ⟨_, he, hn, E2.symm⟩)
    · have r6 : (a'.tmps[6]?).getD undef = _ := (eval_get a' 6).symm.trans <| (hd 0 6 (by omega) (by kernel_rfl) (by kernel_rfl)).trans E0
      have r7 : (a'.tmps[7]?).getD undef = _ := (eval_get a' 7).symm.trans <| (hd 1 7 (by omega) (by kernel_rfl) (by kernel_rfl)).trans E1
      have r8 : (a'.tmps[8]?).getD undef = _ := (eval_get a' 8).symm.trans <| (hd 2 8 (by omega) (by kernel_rfl) (by kernel_rfl)).trans E2
      exact yields_enter 25 #[.agg #[.slice S.a0 S.ts.length S.c0, .slice S.a1 S.bs.length S.c1, .slice S.a2 S.hs.length S.c2], .int .i64 id, .agg #[.func (.func 64) #[] #[], .func (.func 65) #[] #[], .int .i64 16, .int .i64 2, .func (.func 66) #[] #[]]] (by go_simp) ((HF.out _ (hn.trans nn)).mono fun e w'' ⟨he, hn⟩ => ⟨_, he, hn, E3.symm⟩)
    · have r9 : (a'.tmps[9]?).getD undef = _ := (eval_get a' 9).symm.trans <| (hd 3 9 (by omega) (by kernel_rfl) (by kernel_rfl)).trans E3
      exact yields_value (V 4) (by rw [E4]; go_simp) ⟨New.refl _, rfl⟩
    · have r9 : (a'.tmps[9]?).getD undef = _ := (eval_get a' 9).symm.trans <| (hd 3 9 (by omega) (by kernel_rfl) (by kernel_rfl)).trans E3
      exact yields_value (V 5) (by rw [E5]; go_simp) ⟨New.refl _, rfl⟩
  · intro vs w' nn hv
    have e4 := (hv 4 (by omega)).trans E4
    have e5 := (hv 5 (by omega)).trans E5
    simp only [List.take_succ_cons, List.take_zero, List.drop_succ_cons, List.drop_zero, putL, Act.put, List.setIfInBounds_toArray, List.set_cons_zero, List.set_cons_succ, Nat.reduceAdd, Nat.zero_add]
    rw [e4, e5]
    clear hv e4 e5 HF HK E0 E1 E2 E3 E4 E5 q0 q1 q2
    go_wp2_with (refine wpList_store_row rfl 45 _ _ rfl _ _ rfl rfl (fz.keep nn) (by kernel_rfl) (HopR.enc_one r) (fun Z nZ kZ cZ => ?_))
    have nz := nZ w (hn.trans nn) (by omega)
    obtain ⟨r0, r1, r2, r3, r4, r5, r6, r7, r8, r9⟩ := HopR.at (x := r) cZ
    clear nZ kZ cZ
    refine bodyPost_ret (v := .tuple #[.agg #[.int .i64 r.i, .int .i64 r.fx, .int .i64 r.fz, .int .i64 r.fy, .int .i64 r.tx, .int .i64 r.tz, .int .i64 r.ty, .bool r.bo, .int .i64 r.ar, .int .i64 r.co], .bool b]) (by simp [results, Tryz.results10, go_sem, r0, r1, r2, r3, r4, r5, r6, r7, r8, r9]) rfl ?_
    exact ⟨rfl, nz⟩

end Go.Proofs.YtonngfogbnfbnaaGreat
