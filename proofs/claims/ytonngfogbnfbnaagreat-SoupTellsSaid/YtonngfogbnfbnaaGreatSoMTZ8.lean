import Derived.Test.YtonngfogbnfbnaaGreatSoLTZ8
import Derived.Test.YtonngfogbnfbnaaGreatSoLBZ8
import Derived.Test.YtonngfogbnfbnaaGreatSoLHZ8
import Derived.Test.YtonngfogbnfbnaaGreatSoETZ8
import Derived.Test.YtonngfogbnfbnaaGreatSoSZ8
import Derived.Test.YtonngfogbnfbnaaGreatLoose

/- Package soup: one list in another one's place. -/
namespace Go.Proofs.YtonngfogbnfbnaaGreat
open Go.RowKit
set_option linter.unusedVariables false

def t_exV (S : SoupV) (b : Nat) : Nat → World → Value → Prop
  | 0, _, v => v = .pointer (some ⟨b, 0, none⟩)
  | 1, _, v => v = .slice S.a0 S.ts.length S.c0
  | 2, w, v => ∃ g, v = .slice (some ⟨g, 0, none⟩) 1 1 ∧ PartsAt TriR.enc 10 w g [⟨S.a0, S.ts, S.c0⟩]
  | 3, w, v => Sl TriR.enc 10 w v S.ts ∧ ∀ j, v.ownBlock = some j → b + 1 + 1 < j
  | 4, _, v => v = .pointer (some ⟨b, 1, none⟩)
  | 5, _, v => v = .slice S.a1 S.bs.length S.c1
  | 6, w, v => ∃ g, v = .slice (some ⟨g, 0, none⟩) 1 1 ∧ PartsAt BoxR.enc 8 w g [⟨S.a1, S.bs, S.c1⟩]
  | 7, w, v => Sl BoxR.enc 8 w v S.bs ∧ ∀ j, v.ownBlock = some j → b + 1 + 1 < j
  | 8, _, v => v = .pointer (some ⟨b, 2, none⟩)
  | 9, _, v => v = .slice S.a2 S.hs.length S.c2
  | 10, w, v => ∃ g, v = .slice (some ⟨g, 0, none⟩) 1 1 ∧ PartsAt HopR.enc 10 w g [⟨S.a2, S.hs, S.c2⟩]
  | 11, w, v => Sl HopR.enc 10 w v S.hs ∧ ∀ j, v.ownBlock = some j → b + 1 + 1 < j
  | _, w, v => ∃ x y z, v = .agg #[x, y, z] ∧ (Sl TriR.enc 10 w x S.ts ∧ ∀ j, x.ownBlock = some j → b + 1 + 1 < j) ∧ (Sl BoxR.enc 8 w y S.bs ∧ ∀ j, y.ownBlock = some j → b + 1 + 1 < j) ∧ (Sl HopR.enc 10 w z S.hs ∧ ∀ j, z.ownBlock = some j → b + 1 + 1 < j)
theorem t_exV_keep {S : SoupV} {b : Nat} : ∀ i w w' v, t_exV S b i w v → New w w' → t_exV S b i w' v := by
  intro i w w' v h hn
  rcases (show i = 0 ∨ i = 1 ∨ i = 2 ∨ i = 3 ∨ i = 4 ∨ i = 5 ∨ i = 6 ∨ i = 7 ∨ i = 8 ∨ i = 9 ∨ i = 10 ∨ i = 11 ∨ 12 ≤ i by omega) with rfl | rfl | rfl | rfl | rfl | rfl | rfl | rfl | rfl | rfl | rfl | rfl | hi
  · exact h
  · exact h
  · obtain ⟨g, e, p⟩ := h; exact ⟨g, e, p.keep hn⟩
  · exact ⟨Sl.keep h.1 hn, h.2⟩
  · exact h
  · exact h
  · obtain ⟨g, e, p⟩ := h; exact ⟨g, e, p.keep hn⟩
  · exact ⟨Sl.keep h.1 hn, h.2⟩
  · exact h
  · exact h
  · obtain ⟨g, e, p⟩ := h; exact ⟨g, e, p.keep hn⟩
  · exact ⟨Sl.keep h.1 hn, h.2⟩
  · obtain ⟨k, rfl⟩ : ∃ k, i = k + 12 := ⟨i - 12, by omega⟩
    obtain ⟨x, y, z, e, p, q, r⟩ := h
    exact ⟨x, y, z, e, ⟨p.1.keep hn, p.2⟩, ⟨q.1.keep hn, q.2⟩, r.1.keep hn, r.2⟩
theorem t_part {α : Type} {enc : α → List Value} {k : Nat} {w : World} {b : Nat} {a : Option Addr} {l : List α} {c : Nat} (hc : w.cell? ⟨b, 0, none⟩ = some (.slice a l.length c)) (hs : Sl enc k w (.slice a l.length c) l) : PartsAt enc k w b [⟨a, l, c⟩] := fun j hj => by
  obtain rfl : j = 0 := by simpa using hj
  exact ⟨hc, hs⟩

set_option maxHeartbeats 4000000 in
set_option maxRecDepth 100000 in
theorem t_exchange (S : SoupV) (a : Option Addr) (l : List TriR) (c : Nat) (w : World) (hS : S.ok w) (hl : Sl TriR.enc 10 w (.slice a l.length c) l) (ht : S.ts.length ≤ 1000) (hb : S.bs.length ≤ 1000) (hh : S.hs.length ≤ 1000) (hll : l.length ≤ 1000) :
    Calls Tryz.prog 72 #[.agg #[.slice S.a0 S.ts.length S.c0, .slice S.a1 S.bs.length S.c1, .slice S.a2 S.hs.length S.c2], .slice a l.length c, .agg #[.func (.func 49) #[] #[], .func (.func 50) #[] #[], .int .i64 200, .int .i64 40, .func (.func 51) #[] #[]]] w (SoupIs l S.bs S.hs w) := by
  have hL := Lib.hid (fun b W => t_list b W)
  obtain ⟨S1, hS1⟩ : ∃ S1 : SoupV, S1 = ⟨l, S.bs, S.hs, a, S.a1, S.a2, c, S.c1, S.c2⟩ := ⟨_, rfl⟩
  have hok : S1.ok w := by subst hS1; exact ⟨hl, hS.b, hS.h⟩
  have et : S1.ts = l := by subst hS1; rfl
  have eb : S1.bs = S.bs := by subst hS1; rfl
  have eh : S1.hs = S.hs := by subst hS1; rfl
  have ht1 : S1.ts.length ≤ 1000 := by rw [et]; assumption
  have hb1 : S1.bs.length ≤ 1000 := by rw [eb]; assumption
  have hh1 : S1.hs.length ≤ 1000 := by rw [eh]; assumption
  rw [← et, ← eb, ← eh]
  go_enter Tryz.func72, Tryz.ntmps72
  go_wp2_with (go_at_call 49; refine (hL.out _ _).mono ?_; rintro e w' ⟨rfl, rfl⟩)
  clear hL
  have HOK := Lib.hid hok
  have HT := Lib.hid ht1
  have HB := Lib.hid hb1
  have HH := Lib.hid hh1
  generalize hW : World.alloc _ _ = W
  have hn : New w W := by subst hW; (repeat (first | (with_reducible exact New.refl _) | (with_reducible assumption) | ((with_reducible refine New.setB ?_ ?_ _); focus (first | omega | (simp; omega) | (simp; done))) | (with_reducible refine New.alloc ?_ _) | (with_reducible refine New.drew ?_) | (with_reducible refine New.drewN ?_ _) | (with_reducible refine New.hat ?_ _) | ((with_reducible apply New.snart); (with_reducible assumption))))
  have q0 : W.cell? ⟨w.heap.size, 0, none⟩ = some (.slice S1.a0 S1.ts.length S1.c0) := by subst hW; subst hS1; go_simp
  have q1 : W.cell? ⟨w.heap.size, 1, none⟩ = some (.slice S1.a1 S1.bs.length S1.c1) := by subst hW; subst hS1; go_simp
  have q2 : W.cell? ⟨w.heap.size, 2, none⟩ = some (.slice S1.a2 S1.hs.length S1.c2) := by subst hW; subst hS1; go_simp
  have fz : Thr W (w.heap.size + 1 + 1) 3 := by subst hW; exact Thr.new _ _ _ _ (by simp)
  clear hW hok ht1 hb1 hh1 hS1 et eb eh hl hS ht hb hh hll
  refine wp_region_loose 13 (t_exV S1 w.heap.size) (by kernel_rfl) (by kernel_rfl) t_exV_keep ?_ ?_
  · intro i o hi ho a' w' nn hr hd
    rcases (show i = 0 ∨ i = 1 ∨ i = 2 ∨ i = 3 ∨ i = 4 ∨ i = 5 ∨ i = 6 ∨ i = 7 ∨ i = 8 ∨ i = 9 ∨ i = 10 ∨ i = 11 ∨ i = 12 by omega) with rfl | rfl | rfl | rfl | rfl | rfl | rfl | rfl | rfl | rfl | rfl | rfl | rfl <;> obtain rfl := Option.some.inj ho
    · have r3 : (a'.tmps[3]?).getD undef = .pointer (some ⟨w.heap.size, 0, none⟩) := (eval_get a' 3).symm.trans (hr 3 (by kernel_rfl))
      exact yields_value (.pointer (some ⟨w.heap.size, 0, none⟩)) (by go_simp) ⟨New.refl _, rfl⟩
    · have r : (a'.tmps[12]?).getD undef = _ := (eval_get a' 12).symm.trans <| (hd 0 12 (by omega) (by kernel_rfl) (by kernel_rfl) : a'.eval (.tmp 12) = .pointer (some ⟨w.heap.size, 0, none⟩))
      have x := nn.keep q0
      exact yields_value (.slice S1.a0 S1.ts.length S1.c0) (by go_simp) ⟨New.refl _, rfl⟩
    · have r : (a'.tmps[13]?).getD undef = _ := (eval_get a' 13).symm.trans <| (hd 1 13 (by omega) (by kernel_rfl) (by kernel_rfl) : a'.eval (.tmp 13) = .slice S1.a0 S1.ts.length S1.c0)
      have hnew := (New.refl w').alloc (.cells #[.slice S1.a0 S1.ts.length S1.c0] 24)
      exact yields_value (w' := w'.alloc (.cells #[.slice S1.a0 S1.ts.length S1.c0] 24)) (.slice (some ⟨w'.heap.size, 0, none⟩) 1 1) (by go_simp)
        ⟨hnew, _, rfl, t_part (by go_simp) (HOK.out.t.keep ((hn.trans nn).trans hnew))⟩
    · obtain ⟨g, hg, hp⟩ := (hd 2 14 (by omega) (by kernel_rfl) (by kernel_rfl) : ∃ g, a'.eval (.tmp 14) = .slice (some ⟨g, 0, none⟩) 1 1 ∧ PartsAt TriR.enc 10 w' g [⟨S1.a0, S1.ts, S1.c0⟩])
      have r : (a'.tmps[14]?).getD undef = _ := (eval_get a' 14).symm.trans hg
      refine yields_enter 73 #[.slice (some ⟨g, 0, none⟩) 1 1] (by go_simp) ((t_concat g 1 [⟨S1.a0, S1.ts, S1.c0⟩] (by simp) (by simpa using HT.out) w' hp).mono ?_)
      rintro e w'' ⟨v, he, hs, ho, hn2⟩
      refine ⟨v, he, hn2, ?_⟩
      simp only [List.flatMap_cons, List.flatMap_nil, List.append_nil] at hs
      exact ⟨hs, fun j hj => by have := ho j hj; have := fz.lt (by omega); have := nn.size; omega⟩
    · have r3 : (a'.tmps[3]?).getD undef = .pointer (some ⟨w.heap.size, 0, none⟩) := (eval_get a' 3).symm.trans (hr 3 (by kernel_rfl))
      exact yields_value (.pointer (some ⟨w.heap.size, 1, none⟩)) (by go_simp) ⟨New.refl _, rfl⟩
    · have r : (a'.tmps[16]?).getD undef = _ := (eval_get a' 16).symm.trans <| (hd 4 16 (by omega) (by kernel_rfl) (by kernel_rfl) : a'.eval (.tmp 16) = .pointer (some ⟨w.heap.size, 1, none⟩))
      have x := nn.keep q1
      exact yields_value (.slice S1.a1 S1.bs.length S1.c1) (by go_simp) ⟨New.refl _, rfl⟩
    · have r : (a'.tmps[17]?).getD undef = _ := (eval_get a' 17).symm.trans <| (hd 5 17 (by omega) (by kernel_rfl) (by kernel_rfl) : a'.eval (.tmp 17) = .slice S1.a1 S1.bs.length S1.c1)
      have hnew := (New.refl w').alloc (.cells #[.slice S1.a1 S1.bs.length S1.c1] 25)
      exact yields_value (w' := w'.alloc (.cells #[.slice S1.a1 S1.bs.length S1.c1] 25)) (.slice (some ⟨w'.heap.size, 0, none⟩) 1 1) (by go_simp)
        ⟨hnew, _, rfl, t_part (by go_simp) (HOK.out.b.keep ((hn.trans nn).trans hnew))⟩
    · obtain ⟨g, hg, hp⟩ := (hd 6 18 (by omega) (by kernel_rfl) (by kernel_rfl) : ∃ g, a'.eval (.tmp 18) = .slice (some ⟨g, 0, none⟩) 1 1 ∧ PartsAt BoxR.enc 8 w' g [⟨S1.a1, S1.bs, S1.c1⟩])
      have r : (a'.tmps[18]?).getD undef = _ := (eval_get a' 18).symm.trans hg
      refine yields_enter 75 #[.slice (some ⟨g, 0, none⟩) 1 1] (by go_simp) ((b_concat g 1 [⟨S1.a1, S1.bs, S1.c1⟩] (by simp) (by simpa using HB.out) w' hp).mono ?_)
      rintro e w'' ⟨v, he, hs, ho, hn2⟩
      refine ⟨v, he, hn2, ?_⟩
      simp only [List.flatMap_cons, List.flatMap_nil, List.append_nil] at hs
      exact ⟨hs, fun j hj => by have := ho j hj; have := fz.lt (by omega); have := nn.size; omega⟩
    · have r3 : (a'.tmps[3]?).getD undef = .pointer (some ⟨w.heap.size, 0, none⟩) := (eval_get a' 3).symm.trans (hr 3 (by kernel_rfl))
      exact yields_value (.pointer (some ⟨w.heap.size, 2, none⟩)) (by go_simp) ⟨New.refl _, rfl⟩
    · have r : (a'.tmps[20]?).getD undef = _ := (eval_get a' 20).symm.trans <| (hd 8 20 (by omega) (by kernel_rfl) (by kernel_rfl) : a'.eval (.tmp 20) = .pointer (some ⟨w.heap.size, 2, none⟩))
      have x := nn.keep q2
      exact yields_value (.slice S1.a2 S1.hs.length S1.c2) (by go_simp) ⟨New.refl _, rfl⟩
    · have r : (a'.tmps[21]?).getD undef = _ := (eval_get a' 21).symm.trans <| (hd 9 21 (by omega) (by kernel_rfl) (by kernel_rfl) : a'.eval (.tmp 21) = .slice S1.a2 S1.hs.length S1.c2)
      have hnew := (New.refl w').alloc (.cells #[.slice S1.a2 S1.hs.length S1.c2] 26)
      exact yields_value (w' := w'.alloc (.cells #[.slice S1.a2 S1.hs.length S1.c2] 26)) (.slice (some ⟨w'.heap.size, 0, none⟩) 1 1) (by go_simp)
        ⟨hnew, _, rfl, t_part (by go_simp) (HOK.out.h.keep ((hn.trans nn).trans hnew))⟩
    · obtain ⟨g, hg, hp⟩ := (hd 10 22 (by omega) (by kernel_rfl) (by kernel_rfl) : ∃ g, a'.eval (.tmp 22) = .slice (some ⟨g, 0, none⟩) 1 1 ∧ PartsAt HopR.enc 10 w' g [⟨S1.a2, S1.hs, S1.c2⟩])
      have r : (a'.tmps[22]?).getD undef = _ := (eval_get a' 22).symm.trans hg
      refine yields_enter 77 #[.slice (some ⟨g, 0, none⟩) 1 1] (by go_simp) ((h_concat g 1 [⟨S1.a2, S1.hs, S1.c2⟩] (by simp) (by simpa using HH.out) w' hp).mono ?_)
      rintro e w'' ⟨v, he, hs, ho, hn2⟩
      refine ⟨v, he, hn2, ?_⟩
      simp only [List.flatMap_cons, List.flatMap_nil, List.append_nil] at hs
      exact ⟨hs, fun j hj => by have := ho j hj; have := fz.lt (by omega); have := nn.size; omega⟩
    · obtain ⟨h3, o3⟩ : Sl TriR.enc 10 w' (a'.eval (.tmp 15)) S1.ts ∧ ∀ j, (a'.eval (.tmp 15)).ownBlock = some j → w.heap.size + 1 + 1 < j := hd 3 15 (by omega) (by kernel_rfl) (by kernel_rfl)
      obtain ⟨h7, o7⟩ : Sl BoxR.enc 8 w' (a'.eval (.tmp 19)) S1.bs ∧ ∀ j, (a'.eval (.tmp 19)).ownBlock = some j → w.heap.size + 1 + 1 < j := hd 7 19 (by omega) (by kernel_rfl) (by kernel_rfl)
      obtain ⟨h11, o11⟩ : Sl HopR.enc 10 w' (a'.eval (.tmp 23)) S1.hs ∧ ∀ j, (a'.eval (.tmp 23)).ownBlock = some j → w.heap.size + 1 + 1 < j := hd 11 23 (by omega) (by kernel_rfl) (by kernel_rfl)
      obtain ⟨x0, x1, ex, -⟩ := id h3
      obtain ⟨y0, y1, ey, -⟩ := id h7
      obtain ⟨z0, z1, ez, -⟩ := id h11
      rw [ex] at h3 o3
      rw [ey] at h7 o7
      rw [ez] at h11 o11
      have r15 : (a'.tmps[15]?).getD undef = _ := (eval_get a' 15).symm.trans ex
      have r19 : (a'.tmps[19]?).getD undef = _ := (eval_get a' 19).symm.trans ey
      have r23 : (a'.tmps[23]?).getD undef = _ := (eval_get a' 23).symm.trans ez
      exact yields_value (.agg #[.slice x0 S1.ts.length x1, .slice y0 S1.bs.length y1, .slice z0 S1.hs.length z1]) (by go_simp) ⟨New.refl _, _, _, _, rfl, ⟨h3, o3⟩, ⟨h7, o7⟩, h11, o11⟩
  · intro vs w' nn hv
    obtain ⟨x, y, z, e12, ⟨h3, o3⟩, ⟨h7, o7⟩, h11, o11⟩ := (hv 12 (by omega) : ∃ x y z, vs 12 = .agg #[x, y, z] ∧ (Sl TriR.enc 10 w' x S1.ts ∧ ∀ j, x.ownBlock = some j → w.heap.size + 1 + 1 < j) ∧ (Sl BoxR.enc 8 w' y S1.bs ∧ ∀ j, y.ownBlock = some j → w.heap.size + 1 + 1 < j) ∧ (Sl HopR.enc 10 w' z S1.hs ∧ ∀ j, z.ownBlock = some j → w.heap.size + 1 + 1 < j))
    simp only [List.take_succ_cons, List.take_zero, List.drop_succ_cons, List.drop_zero, putL, Act.put, List.setIfInBounds_toArray, List.set_cons_zero, List.set_cons_succ, Nat.reduceAdd, Nat.zero_add]
    rw [e12]
    obtain ⟨x0, x1, rfl, -⟩ := id h3
    obtain ⟨y0, y1, rfl, -⟩ := id h7
    obtain ⟨z0, z1, rfl, -⟩ := id h11
    have H3 := Lib.hid (And.intro h3 o3)
    have H7 := Lib.hid (And.intro h7 o7)
    have H11 := Lib.hid (And.intro h11 o11)
    clear hv e12 q0 q1 q2 h3 h7 h11 o3 o7 o11
    go_wp2_with (refine wpList_store_row rfl 28 _ _ rfl _ _ rfl rfl (fz.keep nn) (by kernel_rfl) (by intro v hv; simp at hv; rcases hv with rfl | rfl | rfl <;> rfl) (fun Z nZ kZ cZ => ?_))
    have nz := nZ w (hn.trans nn) (by omega)
    have g3 := sl_but H3.out.1 (fun j hj => by have := H3.out.2 j hj; omega) kZ
    have g7 := sl_but H7.out.1 (fun j hj => by have := H7.out.2 j hj; omega) kZ
    have g11 := sl_but H11.out.1 (fun j hj => by have := H11.out.2 j hj; omega) kZ
    have r0 := cZ 0 (by simp)
    have r1 := cZ 1 (by simp)
    have r2 := cZ 2 (by simp)
    simp only [Nat.zero_add, List.getElem_cons_zero, List.getElem_cons_succ] at r0 r1 r2
    clear nZ kZ cZ
    refine bodyPost_ret (v := .agg #[.slice x0 S1.ts.length x1, .slice y0 S1.bs.length y1, .slice z0 S1.hs.length z1]) (by simp [results, Tryz.results72, go_sem, r0, r1, r2]) rfl ?_
    exact ⟨⟨S1.ts, S1.bs, S1.hs, x0, y0, z0, x1, y1, z1⟩, rfl, ⟨g3, g7, g11⟩, rfl, rfl, rfl, ⟨fun j hj => by have := H3.out.2 j hj; omega, fun j hj => by have := H7.out.2 j hj; omega, fun j hj => by have := H11.out.2 j hj; omega⟩, nz⟩

end Go.Proofs.YtonngfogbnfbnaaGreat
