import Derived.Test.YtonngfogbnfbnaaGreatSoLTZ8
import Derived.Test.YtonngfogbnfbnaaGreatSoLBZ8
import Derived.Test.YtonngfogbnfbnaaGreatSoLHZ8
import Derived.Test.YtonngfogbnfbnaaGreatSoEHZ8
import Derived.Test.YtonngfogbnfbnaaGreatSoSZ8
import Derived.Test.YtonngfogbnfbnaaGreatLoose
import Derived.Test.YtonngfogbnfbnaaGreatSoHHZ8

/- Package soup: one list in another one's place. -/
namespace Go.Proofs.YtonngfogbnfbnaaGreat
open Go.RowKit
set_option linter.unusedVariables false

def h_exV (S : SoupV) (b : Nat) : Nat → World → Value → Prop
  | 0, _, v => v = .pointer (some ⟨b, 0, none⟩)
  | 1, _, v => v = .slice S.a0 S.ts.length S.c0
  | 2, w, v => ∃ g, v = .slice (some ⟨g, 0, none⟩) 1 1 ∧ PartsAt TriR.enc 10 w g [⟨S.a0, S.ts, S.c0⟩]
  | 3, w, v => Sl TriR.enc 10 w v S.ts ∧ ∀ j, v.ownBlock = some j → b + 1 + 1 < j
  | 4, _, v => v = .pointer (some ⟨b, 1, none⟩)
  | 5, _, v => v = .slice S.a1 S.bs.length S.c1
  | 6, w, v => ∃ g, v = .slice (some ⟨g, 0, none⟩) 1 1 ∧ PartsAt BoxR.enc 8 w g [⟨S.a1, S.bs, S.c1⟩]
  | 7, w, v => Sl BoxR.enc 8 w v S.bs ∧ ∀ j, v.ownBlock = some j → b + 1 + 1 < j
  | 8, _, v => v = .pointer (some ⟨b, 2, none⟩)
  | 9, _, v => v = .slice S.a2 S.hs.length S.c2
  | 10, w, v => ∃ g, v = .slice (some ⟨g, 0, none⟩) 1 1 ∧ PartsAt HopR.enc 10 w g [⟨S.a2, S.hs, S.c2⟩]
  | 11, w, v => Sl HopR.enc 10 w v S.hs ∧ ∀ j, v.ownBlock = some j → b + 1 + 1 < j
  | _, w, v => ∃ x y z, v = .agg #[x, y, z] ∧ (Sl TriR.enc 10 w x S.ts ∧ ∀ j, x.ownBlock = some j → b + 1 + 1 < j) ∧ (Sl BoxR.enc 8 w y S.bs ∧ ∀ j, y.ownBlock = some j → b + 1 + 1 < j) ∧ (Sl HopR.enc 10 w z S.hs ∧ ∀ j, z.ownBlock = some j → b + 1 + 1 < j)
theorem h_exV_keep {S : SoupV} {b : Nat} : ∀ i w w' v, h_exV S b i w v → New w w' → h_exV S b i w' v := by
  intro i w w' v h hn
  rcases (show i = 0 ∨ i = 1 ∨ i = 2 ∨ i = 3 ∨ i = 4 ∨ i = 5 ∨ i = 6 ∨ i = 7 ∨ i = 8 ∨ i = 9 ∨ i = 10 ∨ i = 11 ∨ 12 ≤ i by omega) with rfl | rfl | rfl | rfl | rfl | rfl | rfl | rfl | rfl | rfl | rfl | rfl | hi
  · exact h
  · exact h
  · obtain ⟨g, e, p⟩ := h; exact ⟨g, e, p.keep hn⟩
  · exact ⟨Sl.keep h.1 hn, h.2⟩
  · exact h
  · exact h
  · obtain ⟨g, e, p⟩ := h; exact ⟨g, e, p.keep hn⟩
  · exact ⟨Sl.keep h.1 hn, h.2⟩
  · exact h
  · exact h
  · obtain ⟨g, e, p⟩ := h; exact ⟨g, e, p.keep hn⟩
  · exact ⟨Sl.keep h.1 hn, h.2⟩
  · obtain ⟨k, rfl⟩ : ∃ k, i = k + 12 := ⟨i - 12, by omega⟩
    obtain ⟨x, y, z, e, p, q, r⟩ := h
    exact ⟨x, y, z, e, ⟨p.1.keep hn, p.2⟩, ⟨q.1.keep hn, q.2⟩, r.1.keep hn, r.2⟩
theorem h_part {α : Type} {enc : α → List Value} {k : Nat} {w : World} {b : Nat} {a : Option Addr} {l : List α} {c : Nat} (hc : w.cell? ⟨b, 0, none⟩ = some (.slice a l.length c)) (hs : Sl enc k w (.slice a l.length c) l) : PartsAt enc k w b [⟨a, l, c⟩] := fun j hj => by
  obtain rfl : j = 0 := by simpa using hj
  exact ⟨hc, hs⟩

set_option maxHeartbeats 4000000 in
set_option maxRecDepth 100000 in
theorem h_exchange (S : SoupV) (a : Option Addr) (l : List HopR) (c : Nat) (w : World) (hS : S.ok w) (hl : Sl HopR.enc 10 w (.slice a l.length c) l) (ht : S.ts.length ≤ 1000) (hb : S.bs.length ≤ 1000) (hh : S.hs.length ≤ 1000) (hll : l.length ≤ 1000) :
    Calls Tryz.prog 76 #[.agg #[.slice S.a0 S.ts.length S.c0, .slice S.a1 S.bs.length S.c1, .slice S.a2 S.hs.length S.c2], .slice a l.length c, .agg #[.func (.func 64) #[] #[], .func (.func 65) #[] #[], .int .i64 16, .int .i64 2, .func (.func 66) #[] #[]]] w (SoupIs S.ts S.bs l w) := by
  have hL := Lib.hid (fun b W => h_list b W)
  obtain ⟨S1, hS1⟩ : ∃ S1 : SoupV, S1 = ⟨S.ts, S.bs, l, S.a0, S.a1, a, S.c0, S.c1, c⟩ := ⟨_, rfl⟩
  have hok : S1.ok w := by subst hS1; exact ⟨hS.t, hS.b, hl⟩
  have et : S1.ts = S.ts := by subst hS1; rfl
  have eb : S1.bs = S.bs := by subst hS1; rfl
  have eh : S1.hs = l := by subst hS1; rfl
  have ht1 : S1.ts.length ≤ 1000 := by rw [et]; assumption
  have hb1 : S1.bs.length ≤ 1000 := by rw [eb]; assumption
  have hh1 : S1.hs.length ≤ 1000 := by rw [eh]; assumption
  rw [← et, ← eb, ← eh]
  go_enter Tryz.func76, Tryz.ntmps76
  go_wp2_with (go_at_call 64; refine (hL.out _ _).mono ?_; rintro e w' ⟨rfl, rfl⟩)
  clear hL
  have HOK := Lib.hid hok
  have HT := Lib.hid ht1
  have HB := Lib.hid hb1
  have HH := Lib.hid hh1
  generalize hW : World.alloc _ _ = W
  have hn : New w W := by subst hW; (repeat (first | (with_reducible exact New.refl _) | (with_reducible assumption) | ((with_reducible refine New.setB ?_ ?_ _); focus (first | omega | (simp; omega) | (simp; done))) | (with_reducible refine New.alloc ?_ _) | (with_reducible refine New.drew ?_) | (with_reducible refine New.drewN ?_ _) | (with_reducible refine New.hat ?_ _) | ((with_reducible apply New.snart); (with_reducible assumption))))
  have q0 : W.cell? ⟨w.heap.size, 0, none⟩ = some (.slice S1.a0 S1.ts.length S1.c0) := by subst hW; subst hS1; go_simp
  have q1 : W.cell? ⟨w.heap.size, 1, none⟩ = some (.slice S1.a1 S1.bs.length S1.c1) := by subst hW; subst hS1; go_simp
  have q2 : W.cell? ⟨w.heap.size, 2, none⟩ = some (.slice S1.a2 S1.hs.length S1.c2) := by subst hW; subst hS1; go_simp
  have fz : Thr W (w.heap.size + 1 + 1) 3 := by subst hW; exact Thr.new _ _ _ _ (by simp)
  clear hW hok ht1 hb1 hh1 hS1 et eb eh hl hS ht hb hh hll
  refine wp_region_loose 13 (h_exV S1 w.heap.size) (by kernel_rfl) (by kernel_rfl) h_exV_keep ?_ ?_
  · intro i o hi ho a' w' nn hr hd
    rcases (show i = 0 ∨ i = 1 ∨ i = 2 ∨ i = 3 ∨ i = 4 ∨ i = 5 ∨ i = 6 ∨ i = 7 ∨ i = 8 ∨ i = 9 ∨ i = 10 ∨ i = 11 ∨ i = 12 by omega) with rfl | rfl | rfl | rfl | rfl | rfl | rfl | rfl | rfl | rfl | rfl | rfl | rfl <;> obtain rfl := Option.some.inj ho
    · have r3 : (a'.tmps[3]?).getD undef = .pointer (some ⟨w.heap.size, 0, none⟩) := (eval_get a' 3).symm.trans (hr 3 (by kernel_rfl))
      exact yields_value (.pointer (some ⟨w.heap.size, 0, none⟩)) (by go_simp) ⟨New.refl _, rfl⟩
    · have r : (a'.tmps[12]?).getD undef = _ := (eval_get a' 12).symm.trans <| (hd 0 12 (by omega) (by kernel_rfl) (by kernel_rfl) : a'.eval (.tmp 12) = .pointer (some ⟨w.heap.size, 0, none⟩))
      have x := nn.keep q0
      exact yields_value (.slice S1.a0 S1.ts.length S1.c0) (by go_simp) ⟨New.refl _, rfl⟩
    · have r : (a'.tmps[13]?).getD undef = _ := (eval_get a' 13).symm.trans <| (hd 1 13 (by omega) (by kernel_rfl) (by kernel_rfl) : a'.eval (.tmp 13) = .slice S1.a0 S1.ts.length S1.c0)
      have hnew := (New.refl w').alloc (.cells #[.slice S1.a0 S1.ts.length S1.c0] 24)
      exact yields_value (w' := w'.alloc (.cells #[.slice S1.a0 S1.ts.length S1.c0] 24)) (.slice (some ⟨w'.heap.size, 0, none⟩) 1 1) (by go_simp)
        ⟨hnew, _, rfl, h_part (by go_simp) (HOK.out.t.keep ((hn.trans nn).trans hnew))⟩
    · obtain ⟨g, hg, hp⟩ := (hd 2 14 (by omega) (by kernel_rfl) (by kernel_rfl) : ∃ g, a'.eval (.tmp 14) = .slice (some ⟨g, 0, none⟩) 1 1 ∧ PartsAt TriR.enc 10 w' g [⟨S1.a0, S1.ts, S1.c0⟩])
      have r : (a'.tmps[14]?).getD undef = _ := (eval_get a' 14).symm.trans hg
      refine yields_enter 73 #[.slice (some ⟨g, 0, none⟩) 1 1] (by go_simp) ((t_concat g 1 [⟨S1.a0, S1.ts, S1.c0⟩] (by simp) (by simpa using HT.out) w' hp).mono ?_)
      rintro e w'' ⟨v, he, hs, ho, hn2⟩
      refine ⟨v, he, hn2, ?_⟩
      simp only [List.flatMap_cons, List.flatMap_nil, List.append_nil] at hs
      exact ⟨hs, fun j hj => by have := ho j hj; have := fz.lt (by omega); have := nn.size; omega⟩
    · have r3 : (a'.tmps[3]?).getD undef = .pointer (some ⟨w.heap.size, 0, none⟩) := (eval_get a' 3).symm.trans (hr 3 (by kernel_rfl))
      exact yields_value (.pointer (some ⟨w.heap.size, 1, none⟩)) (by go_simp) ⟨New.refl _, rfl⟩
    · have r : (a'.tmps[16]?).getD undef = _ := (eval_get a' 16).symm.trans <| (hd 4 16 (by omega) (by kernel_rfl) (by kernel_rfl) : a'.eval (.tmp 16) = .pointer (some ⟨w.heap.size, 1, none⟩))
      have x := nn.keep q1
      exact yields_value (.slice S1.a1 S1.bs.length S1.c1) (by go_simp) ⟨New.refl _, rfl⟩
    · have r : (a'.tmps[17]?).getD undef = _ := (eval_get a' 17).symm.trans <| (hd 5 17 (by omega) (by kernel_rfl) (by kernel_rfl) : a'.eval (.tmp 17) = .slice S1.a1 S1.bs.length S1.c1)
      have hnew := (New.refl w').alloc (.cells #[.slice S1.a1 S1.bs.length S1.c1] 25)
      exact yields_value (w' := w'.alloc (.cells #[.slice S1.a1 S1.bs.length S1.c1] 25)) (.slice (some ⟨w'.heap.size, 0, none⟩) 1 1) (by go_simp)
        ⟨hnew, _, rfl, h_part (by go_simp) (HOK.out.b.keep ((hn.trans nn).trans hnew))⟩
    · obtain ⟨g, hg, hp⟩ := (hd 6 18 (by omega) (by kernel_rfl) (by kernel_rfl) : ∃ g, a'.eval (.tmp 18) = .slice (some ⟨g, 0, none⟩) 1 1 ∧ PartsAt BoxR.enc 8 w' g [⟨S1.a1, S1.bs, S1.c1⟩])
      have r : (a'.tmps[18]?).getD undef = _ := (eval_get a' 18).symm.trans hg
      refine yields_enter 75 #[.slice (some ⟨g, 0, none⟩) 1 1] (by go_simp) ((b_concat g 1 [⟨S1.a1, S1.bs, S1.c1⟩] (by simp) (by simpa using HB.out) w' hp).mono ?_)
      rintro e w'' ⟨v, he, hs, ho, hn2⟩
      refine ⟨v, he, hn2, ?_⟩
      simp only [List.flatMap_cons, List.flatMap_nil, List.append_nil] at hs
      exact ⟨hs, fun j hj => by have := ho j hj; have := fz.lt (by omega); have := nn.size; omega⟩
    · have r3 : (a'.tmps[3]?).getD undef = .pointer (some ⟨w.heap.size, 0, none⟩) := (eval_get a' 3).symm.trans (hr 3 (by kernel_rfl))
      exact yields_value (.pointer (some ⟨w.heap.size, 2, none⟩)) (by go_simp) ⟨New.refl _, rfl⟩
    · have r : (a'.tmps[20]?).getD undef = _ := (eval_get a' 20).symm.trans <| (hd 8 20 (by omega) (by kernel_rfl) (by kernel_rfl) : a'.eval (.tmp 20) = .pointer (some ⟨w.heap.size, 2, none⟩))
      have x := nn.keep q2
      exact yields_value (.slice S1.a2 S1.hs.length S1.c2) (by go_simp) ⟨New.refl _, rfl⟩
    · have r : (a'.tmps[21]?).getD undef = _ := (eval_get a' 21).symm.trans <| (hd 9 21 (by omega) (by kernel_rfl) (by kernel_rfl) : a'.eval (.tmp 21) = .slice S1.a2 S1.hs.length S1.c2)
      have hnew := (New.refl w').alloc (.cells #[.slice S1.a2 S1.hs.length S1.c2] 26)
      exact yields_value (w' := w'.alloc (.cells #[.slice S1.a2 S1.hs.length S1.c2] 26)) (.slice (some ⟨w'.heap.size, 0, none⟩) 1 1) (by go_simp)
        ⟨hnew, _, rfl, h_part (by go_simp) (HOK.out.h.keep ((hn.trans nn).trans hnew))⟩
    · obtain ⟨g, hg, hp⟩ := (hd 10 22 (by omega) (by kernel_rfl) (by kernel_rfl) : ∃ g, a'.eval (.tmp 22) = .slice (some ⟨g, 0, none⟩) 1 1 ∧ PartsAt HopR.enc 10 w' g [⟨S1.a2, S1.hs, S1.c2⟩])
      have r : (a'.tmps[22]?).getD undef = _ := (eval_get a' 22).symm.trans hg
      refine yields_enter 77 #[.slice (some ⟨g, 0, none⟩) 1 1] (by go_simp) ((h_concat g 1 [⟨S1.a2, S1.hs, S1.c2⟩] (by simp) (by simpa using HH.out) w' hp).mono ?_)
      rintro e w'' ⟨v, he, hs, ho, hn2⟩
      refine ⟨v, he, hn2, ?_⟩
      simp only [List.flatMap_cons, List.flatMap_nil, List.append_nil] at hs
      exact ⟨hs, fun j hj => by have := ho j hj; have := fz.lt (by omega); have := nn.size; omega⟩
    · obtain ⟨h3, o3⟩ : Sl TriR.enc 10 w' (a'.eval (.tmp 15)) S1.ts ∧ ∀ j, (a'.eval (.tmp 15)).ownBlock = some j → w.heap.size + 1 + 1 < j := hd 3 15 (by omega) (by kernel_rfl) (by kernel_rfl)
      obtain ⟨h7, o7⟩ : Sl BoxR.enc 8 w' (a'.eval (.tmp 19)) S1.bs ∧ ∀ j, (a'.eval (.tmp 19)).ownBlock = some j → w.heap.size + 1 + 1 < j := hd 7 19 (by omega) (by kernel_rfl) (by kernel_rfl)
      obtain ⟨h11, o11⟩ : Sl HopR.enc 10 w' (a'.eval (.tmp 23)) S1.hs ∧ ∀ j, (a'.eval (.tmp 23)).ownBlock = some j → w.heap.size + 1 + 1 < j := hd 11 23 (by omega) (by kernel_rfl) (by kernel_rfl)
      obtain ⟨x0, x1, ex, -⟩ := id h3
      obtain ⟨y0, y1, ey, -⟩ := id h7
      obtain ⟨z0, z1, ez, -⟩ := id h11
      rw [ex] at h3 o3
      rw [ey] at h7 o7
      rw [ez] at h11 o11
      have r15 : (a'.tmps[15]?).getD undef = _ := (eval_get a' 15).symm.trans ex
      have r19 : (a'.tmps[19]?).getD undef = _ := (eval_get a' 19).symm.trans ey
      have r23 : (a'.tmps[23]?).getD undef = _ := (eval_get a' 23).symm.trans ez
      exact yields_value (.agg #[.slice x0 S1.ts.length x1, .slice y0 S1.bs.length y1, .slice z0 S1.hs.length z1]) (by go_simp) ⟨New.refl _, _, _, _, rfl, ⟨h3, o3⟩, ⟨h7, o7⟩, h11, o11⟩
  · intro vs w' nn hv
    obtain ⟨x, y, z, e12, ⟨h3, o3⟩, ⟨h7, o7⟩, h11, o11⟩ := (hv 12 (by omega) : ∃ x y z, vs 12 = .agg #[x, y, z] ∧ (Sl TriR.enc 10 w' x S1.ts ∧ ∀ j, x.ownBlock = some j → w.heap.size + 1 + 1 < j) ∧ (Sl BoxR.enc 8 w' y S1.bs ∧ ∀ j, y.ownBlock = some j → w.heap.size + 1 + 1 < j) ∧ (Sl HopR.enc 10 w' z S1.hs ∧ ∀ j, z.ownBlock = some j → w.heap.size + 1 + 1 < j))
    simp only [List.take_succ_cons, List.take_zero, List.drop_succ_cons, List.drop_zero, putL, Act.put, List.setIfInBounds_toArray, List.set_cons_zero, List.set_cons_succ, Nat.reduceAdd, Nat.zero_add]
    rw [e12]
    obtain ⟨x0, x1, rfl, -⟩ := id h3
    obtain ⟨y0, y1, rfl, -⟩ := id h7
    obtain ⟨z0, z1, rfl, -⟩ := id h11
    have H3 := Lib.hid (And.intro h3 o3)
    have H7 := Lib.hid (And.intro h7 o7)
    have H11 := Lib.hid (And.intro h11 o11)
    clear hv e12 q0 q1 q2 h3 h7 h11 o3 o7 o11
    go_wp2_with (refine wpList_store_row rfl 28 _ _ rfl _ _ rfl rfl (fz.keep nn) (by kernel_rfl) (by intro v hv; simp at hv; rcases hv with rfl | rfl | rfl <;> rfl) (fun Z nZ kZ cZ => ?_))
    have nz := nZ w (hn.trans nn) (by omega)
    have g3 := sl_but H3.out.1 (fun j hj => by have := H3.out.2 j hj; omega) kZ
    have g7 := sl_but H7.out.1 (fun j hj => by have := H7.out.2 j hj; omega) kZ
    have g11 := sl_but H11.out.1 (fun j hj => by have := H11.out.2 j hj; omega) kZ
    have r0 := cZ 0 (by simp)
    have r1 := cZ 1 (by simp)
    have r2 := cZ 2 (by simp)
    simp only [Nat.zero_add, List.getElem_cons_zero, List.getElem_cons_succ] at r0 r1 r2
    clear nZ kZ cZ
    refine bodyPost_ret (v := .agg #[.slice x0 S1.ts.length x1, .slice y0 S1.bs.length y1, .slice z0 S1.hs.length z1]) (by simp [results, Tryz.results76, go_sem, r0, r1, r2]) rfl ?_
    exact ⟨⟨S1.ts, S1.bs, S1.hs, x0, y0, z0, x1, y1, z1⟩, rfl, ⟨g3, g7, g11⟩, rfl, rfl, rfl, ⟨fun j hj => by have := H3.out.2 j hj; omega, fun j hj => by have := H7.out.2 j hj; omega, fun j hj => by have := H11.out.2 j hj; omega⟩, nz⟩

end Go.Proofs.YtonngfogbnfbnaaGreat

/- Package soup: one dropped. -/
namespace Go.Proofs.YtonngfogbnfbnaaGreat
open Go.RowKit
set_option linter.unusedVariables false

def h_drV (S : SoupV) (a : Option Addr) (l : List HopR) (c j b : Nat) : Nat → World → Value → Prop
  | 0, _, v => v = .agg #[.slice S.a0 S.ts.length S.c0, .slice S.a1 S.bs.length S.c1, .slice S.a2 S.hs.length S.c2]
  | 1, _, v => v = .slice a l.length c
  | 2, _, v => v = .int .i64 j
  | 3, w, v => ∃ a1 c1, v = .slice a1 (l.take j).length c1 ∧ Sl HopR.enc 10 w (.slice a1 (l.take j).length c1) (l.take j)
  | 4, _, v => v = .slice a l.length c
  | 5, _, v => v = .int .i64 j
  | 6, _, v => v = .int .i64 (j + 1)
  | 7, w, v => ∃ a1 c1, v = .slice a1 (l.drop (j + 1)).length c1 ∧ Sl HopR.enc 10 w (.slice a1 (l.drop (j + 1)).length c1) (l.drop (j + 1))
  | 8, w, v => ∃ g p q, v = .slice (some ⟨g, 0, none⟩) 2 2 ∧ PartsAt HopR.enc 10 w g [p, q] ∧ p.l = l.take j ∧ q.l = l.drop (j + 1)
  | 9, w, v => ∃ a1 c1, ∃ l1 : List HopR, v = .slice a1 l1.length c1 ∧ l1 = l.take j ++ l.drop (j + 1) ∧ Sl HopR.enc 10 w (.slice a1 l1.length c1) l1
  | 10, _, v => v = .agg #[.func (.func 64) #[] #[], .func (.func 65) #[] #[], .int .i64 16, .int .i64 2, .func (.func 66) #[] #[]]
  | _, w, v => ∃ S' : SoupV, v = .agg #[.slice S'.a0 S'.ts.length S'.c0, .slice S'.a1 S'.bs.length S'.c1, .slice S'.a2 S'.hs.length S'.c2] ∧ S'.ok w ∧ S'.own (b + 1 + 1 + 1) ∧ S'.ts = S.ts ∧ S'.bs = S.bs ∧ S'.hs = l.take j ++ l.drop (j + 1)
theorem h_drV_keep {S : SoupV} {a : Option Addr} {l : List HopR} {c j b : Nat} : ∀ i w w' v, h_drV S a l c j b i w v → New w w' → h_drV S a l c j b i w' v := by
  intro i w w' v h hn
  rcases (show i = 0 ∨ i = 1 ∨ i = 2 ∨ i = 3 ∨ i = 4 ∨ i = 5 ∨ i = 6 ∨ i = 7 ∨ i = 8 ∨ i = 9 ∨ i = 10 ∨ 11 ≤ i by omega) with rfl | rfl | rfl | rfl | rfl | rfl | rfl | rfl | rfl | rfl | rfl | hi
  · exact h
  · exact h
  · exact h
  · obtain ⟨a1, c1, e, p⟩ := h; exact ⟨a1, c1, e, p.keep hn⟩
  · exact h
  · exact h
  · exact h
  · obtain ⟨a1, c1, e, p⟩ := h; exact ⟨a1, c1, e, p.keep hn⟩
  · obtain ⟨g, p, q, e, h1, h2⟩ := h; exact ⟨g, p, q, e, h1.keep hn, h2⟩
  · obtain ⟨a1, c1, l1, e, h1, h2⟩ := h; exact ⟨a1, c1, l1, e, h1, h2.keep hn⟩
  · exact h
  · obtain ⟨k, rfl⟩ : ∃ k, i = k + 11 := ⟨i - 11, by omega⟩
    obtain ⟨S', e, h1, h2⟩ := h
    exact ⟨S', e, h1.keep hn, h2⟩

/-- What is left: all but the one at z. -/
def HopR.less (l : List HopR) (z : Int) : List HopR := l.take z.toNat ++ l.drop (z.toNat + 1)

set_option maxHeartbeats 4000000 in
set_option maxRecDepth 100000 in
theorem h_drop_none (S : SoupV) (id : Int) (hz : HopR.IsFirst S.hs id (-1)) (w : World) (hS : S.ok w) :
    Calls Tryz.prog 29 #[.agg #[.slice S.a0 S.ts.length S.c0, .slice S.a1 S.bs.length S.c1, .slice S.a2 S.hs.length S.c2], .int .i64 id, .agg #[.func (.func 64) #[] #[], .func (.func 65) #[] #[], .int .i64 16, .int .i64 2, .func (.func 66) #[] #[]]] w (SoupE [] [] [] 4 w) := by
  have hL := Lib.hid (fun b W => h_list b W)
  have hR := hS.h
  obtain ⟨ts, bs, hs, a0, a1, a2, c0, c1, c2⟩ := S
  simp only at hR hz ⊢
  obtain ⟨-, hc1, hc2, -, HR⟩ := hR.row
  have HF := Lib.hid (fun W (n : New w W) => h_first a2 hs c2 (by omega) id (-1) hz W (HR.keep n))
  clear hR hS HR hc1 hc2 hz
  go_enter Tryz.func29, Tryz.ntmps29
  go_wp2_with fail
  generalize hW : World.alloc _ _ = W
  have hn : New w W := by subst hW; (repeat (first | (with_reducible exact New.refl _) | (with_reducible assumption) | ((with_reducible refine New.setB ?_ ?_ _); focus (first | omega | (simp; omega) | (simp; done))) | (with_reducible refine New.alloc ?_ _) | (with_reducible refine New.drew ?_) | (with_reducible refine New.drewN ?_ _) | (with_reducible refine New.hat ?_ _) | ((with_reducible apply New.snart); (with_reducible assumption))))
  have q2 : W.cell? ⟨w.heap.size, 2, none⟩ = some (.slice a2 hs.length c2) := by subst hW; go_simp
  have k0 : W.cell? ⟨w.heap.size + 1, 0, none⟩ = some (.func (.func 64) #[] #[]) := by subst hW; go_simp
  have k1 : W.cell? ⟨w.heap.size + 1, 1, none⟩ = some (.func (.func 65) #[] #[]) := by subst hW; go_simp
  have fz : Thr W (w.heap.size + 1 + 1) 3 := by subst hW; exact Thr.new _ _ _ _ (by simp)
  clear hW
  refine (hL.out _ _).mono ?_
  rintro e w' ⟨rfl, rfl⟩
  go_wp2_with fail
  refine (HF.out _ hn).mono ?_
  rintro e W1 ⟨rfl, n1⟩
  replace fz := fz.keep n1
  replace hn := hn.trans n1
  clear n1 HF hL q2 k0 k1
  go_wp2_with (refine wpList_store_row rfl 28 _ _ rfl _ _ rfl rfl (fz.keep (by (repeat (first | (with_reducible exact New.refl _) | (with_reducible assumption) | ((with_reducible refine New.setB ?_ ?_ _); focus (first | omega | (simp; omega) | (simp; done))) | (with_reducible refine New.alloc ?_ _) | (with_reducible refine New.drew ?_) | (with_reducible refine New.drewN ?_ _) | (with_reducible refine New.hat ?_ _) | ((with_reducible apply New.snart); (with_reducible assumption)))))) (by kernel_rfl) (by intro v hv; simp at hv; rcases hv with rfl | rfl | rfl <;> rfl) (fun Z nZ kZ cZ => ?_))
  have nz := nZ w (by (repeat (first | (with_reducible exact New.refl _) | (with_reducible assumption) | ((with_reducible refine New.setB ?_ ?_ _); focus (first | omega | (simp; omega) | (simp; done))) | (with_reducible refine New.alloc ?_ _) | (with_reducible refine New.drew ?_) | (with_reducible refine New.drewN ?_ _) | (with_reducible refine New.hat ?_ _) | ((with_reducible apply New.snart); (with_reducible assumption))))) (by omega)
  have r0 := cZ 0 (by simp)
  have r1 := cZ 1 (by simp)
  have r2 := cZ 2 (by simp)
  simp only [Nat.zero_add, List.getElem_cons_zero, List.getElem_cons_succ] at r0 r1 r2
  clear nZ kZ cZ
  refine bodyPost_ret (v := .tuple #[.agg #[.slice none 0 0, .slice none 0 0, .slice none 0 0], .int .i64 4]) (by simp [results, Tryz.results29, go_sem, r0, r1, r2]) rfl ?_
  exact ⟨SoupV.none, rfl, SoupV.none_ok _, rfl, rfl, rfl, SoupV.none_own _, nz⟩

theorem h_two {w : World} {g : Nat} {p q : Part HopR} (c0 : w.cell? ⟨g, 0, none⟩ = some (.slice p.a p.l.length p.c)) (c1 : w.cell? ⟨g, 1, none⟩ = some (.slice q.a q.l.length q.c)) (h0 : Sl HopR.enc 10 w (.slice p.a p.l.length p.c) p.l) (h1 : Sl HopR.enc 10 w (.slice q.a q.l.length q.c) q.l) : PartsAt HopR.enc 10 w g [p, q]
  | 0, _ => ⟨c0, h0⟩
  | 1, _ => ⟨c1, h1⟩
  | _ + 2, hj => absurd hj (by simp)

set_option maxHeartbeats 4000000 in
set_option maxRecDepth 100000 in
theorem h_drop_some (S : SoupV) (id : Int) (j : Nat) (hj : j < S.hs.length) (hz : HopR.IsFirst S.hs id j) (w : World) (hS : S.ok w) (ht : S.ts.length ≤ 1000) (hb : S.bs.length ≤ 1000) (hh : S.hs.length ≤ 1000) :
    Calls Tryz.prog 29 #[.agg #[.slice S.a0 S.ts.length S.c0, .slice S.a1 S.bs.length S.c1, .slice S.a2 S.hs.length S.c2], .int .i64 id, .agg #[.func (.func 64) #[] #[], .func (.func 65) #[] #[], .int .i64 16, .int .i64 2, .func (.func 66) #[] #[]]] w (SoupE S.ts S.bs (S.hs.take j ++ S.hs.drop (j + 1)) 0 w) := by
  have hL := Lib.hid (fun b W => h_list b W)
  have hR := hS.h
  obtain ⟨-, hc1, hc2, -, HR⟩ := hR.row
  have HF := Lib.hid (fun W (n : New w W) => h_first S.a2 S.hs S.c2 (by omega) id j hz W (HR.keep n))
  have HX := Lib.hid (fun a l c W (n : New w W) hl hll => h_exchange S a l c W (hS.keep n) hl ht hb hh hll)
  have hlen := hh
  obtain ⟨b, off, ha, hA⟩ := HR (by omega)
  unfold maxLen at hc2
  have hdl : (S.hs.drop (j + 1)).length = S.hs.length - (j + 1) := List.length_drop ..
  have htl : (S.hs.take j).length = j := by rw [List.length_take]; omega
  have HDL := Lib.hid hdl
  have HTL := Lib.hid htl
  have HA := Lib.hid hA
  have HC2 := Lib.hid hc2
  clear hR HR hz hS ht hb hh hdl htl hA
  go_enter Tryz.func29, Tryz.ntmps29
  go_wp2_with fail
  generalize hW : World.alloc _ _ = W
  have hn : New w W := by subst hW; (repeat (first | (with_reducible exact New.refl _) | (with_reducible assumption) | ((with_reducible refine New.setB ?_ ?_ _); focus (first | omega | (simp; omega) | (simp; done))) | (with_reducible refine New.alloc ?_ _) | (with_reducible refine New.drew ?_) | (with_reducible refine New.drewN ?_ _) | (with_reducible refine New.hat ?_ _) | ((with_reducible apply New.snart); (with_reducible assumption))))
  have q0 : W.cell? ⟨w.heap.size, 0, none⟩ = some (.slice S.a0 S.ts.length S.c0) := by subst hW; go_simp
  have q1 : W.cell? ⟨w.heap.size, 1, none⟩ = some (.slice S.a1 S.bs.length S.c1) := by subst hW; go_simp
  have q2 : W.cell? ⟨w.heap.size, 2, none⟩ = some (.slice S.a2 S.hs.length S.c2) := by subst hW; go_simp
  have k0 : W.cell? ⟨w.heap.size + 1, 0, none⟩ = some (.func (.func 64) #[] #[]) := by subst hW; go_simp
  have k1 : W.cell? ⟨w.heap.size + 1, 1, none⟩ = some (.func (.func 65) #[] #[]) := by subst hW; go_simp
  have k2 : W.cell? ⟨w.heap.size + 1, 2, none⟩ = some (.int .i64 16) := by subst hW; go_simp
  have k3 : W.cell? ⟨w.heap.size + 1, 3, none⟩ = some (.int .i64 2) := by subst hW; go_simp
  have k4 : W.cell? ⟨w.heap.size + 1, 4, none⟩ = some (.func (.func 66) #[] #[]) := by subst hW; go_simp
  have fz : Thr W (w.heap.size + 1 + 1) 3 := by subst hW; exact Thr.new _ _ _ _ (by simp)
  clear hW
  refine (hL.out _ _).mono ?_
  rintro e w' ⟨rfl, rfl⟩
  rw [ha] at q2 HF
  go_wp2_with fail
  refine (HF.out _ hn).mono ?_
  rintro e W1 ⟨rfl, n1⟩
  replace fz := fz.keep n1
  replace hn := hn.trans n1
  replace q0 := n1.keep q0
  replace q1 := n1.keep q1
  replace q2 := n1.keep q2
  (replace k0 := New.keep (n1) k0; replace k1 := New.keep (n1) k1; replace k2 := New.keep (n1) k2; replace k3 := New.keep (n1) k3; replace k4 := New.keep (n1) k4)
  clear n1 HF hL
  go_upto_region 5 with fail
  refine wp_region_loose 12 (h_drV S (some ⟨b, off, none⟩) S.hs S.c2 j w.heap.size) (by kernel_rfl) (by kernel_rfl) h_drV_keep ?_ ?_
  · intro i o hi ho a' w' nn hr hd
    rcases (show i = 0 ∨ i = 1 ∨ i = 2 ∨ i = 3 ∨ i = 4 ∨ i = 5 ∨ i = 6 ∨ i = 7 ∨ i = 8 ∨ i = 9 ∨ i = 10 ∨ i = 11 by omega) with rfl | rfl | rfl | rfl | rfl | rfl | rfl | rfl | rfl | rfl | rfl | rfl <;> obtain rfl := Option.some.inj ho
    · have r3 : (a'.tmps[3]?).getD undef = .pointer (some ⟨w.heap.size, 0, none⟩) := (eval_get a' 3).symm.trans (hr 3 (by kernel_rfl))
      have x0 := nn.keep q0
      have x1 := nn.keep q1
      have x2 := nn.keep q2
      rw [← ha] at x2
      exact yields_value (.agg #[.slice S.a0 S.ts.length S.c0, .slice S.a1 S.bs.length S.c1, .slice S.a2 S.hs.length S.c2]) (by go_simp) ⟨New.refl _, rfl⟩
    · have r8 : (a'.tmps[8]?).getD undef = .slice (some ⟨b, off, none⟩) S.hs.length S.c2 := (eval_get a' 8).symm.trans (hr 8 (by kernel_rfl))
      exact yields_value (.slice (some ⟨b, off, none⟩) S.hs.length S.c2) (by go_simp) ⟨New.refl _, rfl⟩
    · have r9 : (a'.tmps[9]?).getD undef = .int .i64 j := (eval_get a' 9).symm.trans (hr 9 (by kernel_rfl))
      exact yields_value (.int .i64 j) (by go_simp) ⟨New.refl _, rfl⟩
    · have r24 : (a'.tmps[24]?).getD undef = .slice (some ⟨b, off, none⟩) S.hs.length S.c2 := (eval_get a' 24).symm.trans (hd 1 24 (by omega) (by kernel_rfl) (by kernel_rfl))
      have r25 : (a'.tmps[25]?).getD undef = .int .i64 j := (eval_get a' 25).symm.trans (hd 2 25 (by omega) (by kernel_rfl) (by kernel_rfl))
      refine yields_value (.slice (some ⟨b, off, none⟩) j S.c2) (by go_simp; all_goals (intro h; exfalso; omega)) ⟨New.refl _, some ⟨b, off, none⟩, S.c2, by rw [HTL.out], ?_⟩
      exact ⟨_, _, rfl, by rw [HTL.out]; omega, by unfold maxLen; exact HC2.out, fun h => (by cases h), fun _ => ⟨b, off, rfl, ((HA.out.keep hn).keep nn).take j⟩⟩
    · have r8 : (a'.tmps[8]?).getD undef = .slice (some ⟨b, off, none⟩) S.hs.length S.c2 := (eval_get a' 8).symm.trans (hr 8 (by kernel_rfl))
      exact yields_value (.slice (some ⟨b, off, none⟩) S.hs.length S.c2) (by go_simp) ⟨New.refl _, rfl⟩
    · have r9 : (a'.tmps[9]?).getD undef = .int .i64 j := (eval_get a' 9).symm.trans (hr 9 (by kernel_rfl))
      exact yields_value (.int .i64 j) (by go_simp) ⟨New.refl _, rfl⟩
    · have r28 : (a'.tmps[28]?).getD undef = .int .i64 j := (eval_get a' 28).symm.trans (hd 5 28 (by omega) (by kernel_rfl) (by kernel_rfl))
      have hwr : IntKind.i64.wrap ((j : Int) + 1) = (j : Int) + 1 := IntWalk.i64_in _ (by omega)
      exact yields_value (.int .i64 (j + 1)) (by go_simp) ⟨New.refl _, rfl⟩
    · have r27 : (a'.tmps[27]?).getD undef = .slice (some ⟨b, off, none⟩) S.hs.length S.c2 := (eval_get a' 27).symm.trans (hd 4 27 (by omega) (by kernel_rfl) (by kernel_rfl))
      have r29 : (a'.tmps[29]?).getD undef = .int .i64 (j + 1) := (eval_get a' 29).symm.trans (hd 6 29 (by omega) (by kernel_rfl) (by kernel_rfl))
      by_cases hcj : S.c2 = j + 1
      · refine yields_value (.slice (some ⟨b, off, none⟩) (S.hs.length - (j + 1)) (S.c2 - (j + 1))) (by go_simp; all_goals (intro h; exfalso; omega)) ⟨New.refl _, some ⟨b, off, none⟩, S.c2 - (j + 1), by rw [HDL.out], ?_⟩
        exact ⟨_, _, rfl, by rw [HDL.out]; omega, by have := HC2.out; unfold maxLen; omega, fun h => (by cases h), fun h0 => by rw [HDL.out] at h0; omega⟩
      · refine yields_value (.slice (some ⟨b, off + (j + 1) * 10, none⟩) (S.hs.length - (j + 1)) (S.c2 - (j + 1))) (by go_simp; all_goals (intro h; exfalso; omega)) ⟨New.refl _, some ⟨b, off + (j + 1) * 10, none⟩, S.c2 - (j + 1), by rw [HDL.out], ?_⟩
        exact ⟨_, _, rfl, by rw [HDL.out]; omega, by have := HC2.out; unfold maxLen; omega, fun h => (by cases h), fun _ => ⟨b, _, rfl, ((HA.out.keep hn).keep nn).drop (j + 1)⟩⟩
    · obtain ⟨a1, c1, e1, s1⟩ : ∃ a1 c1, a'.eval (.tmp 26) = .slice a1 (S.hs.take j).length c1 ∧ Sl HopR.enc 10 w' (.slice a1 (S.hs.take j).length c1) (S.hs.take j) := hd 3 26 (by omega) (by kernel_rfl) (by kernel_rfl)
      obtain ⟨a2, c2, e2, s2⟩ : ∃ a1 c1, a'.eval (.tmp 30) = .slice a1 (S.hs.drop (j + 1)).length c1 ∧ Sl HopR.enc 10 w' (.slice a1 (S.hs.drop (j + 1)).length c1) (S.hs.drop (j + 1)) := hd 7 30 (by omega) (by kernel_rfl) (by kernel_rfl)
      have r26 : (a'.tmps[26]?).getD undef = _ := (eval_get a' 26).symm.trans e1
      have r30 : (a'.tmps[30]?).getD undef = _ := (eval_get a' 30).symm.trans e2
      generalize hL1 : S.hs.take j = L1 at *
      generalize hL2 : S.hs.drop (j + 1) = L2 at *
      have hnew := (New.refl w').alloc (.cells #[.slice a1 L1.length c1, .slice a2 L2.length c2] 26)
      exact yields_value (w' := w'.alloc (.cells #[.slice a1 L1.length c1, .slice a2 L2.length c2] 26)) (.slice (some ⟨w'.heap.size, 0, none⟩) 2 2) (by go_simp)
        ⟨hnew, _, ⟨a1, L1, c1⟩, ⟨a2, L2, c2⟩, rfl, h_two (by go_simp) (by go_simp) (s1.keep hnew) (s2.keep hnew), hL1.symm, hL2.symm⟩
    · obtain ⟨g, p, q, eg, hp, h1, h2⟩ : ∃ g p q, a'.eval (.tmp 31) = .slice (some ⟨g, 0, none⟩) 2 2 ∧ PartsAt HopR.enc 10 w' g [p, q] ∧ p.l = S.hs.take j ∧ q.l = S.hs.drop (j + 1) := hd 8 31 (by omega) (by kernel_rfl) (by kernel_rfl)
      have r31 : (a'.tmps[31]?).getD undef = _ := (eval_get a' 31).symm.trans eg
      have hfl : ([p, q] : List (Part HopR)).flatMap (·.l) = S.hs.take j ++ S.hs.drop (j + 1) := by simp [h1, h2]
      refine yields_enter 77 #[.slice (some ⟨g, 0, none⟩) 2 2] (by go_simp) ((h_concat g 2 [p, q] (by simp) (by rw [hfl, List.length_append, HTL.out, HDL.out]; omega) w' hp).mono ?_)
      rintro e w'' ⟨v, he, hs, ho, hn2⟩
      rw [hfl] at hs
      have hs' := hs
      obtain ⟨a1, c1, rfl, hh⟩ := hs'
      exact ⟨_, he, hn2, a1, c1, _, rfl, rfl, hs⟩
    · have r5 : (a'.tmps[5]?).getD undef = .pointer (some ⟨w.heap.size + 1, 0, none⟩) := (eval_get a' 5).symm.trans (hr 5 (by kernel_rfl))
      (replace k0 := New.keep (nn) k0; replace k1 := New.keep (nn) k1; replace k2 := New.keep (nn) k2; replace k3 := New.keep (nn) k3; replace k4 := New.keep (nn) k4)
      exact yields_value (.agg #[.func (.func 64) #[] #[], .func (.func 65) #[] #[], .int .i64 16, .int .i64 2, .func (.func 66) #[] #[]]) (by go_simp) ⟨New.refl _, rfl⟩
    · have e0 : a'.eval (.tmp 23) = .agg #[.slice S.a0 S.ts.length S.c0, .slice S.a1 S.bs.length S.c1, .slice S.a2 S.hs.length S.c2] := hd 0 23 (by omega) (by kernel_rfl) (by kernel_rfl)
      obtain ⟨a1, c1, l1, e1, hl1, hs⟩ : ∃ a1 c1, ∃ l1 : List HopR, a'.eval (.tmp 32) = .slice a1 l1.length c1 ∧ l1 = S.hs.take j ++ S.hs.drop (j + 1) ∧ Sl HopR.enc 10 w' (.slice a1 l1.length c1) l1 := hd 9 32 (by omega) (by kernel_rfl) (by kernel_rfl)
      have e2 : a'.eval (.tmp 33) = .agg #[.func (.func 64) #[] #[], .func (.func 65) #[] #[], .int .i64 16, .int .i64 2, .func (.func 66) #[] #[]] := hd 10 33 (by omega) (by kernel_rfl) (by kernel_rfl)
      have r23 : (a'.tmps[23]?).getD undef = _ := (eval_get a' 23).symm.trans e0
      have r32 : (a'.tmps[32]?).getD undef = _ := (eval_get a' 32).symm.trans e1
      have r33 : (a'.tmps[33]?).getD undef = _ := (eval_get a' 33).symm.trans e2
      have hll : l1.length ≤ 1000 := by rw [hl1, List.length_append, HTL.out, HDL.out]; omega
      refine yields_enter 76 #[.agg #[.slice S.a0 S.ts.length S.c0, .slice S.a1 S.bs.length S.c1, .slice S.a2 S.hs.length S.c2], .slice a1 l1.length c1, .agg #[.func (.func 64) #[] #[], .func (.func 65) #[] #[], .int .i64 16, .int .i64 2, .func (.func 66) #[] #[]]] (by go_simp) ((HX.out a1 l1 c1 w' (hn.trans nn) hs hll).mono ?_)
      rintro e w'' ⟨S', he, h1, h2, h3, h4, h5, h6⟩
      refine ⟨_, he, h6, S', rfl, h1, h5.mono ?_, h2, h3, h4.trans hl1⟩
      have := fz.lt (by omega)
      have := nn.size
      omega
  · intro vs w' nn hv
    obtain ⟨S', e11, h1, h2, h3, h4, h5⟩ : ∃ S' : SoupV, vs 11 = .agg #[.slice S'.a0 S'.ts.length S'.c0, .slice S'.a1 S'.bs.length S'.c1, .slice S'.a2 S'.hs.length S'.c2] ∧ S'.ok w' ∧ S'.own (w.heap.size + 1 + 1 + 1) ∧ S'.ts = S.ts ∧ S'.bs = S.bs ∧ S'.hs = S.hs.take j ++ S.hs.drop (j + 1) := hv 11 (by omega)
    simp only [List.take_succ_cons, List.take_zero, List.drop_succ_cons, List.drop_zero, putL, Act.put, List.setIfInBounds_toArray, List.set_cons_zero, List.set_cons_succ, Nat.reduceAdd, Nat.zero_add]
    rw [e11]
    have H1 := Lib.hid (And.intro h1 (And.intro h2 (And.intro h3 (And.intro h4 h5))))
    clear hv e11 q0 q1 q2 k0 k1 k2 k3 k4 h1 h2 h3 h4 h5 HX HA
    go_wp2_with (refine wpList_store_row rfl 28 _ _ rfl _ _ rfl rfl (fz.keep nn) (by kernel_rfl) (by intro v hv; simp at hv; rcases hv with rfl | rfl | rfl <;> rfl) (fun Z nZ kZ cZ => ?_))
    have nz := nZ w (hn.trans nn) (by omega)
    have okz := SoupV.ok_but H1.out.1 H1.out.2.1 (by omega) kZ
    have r0 := cZ 0 (by simp)
    have r1 := cZ 1 (by simp)
    have r2 := cZ 2 (by simp)
    simp only [Nat.zero_add, List.getElem_cons_zero, List.getElem_cons_succ] at r0 r1 r2
    clear nZ kZ cZ
    refine bodyPost_ret (v := .tuple #[.agg #[.slice S'.a0 S'.ts.length S'.c0, .slice S'.a1 S'.bs.length S'.c1, .slice S'.a2 S'.hs.length S'.c2], .int .i64 0]) (by simp [results, Tryz.results29, go_sem, r0, r1, r2]) rfl ?_
    exact ⟨S', rfl, okz, H1.out.2.2.1, H1.out.2.2.2.1, H1.out.2.2.2.2, H1.out.2.1.mono (by omega), nz⟩

end Go.Proofs.YtonngfogbnfbnaaGreat
