import Derived.Test.YteoongcajfcgcaaClZdZ6
import Derived.Test.YteoongcajfcgcaaClRZ6

/- The law of what is told of a triangle over a column (footpathlaw07.ClipTells). -/
namespace Go.Proofs.Yteoongcajfcgcaa
open Go.RowKit
set_option linter.unusedVariables false

/-- What is told by either: the corners in their order, or nothing. -/
def Told (T : TriR) (x z : Int) (R : List Co) : Prop := (corE T x z = 0 → IsCor T x z R) ∧ (corE T x z ≠ 0 → R = [])
theorem told_one {T : TriR} {x z : Int} {R R' : List Co} (h : Told T x z R) (h' : Told T x z R') : R' = R := by
  by_cases hE : corE T x z = 0
  · have a := h.1 hE
    have b := h'.1 hE
    exact rise_unique R' R (fun c hc => (fact hE ((b.mem c).1 hc)).prim.1) (fun c hc => (fact hE ((a.mem c).1 hc)).prim.1) b.rise a.rise (fun c => by rw [b.mem c, a.mem c])
  · rw [h.2 hE, h'.2 hE]
def ToldP (T : TriR) (x z : Int) (w : World) (e : Ending) (w' : World) : Prop := ∃ (v : Value) (R : List Co), e = .returned (.tuple #[v, .int .i64 (corE T x z)]) ∧ Sl Co.enc 4 w' v R ∧ Told T x z R ∧ New w w'
theorem k_told (T : TriR) (x z : Int) (w : World) : Calls Try.prog 9 #[.agg #[.int .i64 T.i, .int .i64 T.x0, .int .i64 T.y0, .int .i64 T.z0, .int .i64 T.x1, .int .i64 T.y1, .int .i64 T.z1, .int .i64 T.x2, .int .i64 T.y2, .int .i64 T.z2], .int .i64 x, .int .i64 z] w (ToldP T x z w) := by
  by_cases hE : corE T x z = 0
  · refine (k_cor T x z w hE).mono ?_
    rintro e w' ⟨v, R, rfl, hs, hc, hn⟩
    exact ⟨v, R, by rw [hE], hs, ⟨fun _ => hc, fun h => absurd hE h⟩, hn⟩
  · refine (k_cor_bad T x z w hE).mono ?_
    rintro e w' ⟨rfl, hn⟩
    exact ⟨_, [], rfl, Sl.nil, ⟨fun h => absurd h hE, fun _ => rfl⟩, hn⟩
theorem r_told (T : TriR) (x z : Int) (w : World) : Calls Try.prog 10 #[.agg #[.int .i64 T.i, .int .i64 T.x0, .int .i64 T.y0, .int .i64 T.z0, .int .i64 T.x1, .int .i64 T.y1, .int .i64 T.z1, .int .i64 T.x2, .int .i64 T.y2, .int .i64 T.z2], .int .i64 x, .int .i64 z] w (ToldP T x z w) := by
  by_cases hE : corE T x z = 0
  · refine (r_cor T x z w hE).mono ?_
    rintro e w' ⟨v, R, rfl, hs, hc, hn⟩
    exact ⟨v, R, by rw [hE], hs, ⟨fun _ => hc, fun h => absurd hE h⟩, hn⟩
  · refine (r_cor_bad T x z w hE).mono ?_
    rintro e w' ⟨rfl, hn⟩
    exact ⟨_, [], rfl, Sl.nil, ⟨fun h => absurd h hE, fun _ => rfl⟩, hn⟩

set_option maxHeartbeats 8000000 in
set_option maxRecDepth 100000 in
theorem l_tells (T : TriR) (x z : Int) (w : World) :
    Calls Try.prog 3 #[.agg #[.int .i64 T.i, .int .i64 T.x0, .int .i64 T.y0, .int .i64 T.z0, .int .i64 T.x1, .int .i64 T.y1, .int .i64 T.z1, .int .i64 T.x2, .int .i64 T.y2, .int .i64 T.z2], .int .i64 x, .int .i64 z] w fun e w' => e = .returned (.bool true) ∧ New w w' := by
  have KW := Lib.hid (fun W => k_wakes W)
  have KO := fun W => k_over T x z W
  have KR := fun W => r_over T x z W
  have KC := fun W => k_told T x z W
  have KD := fun W => r_told T x z W
  have KL := fun W => k_columns T W
  have KM := fun W => r_columns T W
  have HOne := Lib.hid (fun R R' h h' => told_one (T := T) (x := x) (z := z) (R := R) (R' := R') h h')
  unfold ToldP at KC KD
  generalize Told T x z = Tl at *
  generalize ovLo T x z = lo at *
  generalize ovHi T x z = hi at *
  generalize ovB T x z = b at *
  generalize corE T x z = er at *
  generalize (if okT T then minI T.x0 T.x1 T.x2 - 1 else 0) = p1 at *
  generalize (if okT T then minI T.z0 T.z1 T.z2 - 1 else 0) = p2 at *
  generalize (if okT T then maxI T.x0 T.x1 T.x2 else 0) = p3 at *
  generalize (if okT T then maxI T.z0 T.z1 T.z2 else 0) = p4 at *
  generalize chkE T = p5 at *
  replace KO := Lib.hid KO
  replace KR := Lib.hid KR
  replace KC := Lib.hid KC
  replace KD := Lib.hid KD
  replace KL := Lib.hid KL
  replace KM := Lib.hid KM
  have q1 : (lo != lo) = false := by simp
  have q2 : (hi != hi) = false := by simp
  have q3 : (b != b) = false := by simp
  have q4 : (er != er) = false := by simp
  have q5 : (p1 == p1) = true := by simp
  have q6 : (p2 == p2) = true := by simp
  have q7 : (p3 == p3) = true := by simp
  have q8 : (p4 == p4) = true := by simp
  have q9 : (p5 == p5) = true := by simp
  go_enter Try.func3, Try.ntmps3
  go_wp2_with fail
  refine Calls.at (fun V hV => ?_)
  have hn : New w V := by subst hV; (repeat (first | (with_reducible exact New.refl _) | (with_reducible assumption) | ((with_reducible refine New.setB ?_ ?_ _); focus (first | omega | (simp; omega) | (simp; done))) | (with_reducible refine New.alloc ?_ _) | (with_reducible refine New.drew ?_) | (with_reducible refine New.drewN ?_ _) | (with_reducible refine New.hat ?_ _) | ((with_reducible apply New.snart); (with_reducible assumption))))
  have HT : TAt V w.heap.size T := by subst hV; exact TAt.mk (by go_simp) (by go_simp) (by go_simp) (by go_simp) (by go_simp) (by go_simp) (by go_simp) (by go_simp) (by go_simp) (by go_simp)
  clear hV
  obtain ⟨c0, c1, c2, c3, c4, c5, c6, c7, c8, c9⟩ := HT.cells
  clear HT
  refine (KO.out _).mono ?_
  rintro e W1 ⟨rfl, n1⟩
  replace c0 := New.keep n1 c0
  replace c1 := New.keep n1 c1
  replace c2 := New.keep n1 c2
  replace c3 := New.keep n1 c3
  replace c4 := New.keep n1 c4
  replace c5 := New.keep n1 c5
  replace c6 := New.keep n1 c6
  replace c7 := New.keep n1 c7
  replace c8 := New.keep n1 c8
  replace c9 := New.keep n1 c9
  replace hn := hn.trans n1
  clear n1 KO
  go_wp2_with fail
  refine (KR.out _).mono ?_
  rintro e W2 ⟨rfl, n1⟩
  replace c0 := New.keep n1 c0
  replace c1 := New.keep n1 c1
  replace c2 := New.keep n1 c2
  replace c3 := New.keep n1 c3
  replace c4 := New.keep n1 c4
  replace c5 := New.keep n1 c5
  replace c6 := New.keep n1 c6
  replace c7 := New.keep n1 c7
  replace c8 := New.keep n1 c8
  replace c9 := New.keep n1 c9
  replace hn := hn.trans n1
  clear n1 KR
  go_wp2_with fail
  refine (KC.out _).mono ?_
  rintro e W3 ⟨v, R, rfl, hs, ht, n1⟩
  replace c0 := New.keep n1 c0
  replace c1 := New.keep n1 c1
  replace c2 := New.keep n1 c2
  replace c3 := New.keep n1 c3
  replace c4 := New.keep n1 c4
  replace c5 := New.keep n1 c5
  replace c6 := New.keep n1 c6
  replace c7 := New.keep n1 c7
  replace c8 := New.keep n1 c8
  replace c9 := New.keep n1 c9
  replace hn := hn.trans n1
  clear n1 KC
  go_wp2_with fail
  refine (KD.out _).mono ?_
  rintro e W4 ⟨v', R', rfl, hs', ht', n1⟩
  replace c0 := New.keep n1 c0
  replace c1 := New.keep n1 c1
  replace c2 := New.keep n1 c2
  replace c3 := New.keep n1 c3
  replace c4 := New.keep n1 c4
  replace c5 := New.keep n1 c5
  replace c6 := New.keep n1 c6
  replace c7 := New.keep n1 c7
  replace c8 := New.keep n1 c8
  replace c9 := New.keep n1 c9
  replace hn := hn.trans n1
  replace hs := hs.keep n1
  have eR := HOne.out R R' ht ht'
  subst eR
  have HS := Lib.hid (And.intro hs hs')
  clear hs hs' ht ht' HOne
  clear n1 KD
  go_wp2_with fail
  refine (r_same _ _ _ _ HS.out.1 HS.out.2).mono ?_
  rintro e W5 ⟨rfl, n1⟩
  replace c0 := New.keep n1 c0
  replace c1 := New.keep n1 c1
  replace c2 := New.keep n1 c2
  replace c3 := New.keep n1 c3
  replace c4 := New.keep n1 c4
  replace c5 := New.keep n1 c5
  replace c6 := New.keep n1 c6
  replace c7 := New.keep n1 c7
  replace c8 := New.keep n1 c8
  replace c9 := New.keep n1 c9
  replace hn := hn.trans n1
  clear n1 HS
  go_wp2_with fail
  refine (KL.out _).mono ?_
  rintro e W6 ⟨rfl, n1⟩
  replace c0 := New.keep n1 c0
  replace c1 := New.keep n1 c1
  replace c2 := New.keep n1 c2
  replace c3 := New.keep n1 c3
  replace c4 := New.keep n1 c4
  replace c5 := New.keep n1 c5
  replace c6 := New.keep n1 c6
  replace c7 := New.keep n1 c7
  replace c8 := New.keep n1 c8
  replace c9 := New.keep n1 c9
  replace hn := hn.trans n1
  clear n1 KL
  go_wp2_with fail
  refine (KM.out _).mono ?_
  rintro e W7 ⟨rfl, n1⟩
  replace hn := hn.trans n1
  clear n1 KM c0 c1 c2 c3 c4 c5 c6 c7 c8 c9
  go_wp2_with fail
  refine (KW.out _).mono ?_
  rintro e W8 ⟨rfl, n1⟩
  replace hn := hn.trans n1
  clear n1 KW
  go_wp2_with fail
  go_ret
  exact ⟨rfl, hn⟩

end Go.Proofs.Yteoongcajfcgcaa
