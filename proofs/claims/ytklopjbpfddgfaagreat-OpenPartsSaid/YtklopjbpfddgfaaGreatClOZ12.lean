import Derived.Test.YtklopjbpfddgfaaGreatClLZ12
import Derived.Test.YtklopjbpfddgfaaGreatClGZ12

/- Package clip: gather, twice. -/
namespace Go.Proofs.YtklopjbpfddgfaaGreat
open Go.RowKit
set_option linter.unusedVariables false

set_option maxHeartbeats 8000000 in
set_option maxRecDepth 100000 in
theorem k_gatherA (v : Value) (l : List Co) (x z : Int) (g : Nat) (L : List (Int × Int)) (f : Int × Int → Option Co) (tb : Nat) (w : World) (base : Nat) (hbase : base ≤ w.heap.size) (hx : -1 ≤ x ∧ x ≤ 32) (hz : -1 ≤ z ∧ z ≤ 32) (hl : l.length ≤ 1000) (hL : L.length = 4)
    (hown : w.ownsRow base 117 4 v l.length (l.flatMap Co.enc)) (hrow : RowAt La.enc 2 w g 0 L) (htyp : Typ w g 147) (hok : ∀ b ∈ L, ∀ c, f b = some c → Okc c)
    (hgive : ∀ b ∈ L, ∀ W, Ex w W → Calls Tryz.prog 127 #[.agg #[.int .i64 b.1, .int .i64 b.2], .pointer (some ⟨tb, 0, none⟩)] W fun e w' => e = .returned (.tuple #[.agg #[.int .i64 ((f b).elim 0 Co.x), .int .i64 ((f b).elim 0 Co.z), .int .i64 ((f b).elim 0 Co.y), .int .i64 ((f b).elim 0 Co.d)], .bool (f b).isSome]) ∧ New W w') :
    Calls Tryz.prog 125 #[v, .agg #[.int .i64 x, .int .i64 z], .slice (some ⟨g, 0, none⟩) 4 4, .func (.func 127) #[] #[.pointer (some ⟨tb, 0, none⟩)]] w fun e w' => ∃ v', e = .returned v' ∧ Gat w base w' v' (l ++ gat x z f L) := by
  obtain ⟨i0, hi, hz0, hz1, hz2⟩ := info_parts co_info
  have HI := Lib.hid hi
  have HZ0 := Lib.hid hz0
  have HZ1 := Lib.hid hz1
  have HZ2 := Lib.hid hz2
  have HL := Lib.hid hL
  have HG := Lib.hid hgive
  have HO := Lib.hid hok
  have HR := Lib.hid hrow
  have HT := Lib.hid htyp
  have HW := Lib.hid hown
  clear hi hz0 hz1 hz2 hL hgive hok hrow htyp hown
  go_enter Tryz.func125, Tryz.ntmps125
  go_wp2_with fail
  refine Code.at (fun W0 hW => ?_)
  have n0 : New w W0 := by subst hW; (repeat (first | (with_reducible exact New.refl _) | (with_reducible assumption) | ((with_reducible refine New.setB ?_ ?_ _); focus (first | omega | (simp; omega) | (simp; done))) | (with_reducible refine New.alloc ?_ _) | (with_reducible refine New.drew ?_) | (with_reducible refine New.drewN ?_ _) | (with_reducible refine New.hat ?_ _) | ((with_reducible apply New.snart); (with_reducible assumption))))
  have k0 : W0.cell? ⟨w.heap.size, 0, none⟩ = some (.int .i64 x) := by subst hW; go_simp
  have k1 : W0.cell? ⟨w.heap.size, 1, none⟩ = some (.int .i64 z) := by subst hW; go_simp
  have HK : Hid (Typ W0 w.heap.size 147) := by subst hW; exact Lib.hid (Typ.made _ _ _)
  clear hW
  have HA : Hid (Gat w base W0 v l) := Lib.hid ⟨Ex.of_new n0, (Past.refl _ _).new n0, own_new HW.out n0⟩
  have HC : Hid (W0.cell? ⟨w.heap.size, 0, none⟩ = some (.int .i64 x) ∧ W0.cell? ⟨w.heap.size, 1, none⟩ = some (.int .i64 z)) := Lib.hid ⟨k0, k1⟩
  have HN := Lib.hid n0
  have HQ : Hid (l ++ gat x z f (L.take 0) = l) := Lib.hid (by simp [gat])
  clear k0 k1 HW n0
  go_loopg [0, 15] 4 (fun gk s0 s15 wr => ∃ (j : Nat) (v' : Value) (m : List Co), v' = s0 ∧ s15 = .int .i64 j ∧ j ≤ 4 ∧ 4 - j ≤ gk ∧ m.length ≤ l.length + j ∧ Hid (m = l ++ gat x z f (L.take j)) ∧ Hid (Gat w base wr v' m) ∧ Hid (Ex W0 wr))
  case atStart => exact ⟨0, v, l, rfl, rfl, by omega, by omega, by omega, Lib.hid HQ.out.symm, HA, Lib.hid (Ex.refl _)⟩
  case round =>
    obtain ⟨j, v', m, rfl, rfl, hj, hgk, hm, HM, HA, HE⟩ := hrel
    by_cases hlt : j < 4
    · have hjl : j < L.length := by rw [HL.out]; exact hlt
      have hbj : L[j] ∈ L := List.getElem_mem hjl
      have hsn : gat x z f (L.take (j + 1)) = gat x z f (L.take j) ++ ((f L[j]).filter (holdsB x z)).toList := by
        rw [List.take_succ_eq_append_getElem hjl]
        unfold gat
        rw [List.filterMap_append]
        congr 1
      have HSN := Lib.hid hsn
      clear hsn
      have k0 := HE.out.cell HK.out (by decide) HC.out.1
      have k1 := HE.out.cell HK.out (by decide) HC.out.2
      have hrow := HA.out.ex.rows HT.out (by decide) HR.out
      have r0 : wr.cell? ⟨g, j * 2, none⟩ = some (.int .i64 L[j].1) := by have := hrow j hjl 0 (by show 0 < 2; omega); simp only [Nat.zero_add] at this; exact this
      have r1 : wr.cell? ⟨g, j * 2 + 1, none⟩ = some (.int .i64 L[j].2) := by have := hrow j hjl 1 (by show 1 < 2; omega); simp only [Nat.zero_add] at this; exact this
      have zg : g < wr.heap.size := World.block_lt_of_cell? _ _ r0
      have zk : w.heap.size < wr.heap.size := World.block_lt_of_cell? _ _ k0
      clear hrow
      have GV := Lib.hid (fun W (h : Ex w W) => HG.out L[j] hbj W h)
      cases hf : f L[j] with
      | none =>
        rw [hf] at GV
        have HN2 : Hid (m = l ++ gat x z f (L.take (j + 1))) := Lib.hid (by rw [HSN.out, hf, HM.out]; simp)
        clear hf HSN HM
        go_wp2_with fail
        refine Calls.at (fun V hV => ?_)
        have n1 : New wr V := by subst hV; (repeat (first | (with_reducible exact New.refl _) | (with_reducible assumption) | ((with_reducible refine New.setB ?_ ?_ _); focus (first | omega | (simp; omega) | (simp; done))) | (with_reducible refine New.alloc ?_ _) | (with_reducible refine New.drew ?_) | (with_reducible refine New.drewN ?_ _) | (with_reducible refine New.hat ?_ _) | ((with_reducible apply New.snart); (with_reducible assumption))))
        clear hV
        refine (GV.out V (HA.out.ex.new n1)).mono ?_
        rintro e W2 ⟨rfl, n2⟩
        replace n1 := n1.trans n2
        clear n2 GV k0 k1 r0 r1
        simp only [Option.elim_none, Option.isSome_none]
        go_wp2_with fail
        go_roundg (4 - (j + 1))
        case measure => omega
        case rel => exact ⟨j + 1, _, m, rfl, by go_num, by omega, by omega, by omega, HN2, Lib.hid (HA.out.new (by (repeat (first | (with_reducible exact New.refl _) | (with_reducible assumption) | ((with_reducible refine New.setB ?_ ?_ _); focus (first | omega | (simp; omega) | (simp; done))) | (with_reducible refine New.alloc ?_ _) | (with_reducible refine New.drew ?_) | (with_reducible refine New.drewN ?_ _) | (with_reducible refine New.hat ?_ _) | ((with_reducible apply New.snart); (with_reducible assumption)))))), Lib.hid (HE.out.new (by (repeat (first | (with_reducible exact New.refl _) | (with_reducible assumption) | ((with_reducible refine New.setB ?_ ?_ _); focus (first | omega | (simp; omega) | (simp; done))) | (with_reducible refine New.alloc ?_ _) | (with_reducible refine New.drew ?_) | (with_reducible refine New.drewN ?_ _) | (with_reducible refine New.hat ?_ _) | ((with_reducible apply New.snart); (with_reducible assumption))))))⟩
      | some c =>
        rw [hf] at GV
        have hco := HO.out L[j] hbj c hf
        have KH := fun W => k_holds x z c W hco hx hz
        cases hh : holdsB x z c with
        | false =>
          rw [hh] at KH
          replace KH := Lib.hid KH
          have HN2 : Hid (m = l ++ gat x z f (L.take (j + 1))) := Lib.hid (by rw [HSN.out, hf, HM.out]; simp [Option.filter, hh])
          clear hf HSN HM hh hco
          go_wp2_with fail
          refine Calls.at (fun V hV => ?_)
          have n1 : New wr V := by subst hV; (repeat (first | (with_reducible exact New.refl _) | (with_reducible assumption) | ((with_reducible refine New.setB ?_ ?_ _); focus (first | omega | (simp; omega) | (simp; done))) | (with_reducible refine New.alloc ?_ _) | (with_reducible refine New.drew ?_) | (with_reducible refine New.drewN ?_ _) | (with_reducible refine New.hat ?_ _) | ((with_reducible apply New.snart); (with_reducible assumption))))
          clear hV
          refine (GV.out V (HA.out.ex.new n1)).mono ?_
          rintro e W2 ⟨rfl, n2⟩
          replace n1 := n1.trans n2
          replace k0 := n1.keep k0
          replace k1 := n1.keep k1
          clear n2 GV r0 r1
          simp only [Option.elim_some, Option.isSome_some]
          have z2 := n1.size
          have zk2 : w.heap.size < W2.heap.size := World.block_lt_of_cell? _ _ k0
          go_wp2_with fail
          refine Calls.at (fun V hV => ?_)
          have n3 : New W2 V := by subst hV; (repeat (first | (with_reducible exact New.refl _) | (with_reducible assumption) | ((with_reducible refine New.setB ?_ ?_ _); focus (first | omega | (simp; omega) | (simp; done))) | (with_reducible refine New.alloc ?_ _) | (with_reducible refine New.drew ?_) | (with_reducible refine New.drewN ?_ _) | (with_reducible refine New.hat ?_ _) | ((with_reducible apply New.snart); (with_reducible assumption))))
          clear hV
          refine (KH.out V).mono ?_
          rintro e W3 ⟨rfl, n4⟩
          replace n1 := (n1.trans n3).trans n4
          clear n3 n4 KH k0 k1
          go_wp2_with fail
          go_roundg (4 - (j + 1))
          case measure => omega
          case rel => exact ⟨j + 1, _, m, rfl, by go_num, by omega, by omega, by omega, HN2, Lib.hid (HA.out.new (by (repeat (first | (with_reducible exact New.refl _) | (with_reducible assumption) | ((with_reducible refine New.setB ?_ ?_ _); focus (first | omega | (simp; omega) | (simp; done))) | (with_reducible refine New.alloc ?_ _) | (with_reducible refine New.drew ?_) | (with_reducible refine New.drewN ?_ _) | (with_reducible refine New.hat ?_ _) | ((with_reducible apply New.snart); (with_reducible assumption)))))), Lib.hid (HE.out.new (by (repeat (first | (with_reducible exact New.refl _) | (with_reducible assumption) | ((with_reducible refine New.setB ?_ ?_ _); focus (first | omega | (simp; omega) | (simp; done))) | (with_reducible refine New.alloc ?_ _) | (with_reducible refine New.drew ?_) | (with_reducible refine New.drewN ?_ _) | (with_reducible refine New.hat ?_ _) | ((with_reducible apply New.snart); (with_reducible assumption))))))⟩
        | true =>
          rw [hh] at KH
          replace KH := Lib.hid KH
          have HN2 : Hid (m ++ [c] = l ++ gat x z f (L.take (j + 1))) := Lib.hid (by rw [HSN.out, hf, HM.out]; simp [Option.filter, hh])
          clear hf HSN HM hh hco
          go_wp2_with fail
          refine Calls.at (fun V hV => ?_)
          have n1 : New wr V := by subst hV; (repeat (first | (with_reducible exact New.refl _) | (with_reducible assumption) | ((with_reducible refine New.setB ?_ ?_ _); focus (first | omega | (simp; omega) | (simp; done))) | (with_reducible refine New.alloc ?_ _) | (with_reducible refine New.drew ?_) | (with_reducible refine New.drewN ?_ _) | (with_reducible refine New.hat ?_ _) | ((with_reducible apply New.snart); (with_reducible assumption))))
          clear hV
          refine (GV.out V (HA.out.ex.new n1)).mono ?_
          rintro e W2 ⟨rfl, n2⟩
          replace n1 := n1.trans n2
          replace k0 := n1.keep k0
          replace k1 := n1.keep k1
          clear n2 GV r0 r1
          simp only [Option.elim_some, Option.isSome_some]
          have z2 := n1.size
          have zk2 : w.heap.size < W2.heap.size := World.block_lt_of_cell? _ _ k0
          go_wp2_with fail
          refine Calls.at (fun V hV => ?_)
          have n3 : New W2 V := by subst hV; (repeat (first | (with_reducible exact New.refl _) | (with_reducible assumption) | ((with_reducible refine New.setB ?_ ?_ _); focus (first | omega | (simp; omega) | (simp; done))) | (with_reducible refine New.alloc ?_ _) | (with_reducible refine New.drew ?_) | (with_reducible refine New.drewN ?_ _) | (with_reducible refine New.hat ?_ _) | ((with_reducible apply New.snart); (with_reducible assumption))))
          have p0 : V.cell? ⟨W2.heap.size, 0, none⟩ = some (.int .i64 c.x) := by subst hV; go_simp
          have p1 : V.cell? ⟨W2.heap.size, 1, none⟩ = some (.int .i64 c.z) := by subst hV; go_simp
          have p2 : V.cell? ⟨W2.heap.size, 2, none⟩ = some (.int .i64 c.y) := by subst hV; go_simp
          have p3 : V.cell? ⟨W2.heap.size, 3, none⟩ = some (.int .i64 c.d) := by subst hV; go_simp
          clear hV
          refine (KH.out V).mono ?_
          rintro e W3 ⟨rfl, n4⟩
          replace n1 := (n1.trans n3).trans n4
          replace p0 := n4.keep p0
          replace p1 := n4.keep p1
          replace p2 := n4.keep p2
          replace p3 := n4.keep p3
          clear n3 n4 KH k0 k1
          have HA3 : Hid (Gat w base W3 v' m) := Lib.hid (HA.out.new n1)
          have HE3 : Hid (Ex W0 W3) := Lib.hid (HE.out.new n1)
          have hbw : base ≤ W3.heap.size := by have := n1.size; omega
          clear HA HE n1 z2 zg zk zk2
          go_wp2_with (at_builtin; refine wpList_append_own _ rfl _ _ 111 rfl base 117 i0 (.agg #[.int .i64 0, .int .i64 0, .int .i64 0, .int .i64 0]) 4 32 Tryz.underlying111 HI.out HZ0.out HZ1.out HZ2.out rfl (by decide) _ m.length (m.flatMap Co.enc) rfl (World.ownsRow.alloc HA3.out.own _) ⟨W3.heap.size, 0, none⟩ 1 1 c.enc rfl rfl (co_new _ _ _) (Co.enc_one c) (by unfold maxLen; omega) (by omega) (by simp; omega) ?_)
          intro v2 W4 ho hg _
          have n5 : New W3 (W3.alloc (.cells #[.int .i64 c.x, .int .i64 c.z, .int .i64 c.y, .int .i64 c.d] 117)) := by (repeat (first | (with_reducible exact New.refl _) | (with_reducible assumption) | ((with_reducible refine New.setB ?_ ?_ _); focus (first | omega | (simp; omega) | (simp; done))) | (with_reducible refine New.alloc ?_ _) | (with_reducible refine New.drew ?_) | (with_reducible refine New.drewN ?_ _) | (with_reducible refine New.hat ?_ _) | ((with_reducible apply New.snart); (with_reducible assumption))))
          have HA4 : Hid (Gat w base W4 v2 (m ++ [c])) := Lib.hid ((HA3.out.new n5).more ho hg)
          have HE4 : Hid (Ex W0 W4) := Lib.hid ((HE3.out.new n5).trans (Ex.grown (own_new HA3.out.own n5) hg))
          clear ho hg HA3 HE3 p0 p1 p2 p3 n5
          go_wp2_with fail
          go_roundg (4 - (j + 1))
          case measure => omega
          case rel => exact ⟨j + 1, v2, m ++ [c], rfl, by go_num, by omega, by omega, by rw [List.length_append]; simp; omega, HN2, HA4, HE4⟩
    · have e : j = 4 := by omega
      subst e
      have HN2 : Hid (m = l ++ gat x z f L) := Lib.hid (by rw [HM.out, List.take_of_length_le (by rw [HL.out]; exact Nat.le_refl _)])
      clear HM
      go_wp2_with fail
      go_ret
      exact ⟨_, rfl, by rw [← HN2.out]; exact HA.out⟩

set_option maxHeartbeats 8000000 in
set_option maxRecDepth 100000 in
theorem k_gatherB (v : Value) (l : List Co) (x z : Int) (g : Nat) (L : List (Ln)) (f : Ln → Option Co) (s : Sd) (w : World) (base : Nat) (hbase : base ≤ w.heap.size) (hx : -1 ≤ x ∧ x ≤ 32) (hz : -1 ≤ z ∧ z ≤ 32) (hl : l.length ≤ 1000) (hL : L.length = 4)
    (hown : w.ownsRow base 117 4 v l.length (l.flatMap Co.enc)) (hrow : RowAt Ln.enc 3 w g 0 L) (htyp : Typ w g 177) (hok : ∀ b ∈ L, ∀ c, f b = some c → Okc c)
    (hgive : ∀ b ∈ L, ∀ W, Ex w W → Calls Tryz.prog 131 #[.agg #[.int .i64 s.ax, .int .i64 s.ay, .int .i64 s.az, .int .i64 s.bx, .int .i64 s.by', .int .i64 s.bz], .agg #[.int .i64 b.bx, .int .i64 b.bz, .int .i64 b.at']] W fun e w' => e = .returned (.tuple #[.agg #[.int .i64 ((f b).elim 0 Co.x), .int .i64 ((f b).elim 0 Co.z), .int .i64 ((f b).elim 0 Co.y), .int .i64 ((f b).elim 0 Co.d)], .bool (f b).isSome]) ∧ New W w') :
    Calls Tryz.prog 129 #[v, .agg #[.int .i64 x, .int .i64 z], .slice (some ⟨g, 0, none⟩) 4 4, .func (.func 131) #[.agg #[.int .i64 s.ax, .int .i64 s.ay, .int .i64 s.az, .int .i64 s.bx, .int .i64 s.by', .int .i64 s.bz]] #[]] w fun e w' => ∃ v', e = .returned v' ∧ Gat w base w' v' (l ++ gat x z f L) := by
  obtain ⟨i0, hi, hz0, hz1, hz2⟩ := info_parts co_info
  have HI := Lib.hid hi
  have HZ0 := Lib.hid hz0
  have HZ1 := Lib.hid hz1
  have HZ2 := Lib.hid hz2
  have HL := Lib.hid hL
  have HG := Lib.hid hgive
  have HO := Lib.hid hok
  have HR := Lib.hid hrow
  have HT := Lib.hid htyp
  have HW := Lib.hid hown
  clear hi hz0 hz1 hz2 hL hgive hok hrow htyp hown
  go_enter Tryz.func129, Tryz.ntmps129
  go_wp2_with fail
  refine Code.at (fun W0 hW => ?_)
  have n0 : New w W0 := by subst hW; (repeat (first | (with_reducible exact New.refl _) | (with_reducible assumption) | ((with_reducible refine New.setB ?_ ?_ _); focus (first | omega | (simp; omega) | (simp; done))) | (with_reducible refine New.alloc ?_ _) | (with_reducible refine New.drew ?_) | (with_reducible refine New.drewN ?_ _) | (with_reducible refine New.hat ?_ _) | ((with_reducible apply New.snart); (with_reducible assumption))))
  have k0 : W0.cell? ⟨w.heap.size, 0, none⟩ = some (.int .i64 x) := by subst hW; go_simp
  have k1 : W0.cell? ⟨w.heap.size, 1, none⟩ = some (.int .i64 z) := by subst hW; go_simp
  have HK : Hid (Typ W0 w.heap.size 147) := by subst hW; exact Lib.hid (Typ.made _ _ _)
  clear hW
  have HA : Hid (Gat w base W0 v l) := Lib.hid ⟨Ex.of_new n0, (Past.refl _ _).new n0, own_new HW.out n0⟩
  have HC : Hid (W0.cell? ⟨w.heap.size, 0, none⟩ = some (.int .i64 x) ∧ W0.cell? ⟨w.heap.size, 1, none⟩ = some (.int .i64 z)) := Lib.hid ⟨k0, k1⟩
  have HN := Lib.hid n0
  have HQ : Hid (l ++ gat x z f (L.take 0) = l) := Lib.hid (by simp [gat])
  clear k0 k1 HW n0
  go_loopg [0, 15] 4 (fun gk s0 s15 wr => ∃ (j : Nat) (v' : Value) (m : List Co), v' = s0 ∧ s15 = .int .i64 j ∧ j ≤ 4 ∧ 4 - j ≤ gk ∧ m.length ≤ l.length + j ∧ Hid (m = l ++ gat x z f (L.take j)) ∧ Hid (Gat w base wr v' m) ∧ Hid (Ex W0 wr))
  case atStart => exact ⟨0, v, l, rfl, rfl, by omega, by omega, by omega, Lib.hid HQ.out.symm, HA, Lib.hid (Ex.refl _)⟩
  case round =>
    obtain ⟨j, v', m, rfl, rfl, hj, hgk, hm, HM, HA, HE⟩ := hrel
    by_cases hlt : j < 4
    · have hjl : j < L.length := by rw [HL.out]; exact hlt
      have hbj : L[j] ∈ L := List.getElem_mem hjl
      have hsn : gat x z f (L.take (j + 1)) = gat x z f (L.take j) ++ ((f L[j]).filter (holdsB x z)).toList := by
        rw [List.take_succ_eq_append_getElem hjl]
        unfold gat
        rw [List.filterMap_append]
        congr 1
      have HSN := Lib.hid hsn
      clear hsn
      have k0 := HE.out.cell HK.out (by decide) HC.out.1
      have k1 := HE.out.cell HK.out (by decide) HC.out.2
      have hrow := HA.out.ex.rows HT.out (by decide) HR.out
      have r0 : wr.cell? ⟨g, j * 3, none⟩ = some (.int .i64 L[j].bx) := by have := hrow j hjl 0 (by show 0 < 3; omega); simp only [Nat.zero_add] at this; exact this
      have r1 : wr.cell? ⟨g, j * 3 + 1, none⟩ = some (.int .i64 L[j].bz) := by have := hrow j hjl 1 (by show 1 < 3; omega); simp only [Nat.zero_add] at this; exact this
      have r2 : wr.cell? ⟨g, j * 3 + 2, none⟩ = some (.int .i64 L[j].at') := by have := hrow j hjl 2 (by show 2 < 3; omega); simp only [Nat.zero_add] at this; exact this
      have zg : g < wr.heap.size := World.block_lt_of_cell? _ _ r0
      have zk : w.heap.size < wr.heap.size := World.block_lt_of_cell? _ _ k0
      clear hrow
      have GV := Lib.hid (fun W (h : Ex w W) => HG.out L[j] hbj W h)
      cases hf : f L[j] with
      | none =>
        rw [hf] at GV
        have HN2 : Hid (m = l ++ gat x z f (L.take (j + 1))) := Lib.hid (by rw [HSN.out, hf, HM.out]; simp)
        clear hf HSN HM
        go_wp2_with fail
        refine Calls.at (fun V hV => ?_)
        have n1 : New wr V := by subst hV; (repeat (first | (with_reducible exact New.refl _) | (with_reducible assumption) | ((with_reducible refine New.setB ?_ ?_ _); focus (first | omega | (simp; omega) | (simp; done))) | (with_reducible refine New.alloc ?_ _) | (with_reducible refine New.drew ?_) | (with_reducible refine New.drewN ?_ _) | (with_reducible refine New.hat ?_ _) | ((with_reducible apply New.snart); (with_reducible assumption))))
        clear hV
        refine (GV.out V (HA.out.ex.new n1)).mono ?_
        rintro e W2 ⟨rfl, n2⟩
        replace n1 := n1.trans n2
        clear n2 GV k0 k1 r0 r1 r2
        simp only [Option.elim_none, Option.isSome_none]
        go_wp2_with fail
        go_roundg (4 - (j + 1))
        case measure => omega
        case rel => exact ⟨j + 1, _, m, rfl, by go_num, by omega, by omega, by omega, HN2, Lib.hid (HA.out.new (by (repeat (first | (with_reducible exact New.refl _) | (with_reducible assumption) | ((with_reducible refine New.setB ?_ ?_ _); focus (first | omega | (simp; omega) | (simp; done))) | (with_reducible refine New.alloc ?_ _) | (with_reducible refine New.drew ?_) | (with_reducible refine New.drewN ?_ _) | (with_reducible refine New.hat ?_ _) | ((with_reducible apply New.snart); (with_reducible assumption)))))), Lib.hid (HE.out.new (by (repeat (first | (with_reducible exact New.refl _) | (with_reducible assumption) | ((with_reducible refine New.setB ?_ ?_ _); focus (first | omega | (simp; omega) | (simp; done))) | (with_reducible refine New.alloc ?_ _) | (with_reducible refine New.drew ?_) | (with_reducible refine New.drewN ?_ _) | (with_reducible refine New.hat ?_ _) | ((with_reducible apply New.snart); (with_reducible assumption))))))⟩
      | some c =>
        rw [hf] at GV
        have hco := HO.out L[j] hbj c hf
        have KH := fun W => k_holds x z c W hco hx hz
        cases hh : holdsB x z c with
        | false =>
          rw [hh] at KH
          replace KH := Lib.hid KH
          have HN2 : Hid (m = l ++ gat x z f (L.take (j + 1))) := Lib.hid (by rw [HSN.out, hf, HM.out]; simp [Option.filter, hh])
          clear hf HSN HM hh hco
          go_wp2_with fail
          refine Calls.at (fun V hV => ?_)
          have n1 : New wr V := by subst hV; (repeat (first | (with_reducible exact New.refl _) | (with_reducible assumption) | ((with_reducible refine New.setB ?_ ?_ _); focus (first | omega | (simp; omega) | (simp; done))) | (with_reducible refine New.alloc ?_ _) | (with_reducible refine New.drew ?_) | (with_reducible refine New.drewN ?_ _) | (with_reducible refine New.hat ?_ _) | ((with_reducible apply New.snart); (with_reducible assumption))))
          clear hV
          refine (GV.out V (HA.out.ex.new n1)).mono ?_
          rintro e W2 ⟨rfl, n2⟩
          replace n1 := n1.trans n2
          replace k0 := n1.keep k0
          replace k1 := n1.keep k1
          clear n2 GV r0 r1 r2
          simp only [Option.elim_some, Option.isSome_some]
          have z2 := n1.size
          have zk2 : w.heap.size < W2.heap.size := World.block_lt_of_cell? _ _ k0
          go_wp2_with fail
          refine Calls.at (fun V hV => ?_)
          have n3 : New W2 V := by subst hV; (repeat (first | (with_reducible exact New.refl _) | (with_reducible assumption) | ((with_reducible refine New.setB ?_ ?_ _); focus (first | omega | (simp; omega) | (simp; done))) | (with_reducible refine New.alloc ?_ _) | (with_reducible refine New.drew ?_) | (with_reducible refine New.drewN ?_ _) | (with_reducible refine New.hat ?_ _) | ((with_reducible apply New.snart); (with_reducible assumption))))
          clear hV
          refine (KH.out V).mono ?_
          rintro e W3 ⟨rfl, n4⟩
          replace n1 := (n1.trans n3).trans n4
          clear n3 n4 KH k0 k1
          go_wp2_with fail
          go_roundg (4 - (j + 1))
          case measure => omega
          case rel => exact ⟨j + 1, _, m, rfl, by go_num, by omega, by omega, by omega, HN2, Lib.hid (HA.out.new (by (repeat (first | (with_reducible exact New.refl _) | (with_reducible assumption) | ((with_reducible refine New.setB ?_ ?_ _); focus (first | omega | (simp; omega) | (simp; done))) | (with_reducible refine New.alloc ?_ _) | (with_reducible refine New.drew ?_) | (with_reducible refine New.drewN ?_ _) | (with_reducible refine New.hat ?_ _) | ((with_reducible apply New.snart); (with_reducible assumption)))))), Lib.hid (HE.out.new (by (repeat (first | (with_reducible exact New.refl _) | (with_reducible assumption) | ((with_reducible refine New.setB ?_ ?_ _); focus (first | omega | (simp; omega) | (simp; done))) | (with_reducible refine New.alloc ?_ _) | (with_reducible refine New.drew ?_) | (with_reducible refine New.drewN ?_ _) | (with_reducible refine New.hat ?_ _) | ((with_reducible apply New.snart); (with_reducible assumption))))))⟩
        | true =>
          rw [hh] at KH
          replace KH := Lib.hid KH
          have HN2 : Hid (m ++ [c] = l ++ gat x z f (L.take (j + 1))) := Lib.hid (by rw [HSN.out, hf, HM.out]; simp [Option.filter, hh])
          clear hf HSN HM hh hco
          go_wp2_with fail
          refine Calls.at (fun V hV => ?_)
          have n1 : New wr V := by subst hV; (repeat (first | (with_reducible exact New.refl _) | (with_reducible assumption) | ((with_reducible refine New.setB ?_ ?_ _); focus (first | omega | (simp; omega) | (simp; done))) | (with_reducible refine New.alloc ?_ _) | (with_reducible refine New.drew ?_) | (with_reducible refine New.drewN ?_ _) | (with_reducible refine New.hat ?_ _) | ((with_reducible apply New.snart); (with_reducible assumption))))
          clear hV
          refine (GV.out V (HA.out.ex.new n1)).mono ?_
          rintro e W2 ⟨rfl, n2⟩
          replace n1 := n1.trans n2
          replace k0 := n1.keep k0
          replace k1 := n1.keep k1
          clear n2 GV r0 r1 r2
          simp only [Option.elim_some, Option.isSome_some]
          have z2 := n1.size
          have zk2 : w.heap.size < W2.heap.size := World.block_lt_of_cell? _ _ k0
          go_wp2_with fail
          refine Calls.at (fun V hV => ?_)
          have n3 : New W2 V := by subst hV; (repeat (first | (with_reducible exact New.refl _) | (with_reducible assumption) | ((with_reducible refine New.setB ?_ ?_ _); focus (first | omega | (simp; omega) | (simp; done))) | (with_reducible refine New.alloc ?_ _) | (with_reducible refine New.drew ?_) | (with_reducible refine New.drewN ?_ _) | (with_reducible refine New.hat ?_ _) | ((with_reducible apply New.snart); (with_reducible assumption))))
          have p0 : V.cell? ⟨W2.heap.size, 0, none⟩ = some (.int .i64 c.x) := by subst hV; go_simp
          have p1 : V.cell? ⟨W2.heap.size, 1, none⟩ = some (.int .i64 c.z) := by subst hV; go_simp
          have p2 : V.cell? ⟨W2.heap.size, 2, none⟩ = some (.int .i64 c.y) := by subst hV; go_simp
          have p3 : V.cell? ⟨W2.heap.size, 3, none⟩ = some (.int .i64 c.d) := by subst hV; go_simp
          clear hV
          refine (KH.out V).mono ?_
          rintro e W3 ⟨rfl, n4⟩
          replace n1 := (n1.trans n3).trans n4
          replace p0 := n4.keep p0
          replace p1 := n4.keep p1
          replace p2 := n4.keep p2
          replace p3 := n4.keep p3
          clear n3 n4 KH k0 k1
          have HA3 : Hid (Gat w base W3 v' m) := Lib.hid (HA.out.new n1)
          have HE3 : Hid (Ex W0 W3) := Lib.hid (HE.out.new n1)
          have hbw : base ≤ W3.heap.size := by have := n1.size; omega
          clear HA HE n1 z2 zg zk zk2
          go_wp2_with (at_builtin; refine wpList_append_own _ rfl _ _ 111 rfl base 117 i0 (.agg #[.int .i64 0, .int .i64 0, .int .i64 0, .int .i64 0]) 4 32 Tryz.underlying111 HI.out HZ0.out HZ1.out HZ2.out rfl (by decide) _ m.length (m.flatMap Co.enc) rfl (World.ownsRow.alloc HA3.out.own _) ⟨W3.heap.size, 0, none⟩ 1 1 c.enc rfl rfl (co_new _ _ _) (Co.enc_one c) (by unfold maxLen; omega) (by omega) (by simp; omega) ?_)
          intro v2 W4 ho hg _
          have n5 : New W3 (W3.alloc (.cells #[.int .i64 c.x, .int .i64 c.z, .int .i64 c.y, .int .i64 c.d] 117)) := by (repeat (first | (with_reducible exact New.refl _) | (with_reducible assumption) | ((with_reducible refine New.setB ?_ ?_ _); focus (first | omega | (simp; omega) | (simp; done))) | (with_reducible refine New.alloc ?_ _) | (with_reducible refine New.drew ?_) | (with_reducible refine New.drewN ?_ _) | (with_reducible refine New.hat ?_ _) | ((with_reducible apply New.snart); (with_reducible assumption))))
          have HA4 : Hid (Gat w base W4 v2 (m ++ [c])) := Lib.hid ((HA3.out.new n5).more ho hg)
          have HE4 : Hid (Ex W0 W4) := Lib.hid ((HE3.out.new n5).trans (Ex.grown (own_new HA3.out.own n5) hg))
          clear ho hg HA3 HE3 p0 p1 p2 p3 n5
          go_wp2_with fail
          go_roundg (4 - (j + 1))
          case measure => omega
          case rel => exact ⟨j + 1, v2, m ++ [c], rfl, by go_num, by omega, by omega, by rw [List.length_append]; simp; omega, HN2, HA4, HE4⟩
    · have e : j = 4 := by omega
      subst e
      have HN2 : Hid (m = l ++ gat x z f L) := Lib.hid (by rw [HM.out, List.take_of_length_le (by rw [HL.out]; exact Nat.le_refl _)])
      clear HM
      go_wp2_with fail
      go_ret
      exact ⟨_, rfl, by rw [← HN2.out]; exact HA.out⟩

end Go.Proofs.YtklopjbpfddgfaaGreat

/- Package clip: all corners that a triangle and a column have in common. -/
namespace Go.Proofs.YtklopjbpfddgfaaGreat
open Go.RowKit
set_option linter.unusedVariables false

/-- A triangle's cells. -/
def TAt (w : World) (b : Nat) (T : TriR) : Prop := CellsAt w b 0 T.enc
theorem TAt.cells {w : World} {b : Nat} {T : TriR} (h : TAt w b T) : w.cell? ⟨b, 0, none⟩ = some (.int .i64 T.i) ∧ w.cell? ⟨b, 1, none⟩ = some (.int .i64 T.x0) ∧ w.cell? ⟨b, 2, none⟩ = some (.int .i64 T.y0) ∧ w.cell? ⟨b, 3, none⟩ = some (.int .i64 T.z0) ∧ w.cell? ⟨b, 4, none⟩ = some (.int .i64 T.x1) ∧ w.cell? ⟨b, 5, none⟩ = some (.int .i64 T.y1) ∧ w.cell? ⟨b, 6, none⟩ = some (.int .i64 T.z1) ∧ w.cell? ⟨b, 7, none⟩ = some (.int .i64 T.x2) ∧ w.cell? ⟨b, 8, none⟩ = some (.int .i64 T.y2) ∧ w.cell? ⟨b, 9, none⟩ = some (.int .i64 T.z2) := by
  refine ⟨?_, ?_, ?_, ?_, ?_, ?_, ?_, ?_, ?_, ?_⟩

  · have := h 0 (by rw [TriR.enc_len]; omega); simp only [Nat.zero_add] at this; exact this
  · have := h 1 (by rw [TriR.enc_len]; omega); simp only [Nat.zero_add] at this; exact this
  · have := h 2 (by rw [TriR.enc_len]; omega); simp only [Nat.zero_add] at this; exact this
  · have := h 3 (by rw [TriR.enc_len]; omega); simp only [Nat.zero_add] at this; exact this
  · have := h 4 (by rw [TriR.enc_len]; omega); simp only [Nat.zero_add] at this; exact this
  · have := h 5 (by rw [TriR.enc_len]; omega); simp only [Nat.zero_add] at this; exact this
  · have := h 6 (by rw [TriR.enc_len]; omega); simp only [Nat.zero_add] at this; exact this
  · have := h 7 (by rw [TriR.enc_len]; omega); simp only [Nat.zero_add] at this; exact this
  · have := h 8 (by rw [TriR.enc_len]; omega); simp only [Nat.zero_add] at this; exact this
  · have := h 9 (by rw [TriR.enc_len]; omega); simp only [Nat.zero_add] at this; exact this
theorem TAt.mk {w : World} {b : Nat} {T : TriR} (h0 : w.cell? ⟨b, 0, none⟩ = some (.int .i64 T.i)) (h1 : w.cell? ⟨b, 1, none⟩ = some (.int .i64 T.x0)) (h2 : w.cell? ⟨b, 2, none⟩ = some (.int .i64 T.y0)) (h3 : w.cell? ⟨b, 3, none⟩ = some (.int .i64 T.z0)) (h4 : w.cell? ⟨b, 4, none⟩ = some (.int .i64 T.x1)) (h5 : w.cell? ⟨b, 5, none⟩ = some (.int .i64 T.y1)) (h6 : w.cell? ⟨b, 6, none⟩ = some (.int .i64 T.z1)) (h7 : w.cell? ⟨b, 7, none⟩ = some (.int .i64 T.x2)) (h8 : w.cell? ⟨b, 8, none⟩ = some (.int .i64 T.y2)) (h9 : w.cell? ⟨b, 9, none⟩ = some (.int .i64 T.z2)) : TAt w b T := by
  intro i hi
  rw [TriR.enc_len] at hi
  rw [Nat.zero_add]
  match i, hi with
  | 0, _ => exact h0
  | 1, _ => exact h1
  | 2, _ => exact h2
  | 3, _ => exact h3
  | 4, _ => exact h4
  | 5, _ => exact h5
  | 6, _ => exact h6
  | 7, _ => exact h7
  | 8, _ => exact h8
  | 9, _ => exact h9

theorem Ex.tri {w w' : World} (h : Ex w w') {b : Nat} {T : TriR} (hb : Typ w b 83) (hc : TAt w b T) : TAt w' b T := fun i hi => h.cell hb (by decide) (hc i hi)

set_option maxHeartbeats 2000000 in
set_option maxRecDepth 100000 in
theorem k_clo (T : TriR) (hk : okT T = true) (px pz : Int) (tb : Nat) (w : World) (hx : -64 ≤ px ∧ px ≤ 64) (hz : -64 ≤ pz ∧ pz ≤ 64) (hT : TAt w tb T) :
    Calls Tryz.prog 127 #[.agg #[.int .i64 px, .int .i64 pz], .pointer (some ⟨tb, 0, none⟩)] w fun e w' => e = .returned (.tuple #[.agg #[.int .i64 ((aboveO T (px, pz)).elim 0 Co.x), .int .i64 ((aboveO T (px, pz)).elim 0 Co.z), .int .i64 ((aboveO T (px, pz)).elim 0 Co.y), .int .i64 ((aboveO T (px, pz)).elim 0 Co.d)], .bool (aboveO T (px, pz)).isSome]) ∧ New w w' := by
  have KA := Lib.hid (fun W => k_above T hk px pz W hx hz _ rfl)
  obtain ⟨c0, c1, c2, c3, c4, c5, c6, c7, c8, c9⟩ := hT.cells
  have zt : tb < w.heap.size := World.block_lt_of_cell? _ _ c0
  clear hT hk
  generalize aboveO T (px, pz) = r at *
  generalize r.elim 0 Co.x = rx at *
  generalize r.elim 0 Co.z = rz at *
  generalize r.elim 0 Co.y = ry at *
  generalize r.elim 0 Co.d = rd at *
  generalize r.isSome = rb at *
  go_enter Tryz.func127, Tryz.ntmps127
  go_wp2_with fail
  refine (KA.out _).mono ?_
  rintro e W1 ⟨rfl, n1⟩
  have e0 : W1.cell? ⟨w.heap.size + 1, 0, none⟩ = some (.int .i64 0) := n1.keep (by go_simp)
  have f0 : W1.frozen? ⟨w.heap.size + 1, 0, none⟩ = false := n1.keepF (v := .int .i64 0) (by go_simp) (by go_simp)
  have e1 : W1.cell? ⟨w.heap.size + 1, 1, none⟩ = some (.int .i64 0) := n1.keep (by go_simp)
  have f1 : W1.frozen? ⟨w.heap.size + 1, 1, none⟩ = false := n1.keepF (v := .int .i64 0) (by go_simp) (by go_simp)
  have e2 : W1.cell? ⟨w.heap.size + 1, 2, none⟩ = some (.int .i64 0) := n1.keep (by go_simp)
  have f2 : W1.frozen? ⟨w.heap.size + 1, 2, none⟩ = false := n1.keepF (v := .int .i64 0) (by go_simp) (by go_simp)
  have e3 : W1.cell? ⟨w.heap.size + 1, 3, none⟩ = some (.int .i64 0) := n1.keep (by go_simp)
  have f3 : W1.frozen? ⟨w.heap.size + 1, 3, none⟩ = false := n1.keepF (v := .int .i64 0) (by go_simp) (by go_simp)
  have hn : New w W1 := New.trans (by (repeat (first | (with_reducible exact New.refl _) | (with_reducible assumption) | ((with_reducible refine New.setB ?_ ?_ _); focus (first | omega | (simp; omega) | (simp; done))) | (with_reducible refine New.alloc ?_ _) | (with_reducible refine New.drew ?_) | (with_reducible refine New.drewN ?_ _) | (with_reducible refine New.hat ?_ _) | ((with_reducible apply New.snart); (with_reducible assumption))))) n1
  clear n1 KA c0 c1 c2 c3 c4 c5 c6 c7 c8 c9
  go_wp2_with fail
  refine bodyPost_ret (v := .tuple #[.agg #[.int .i64 rx, .int .i64 rz, .int .i64 ry, .int .i64 rd], .bool rb]) (by simp [results, Tryz.results127, go_sem, *]) rfl ?_
  exact ⟨rfl, by (repeat (first | (with_reducible exact New.refl _) | (with_reducible assumption) | ((with_reducible refine New.setB ?_ ?_ _); focus (first | omega | (simp; omega) | (simp; done))) | (with_reducible refine New.alloc ?_ _) | (with_reducible refine New.drew ?_) | (with_reducible refine New.drewN ?_ _) | (with_reducible refine New.hat ?_ _) | ((with_reducible apply New.snart); (with_reducible assumption))))⟩

theorem own_mono {w : World} {base base' : Nat} {e : TypeId} {size : Nat} {v : Value} {n : Nat} {xs : List Value} (h : w.ownsRow base e size v n xs) (hb : base' ≤ base) : w.ownsRow base' e size v n xs :=
  ⟨h.1, h.2.imp id fun ⟨g, cap, cur, h1, h2, h3⟩ => ⟨g, cap, cur, h1, Nat.le_trans hb h2, h3⟩⟩

theorem gat_len {β : Type} (x z : Int) (f : β → Option Co) (L : List β) : (gat x z f L).length ≤ L.length := List.length_filterMap_le _ _

theorem side_ok {T : TriR} (hk : okT T = true) (i : Nat) : SdOk (side T i) := by
  have hs := ok_in hk
  unfold StP StV at hs
  match i with
  | 0 => constructor <;> simp only [side] <;> omega
  | 1 => constructor <;> simp only [side] <;> omega
  | i + 2 => constructor <;> simp only [side] <;> omega
theorem line_ok {x z : Int} (hx : -1 ≤ x ∧ x ≤ 32) (hz : -1 ≤ z ∧ z ≤ 32) {l : Ln} (h : l ∈ lineL x z) : LnOk l := by
  unfold lineL at h
  simp only [List.mem_cons, List.not_mem_nil, or_false] at h
  rcases h with rfl | rfl | rfl | rfl <;> constructor <;> simp only [] <;> omega
theorem above_okc {T : TriR} (hk : okT T = true) {x z : Int} (hx : -1 ≤ x ∧ x ≤ 32) (hz : -1 ≤ z ∧ z ≤ 32) {p : Int × Int} (h : p ∈ cornL x z) {c : Co} (hc : aboveO T p = some c) : Okc c := by
  have b := corn_in hx hz h
  unfold aboveO at hc
  split at hc
  · injection hc with hc; subst hc; exact abC_ok hk (by omega) (by omega)
  · cases hc
theorem cross_okc {T : TriR} (hk : okT T = true) {x z : Int} (hx : -1 ≤ x ∧ x ≤ 32) (hz : -1 ≤ z ∧ z ≤ 32) (i : Nat) {l : Ln} (h : l ∈ lineL x z) {c : Co} (hc : crossO (side T i) l = some c) : Okc c := by
  unfold crossO at hc
  split at hc
  · cases hc
  · rename_i hs; injection hc with hc; subst hc; exact crC_ok (side_ok hk i) (line_ok hx hz h) hs

/-- What holds when the first corners are gathered, and behind each side. -/
structure Com (w1 : World) (tb cb : Nat) (T : TriR) (x z : Int) (wr : World) (v : Value) (l : List Co) : Prop where
  g : Gat w1 w1.heap.size wr v l
  tt : Typ w1 tb 83
  tc : Typ w1 cb 147
  t : TAt w1 tb T
  c0 : w1.cell? ⟨cb, 0, none⟩ = some (.int .i64 x)
  c1 : w1.cell? ⟨cb, 1, none⟩ = some (.int .i64 z)
theorem Com.tri {w1 wr : World} {tb cb : Nat} {T : TriR} {x z : Int} {v : Value} {l : List Co} (h : Com w1 tb cb T x z wr v l) : TAt wr tb T := h.g.ex.tri h.tt h.t
theorem Com.col {w1 wr : World} {tb cb : Nat} {T : TriR} {x z : Int} {v : Value} {l : List Co} (h : Com w1 tb cb T x z wr v l) : wr.cell? ⟨cb, 0, none⟩ = some (.int .i64 x) ∧ wr.cell? ⟨cb, 1, none⟩ = some (.int .i64 z) :=
  ⟨h.g.ex.cell h.tc (by decide) h.c0, h.g.ex.cell h.tc (by decide) h.c1⟩
theorem Com.new {w1 wr wr' : World} {tb cb : Nat} {T : TriR} {x z : Int} {v : Value} {l : List Co} (h : Com w1 tb cb T x z wr v l) (n : New wr wr') : Com w1 tb cb T x z wr' v l := ⟨h.g.new n, h.tt, h.tc, h.t, h.c0, h.c1⟩
theorem Gat.trans {a b c : World} {base : Nat} {v v' : Value} {l m : List Co} (h : Gat a base b v l) (k : Gat b base c v' m) : Gat a base c v' m := ⟨h.ex.trans k.ex, h.past.trans k.past, k.own⟩
theorem Com.more {w1 wr wr' : World} {tb cb : Nat} {T : TriR} {x z : Int} {v v' : Value} {l m : List Co} (h : Com w1 tb cb T x z wr v l) (k : Gat wr w1.heap.size wr' v' m) : Com w1 tb cb T x z wr' v' m := ⟨h.g.trans k, h.tt, h.tc, h.t, h.c0, h.c1⟩

def k_r1V (x z : Int) (tb : Nat) : Nat → World → Value → Prop
  | 0, _, v => v = .agg #[.int .i64 x, .int .i64 z]
  | 1, _, v => v = .agg #[.int .i64 x, .int .i64 z]
  | 2, w, v => ∃ g, v = .slice (some ⟨g, 0, none⟩) 4 4 ∧ RowAt La.enc 2 w g 0 (cornL x z) ∧ Typ w g 147
  | _, _, v => v = .func (.func 127) #[] #[.pointer (some ⟨tb, 0, none⟩)]
theorem k_r1V_keep {x z : Int} {tb : Nat} : ∀ i w w' v, k_r1V x z tb i w v → New w w' → k_r1V x z tb i w' v := by
  intro i w w' v h hn
  rcases (show i = 0 ∨ i = 1 ∨ i = 2 ∨ 3 ≤ i by omega) with rfl | rfl | rfl | hi
  · exact h
  · exact h
  · obtain ⟨g, e, h1, h2⟩ := h; exact ⟨g, e, h1.keep hn, h2.keep hn⟩
  · obtain ⟨k, rfl⟩ : ∃ k, i = k + 3 := ⟨i - 3, by omega⟩
    exact h

def sdV (s : Sd) : Value := .agg #[.int .i64 s.ax, .int .i64 s.ay, .int .i64 s.az, .int .i64 s.bx, .int .i64 s.by', .int .i64 s.bz]
def k_r6V (x z : Int) (s : Sd) (u : Value) : Nat → World → Value → Prop
  | 0, _, v => v = u
  | 1, _, v => v = .agg #[.int .i64 x, .int .i64 z]
  | 2, _, v => v = .agg #[.int .i64 x, .int .i64 z]
  | 3, w, v => ∃ g, v = .slice (some ⟨g, 0, none⟩) 4 4 ∧ RowAt Ln.enc 3 w g 0 (lineL x z) ∧ Typ w g 177
  | 4, _, v => v = .agg #[.int .i64 s.ax, .int .i64 s.ay, .int .i64 s.az, .int .i64 s.bx, .int .i64 s.by', .int .i64 s.bz]
  | _, _, v => v = .func (.func 131) #[.agg #[.int .i64 s.ax, .int .i64 s.ay, .int .i64 s.az, .int .i64 s.bx, .int .i64 s.by', .int .i64 s.bz]] #[]
theorem k_r6V_keep {x z : Int} {s : Sd} {u : Value} : ∀ i w w' v, k_r6V x z s u i w v → New w w' → k_r6V x z s u i w' v := by
  intro i w w' v h hn
  rcases (show i = 0 ∨ i = 1 ∨ i = 2 ∨ i = 3 ∨ i = 4 ∨ 5 ≤ i by omega) with rfl | rfl | rfl | rfl | rfl | hi
  · exact h
  · exact h
  · exact h
  · obtain ⟨g, e, h1, h2⟩ := h; exact ⟨g, e, h1.keep hn, h2.keep hn⟩
  · exact h
  · obtain ⟨k, rfl⟩ : ∃ k, i = k + 5 := ⟨i - 5, by omega⟩
    exact h

set_option maxHeartbeats 8000000 in
set_option maxRecDepth 100000 in
theorem k_common (T : TriR) (hk : okT T = true) (x z : Int) (w : World) (hx : -1 ≤ x ∧ x ≤ 32) (hz : -1 ≤ z ∧ z ≤ 32) :
    Calls Tryz.prog 103 #[.agg #[.int .i64 T.i, .int .i64 T.x0, .int .i64 T.y0, .int .i64 T.z0, .int .i64 T.x1, .int .i64 T.y1, .int .i64 T.z1, .int .i64 T.x2, .int .i64 T.y2, .int .i64 T.z2], .agg #[.int .i64 x, .int .i64 z]] w fun e w' => ∃ v, e = .returned v ∧ w'.ownsRow w.heap.size 117 4 v (comL T x z).length ((comL T x z).flatMap Co.enc) ∧ New w w' := by
  have KC := Lib.hid (fun W => k_corners x z W hx hz)
  have KL := Lib.hid (fun W => k_lines x z W hx hz)
  have GA := Lib.hid (fun (g tb : Nat) (W : World) (h1 : RowAt La.enc 2 W g 0 (cornL x z)) (h2 : Typ W g 147) (h3 : TAt W tb T) (h4 : Typ W tb 83) =>
    k_gatherA (.slice none 0 0) [] x z g (cornL x z) (aboveO T) tb W W.heap.size (Nat.le_refl _) hx hz (by simp) rfl (World.ownsRow_nil _ _ _ _) h1 h2 (fun p hp c hc => above_okc hk hx hz hp hc)
      (fun p hp W' hE => k_clo T hk p.1 p.2 tb W' (by have := (corn_in hx hz hp).1; omega) (by have := (corn_in hx hz hp).2; omega) (hE.tri h4 h3)))
  have GB := Lib.hid (fun (i : Nat) (v : Value) (l : List Co) (g base : Nat) (W : World) (hb : base ≤ W.heap.size) (hl : l.length ≤ 1000) (ho : W.ownsRow base 117 4 v l.length (l.flatMap Co.enc)) (h1 : RowAt Ln.enc 3 W g 0 (lineL x z)) (h2 : Typ W g 177) =>
    k_gatherB v l x z g (lineL x z) (crossO (side T i)) (side T i) W base hb hx hz hl rfl ho h1 h2 (fun p hp c hc => cross_okc hk hx hz i hp hc)
      (fun p hp W' hE => k_cross (side T i) p W' (side_ok hk i) (line_ok hx hz hp) _ rfl))
  clear hk
  go_enter Tryz.func103, Tryz.ntmps103
  go_upto_region 1 with fail
  refine Code.at (fun W0 hW => ?_)
  have n0 : New w W0 := by subst hW; (repeat (first | (with_reducible exact New.refl _) | (with_reducible assumption) | ((with_reducible refine New.setB ?_ ?_ _); focus (first | omega | (simp; omega) | (simp; done))) | (with_reducible refine New.alloc ?_ _) | (with_reducible refine New.drew ?_) | (with_reducible refine New.drewN ?_ _) | (with_reducible refine New.hat ?_ _) | ((with_reducible apply New.snart); (with_reducible assumption))))
  have HT0 : TAt W0 w.heap.size T := by subst hW; exact TAt.mk (by go_simp) (by go_simp) (by go_simp) (by go_simp) (by go_simp) (by go_simp) (by go_simp) (by go_simp) (by go_simp) (by go_simp)
  have HY0 : Typ W0 w.heap.size 83 := by subst hW; exact Typ.keep (Typ.made w _ _) (by (repeat (first | (with_reducible exact New.refl _) | (with_reducible assumption) | ((with_reducible refine New.setB ?_ ?_ _); focus (first | omega | (simp; omega) | (simp; done))) | (with_reducible refine New.alloc ?_ _) | (with_reducible refine New.drew ?_) | (with_reducible refine New.drewN ?_ _) | (with_reducible refine New.hat ?_ _) | ((with_reducible apply New.snart); (with_reducible assumption)))))
  have HY1 : Typ W0 (w.heap.size + 1) 147 := by subst hW; exact ⟨_, _, heap_two _ _ _⟩
  have k0 : W0.cell? ⟨w.heap.size + 1, 0, none⟩ = some (.int .i64 x) := by subst hW; go_simp
  have k1 : W0.cell? ⟨w.heap.size + 1, 1, none⟩ = some (.int .i64 z) := by subst hW; go_simp
  clear hW
  refine wp_region_loose 4 (k_r1V x z w.heap.size) (by kernel_rfl) (by kernel_rfl) k_r1V_keep ?_ ?_
  · intro i o hi ho a' w' nn hr hd
    rcases (show i = 0 ∨ i = 1 ∨ i = 2 ∨ i = 3 by omega) with rfl | rfl | rfl | rfl <;> obtain rfl := Option.some.inj ho
    · have r3 : (a'.tmps[3]?).getD undef = .pointer (some ⟨w.heap.size + 1, 0, none⟩) := (eval_get a' 3).symm.trans (hr 3 (by kernel_rfl))
      have x0 := nn.keep k0
      have x1 := nn.keep k1
      exact yields_value (.agg #[.int .i64 x, .int .i64 z]) (by go_simp) ⟨New.refl _, rfl⟩
    · have r3 : (a'.tmps[3]?).getD undef = .pointer (some ⟨w.heap.size + 1, 0, none⟩) := (eval_get a' 3).symm.trans (hr 3 (by kernel_rfl))
      have x0 := nn.keep k0
      have x1 := nn.keep k1
      exact yields_value (.agg #[.int .i64 x, .int .i64 z]) (by go_simp) ⟨New.refl _, rfl⟩
    · have r9 : (a'.tmps[9]?).getD undef = .agg #[.int .i64 x, .int .i64 z] := (eval_get a' 9).symm.trans (hd 1 9 (by omega) (by kernel_rfl) (by kernel_rfl))
      refine yields_enter 126 #[.agg #[.int .i64 x, .int .i64 z]] (by go_simp) ((KC.out w').mono ?_)
      rintro e w'' ⟨g, he, h1, h2, h3⟩
      exact ⟨_, he, h3, g, rfl, h1, h2⟩
    · have r2 : (a'.tmps[2]?).getD undef = .pointer (some ⟨w.heap.size, 0, none⟩) := (eval_get a' 2).symm.trans (hr 2 (by kernel_rfl))
      exact yields_value (.func (.func 127) #[] #[.pointer (some ⟨w.heap.size, 0, none⟩)]) (by go_simp) ⟨New.refl _, rfl⟩
  intro vs w1 nn hv
  have e0 : vs 0 = .agg #[.int .i64 x, .int .i64 z] := hv 0 (by omega)
  obtain ⟨g, e2, hg1, hg2⟩ : ∃ g, vs 2 = .slice (some ⟨g, 0, none⟩) 4 4 ∧ RowAt La.enc 2 w1 g 0 (cornL x z) ∧ Typ w1 g 147 := hv 2 (by omega)
  have e3 : vs 3 = .func (.func 127) #[] #[.pointer (some ⟨w.heap.size, 0, none⟩)] := hv 3 (by omega)
  have hT1 : TAt w1 w.heap.size T := fun i hi => nn.keep (HT0 i hi)
  have GA1 := Lib.hid (GA.out g w.heap.size w1 hg1 hg2 hT1 (HY0.keep nn))
  have n1 : New w w1 := n0.trans nn
  have HY0' := HY0.keep nn
  have HY1' := HY1.keep nn
  replace k0 := nn.keep k0
  replace k1 := nn.keep k1
  simp only [List.take_succ_cons, List.take_zero, List.drop_succ_cons, List.drop_zero, putL, Act.put, List.setIfInBounds_toArray, List.set_cons_zero, List.set_cons_succ, Nat.reduceAdd, Nat.zero_add]
  rw [e0, e2, e3]
  have HN1 := Lib.hid n1
  have HZ : Hid (∀ wr v l, Gat w1 w1.heap.size wr v l → Com w1 w.heap.size (w.heap.size + 1) T x z wr v l) := Lib.hid (fun wr v l h => ⟨h, HY0', HY1', hT1, k0, k1⟩)
  clear hv e0 e2 e3 hg1 hg2 hT1 HT0 HY0 HY1 HY0' HY1' k0 k1 nn n0 KC GA n1
  go_wp2_with fail
  refine GA1.out.mono ?_
  rintro e V ⟨v, rfl, hG⟩
  have HC := Lib.hid (HZ.out _ _ _ hG)
  clear hG GA1 HZ
  rw [List.nil_append] at HC
  have hlen : (gat x z (aboveO T) (cornL x z)).length ≤ 4 := gat_len x z (aboveO T) (cornL x z)
  obtain ⟨l0, hl0⟩ : ∃ l0, l0 = gat x z (aboveO T) (cornL x z) := ⟨_, rfl⟩
  rw [← hl0] at HC hlen
  have HL0 := Lib.hid hl0
  clear hl0
  go_wp2_with fail
  refine wp_loop_rounds 4 ?_
  rw [rounds_succ]
  go_upto_region 5 with fail
  obtain ⟨c0, c1, c2, c3, c4, c5, c6, c7, c8, c9⟩ := HC.out.tri.cells
  have zt : w.heap.size < V.heap.size := World.block_lt_of_cell? _ _ c0
  go_cut [7] (fun s7 Z => ∃ b : Nat, s7 = .pointer (some ⟨b, 0, none⟩) ∧ New V Z ∧ Z.cell? ⟨b, 0, none⟩ = some (.int .i64 T.x0) ∧ Z.cell? ⟨b, 1, none⟩ = some (.int .i64 T.y0) ∧ Z.cell? ⟨b, 2, none⟩ = some (.int .i64 T.z0) ∧ Z.cell? ⟨b, 3, none⟩ = some (.int .i64 T.x1) ∧ Z.cell? ⟨b, 4, none⟩ = some (.int .i64 T.y1) ∧ Z.cell? ⟨b, 5, none⟩ = some (.int .i64 T.z1))
  case first =>
    go_region
    all_goals
      go_wp2_with fail
      go_meet
      exact ⟨_, rfl, by (repeat (first | (with_reducible exact New.refl _) | (with_reducible assumption) | ((with_reducible refine New.setB ?_ ?_ _); focus (first | omega | (simp; omega) | (simp; done))) | (with_reducible refine New.alloc ?_ _) | (with_reducible refine New.drew ?_) | (with_reducible refine New.drewN ?_ _) | (with_reducible refine New.hat ?_ _) | ((with_reducible apply New.snart); (with_reducible assumption)))), by go_simp, by go_simp, by go_simp, by go_simp, by go_simp, by go_simp⟩
  case rest =>
    obtain ⟨sb, rfl, nZ, p0, p1, p2, p3, p4, p5⟩ := hcut
    clear c0 c1 c2 c3 c4 c5 c6 c7 c8 c9 zt
    rename World => X
    replace HC := Lib.hid (HC.out.new nZ)
    clear nZ
    obtain ⟨k0, k1⟩ := HC.out.col
    go_upto_region 6 with fail
    refine wp_region_loose 6 (k_r6V x z (side T 0) v) (by kernel_rfl) (by kernel_rfl) k_r6V_keep ?_ ?_
    · intro i o hi ho a' w' nn hr hd
      rcases (show i = 0 ∨ i = 1 ∨ i = 2 ∨ i = 3 ∨ i = 4 ∨ i = 5 by omega) with rfl | rfl | rfl | rfl | rfl | rfl <;> obtain rfl := Option.some.inj ho
      · have r5 : (a'.tmps[5]?).getD undef = v := (eval_get a' 5).symm.trans (hr 5 (by kernel_rfl))
        exact yields_value v (by go_simp) ⟨New.refl _, rfl⟩
      · have r3 : (a'.tmps[3]?).getD undef = .pointer (some ⟨w.heap.size + 1, 0, none⟩) := (eval_get a' 3).symm.trans (hr 3 (by kernel_rfl))
        have x0 := nn.keep k0
        have x1 := nn.keep k1
        exact yields_value (.agg #[.int .i64 x, .int .i64 z]) (by go_simp) ⟨New.refl _, rfl⟩
      · have r3 : (a'.tmps[3]?).getD undef = .pointer (some ⟨w.heap.size + 1, 0, none⟩) := (eval_get a' 3).symm.trans (hr 3 (by kernel_rfl))
        have x0 := nn.keep k0
        have x1 := nn.keep k1
        exact yields_value (.agg #[.int .i64 x, .int .i64 z]) (by go_simp) ⟨New.refl _, rfl⟩
      · have r29 : (a'.tmps[29]?).getD undef = .agg #[.int .i64 x, .int .i64 z] := (eval_get a' 29).symm.trans (hd 2 29 (by omega) (by kernel_rfl) (by kernel_rfl))
        refine yields_enter 130 #[.agg #[.int .i64 x, .int .i64 z]] (by go_simp) ((KL.out w').mono ?_)
        rintro e w'' ⟨g, he, h1, h2, h3⟩
        exact ⟨_, he, h3, g, rfl, h1, h2⟩
      · have r7 : (a'.tmps[7]?).getD undef = .pointer (some ⟨sb, 0, none⟩) := (eval_get a' 7).symm.trans (hr 7 (by kernel_rfl))
        have x0 := nn.keep p0
        have x1 := nn.keep p1
        have x2 := nn.keep p2
        have x3 := nn.keep p3
        have x4 := nn.keep p4
        have x5 := nn.keep p5
        exact yields_value (.agg #[.int .i64 T.x0, .int .i64 T.y0, .int .i64 T.z0, .int .i64 T.x1, .int .i64 T.y1, .int .i64 T.z1]) (by go_simp) ⟨New.refl _, rfl⟩
      · have r31 : (a'.tmps[31]?).getD undef = .agg #[.int .i64 T.x0, .int .i64 T.y0, .int .i64 T.z0, .int .i64 T.x1, .int .i64 T.y1, .int .i64 T.z1] := (eval_get a' 31).symm.trans (hd 4 31 (by omega) (by kernel_rfl) (by kernel_rfl))
        exact yields_value (.func (.func 131) #[.agg #[.int .i64 T.x0, .int .i64 T.y0, .int .i64 T.z0, .int .i64 T.x1, .int .i64 T.y1, .int .i64 T.z1]] #[]) (by go_simp) ⟨New.refl _, rfl⟩
    intro vs Y nn hv
    have e0 : vs 0 = v := hv 0 (by omega)
    have e1 : vs 1 = .agg #[.int .i64 x, .int .i64 z] := hv 1 (by omega)
    obtain ⟨g0, e3, hg1, hg2⟩ : ∃ g, vs 3 = .slice (some ⟨g, 0, none⟩) 4 4 ∧ RowAt Ln.enc 3 Y g 0 (lineL x z) ∧ Typ Y g 177 := hv 3 (by omega)
    have e5 : vs 5 = .func (.func 131) #[.agg #[.int .i64 T.x0, .int .i64 T.y0, .int .i64 T.z0, .int .i64 T.x1, .int .i64 T.y1, .int .i64 T.z1]] #[] := hv 5 (by omega)
    replace HC := Lib.hid (HC.out.new nn)
    have GB1 := Lib.hid (GB.out 0 v l0 g0 w1.heap.size Y (HC.out.g.ex.size) (by omega) HC.out.g.own hg1 hg2)
    simp only [side] at GB1
    simp only [List.take_succ_cons, List.take_zero, List.drop_succ_cons, List.drop_zero, putL, Act.put, List.setIfInBounds_toArray, List.set_cons_zero, List.set_cons_succ, Nat.reduceAdd, Nat.zero_add]
    rw [e0, e1, e3, e5]
    clear hv e0 e1 e3 e5 hg1 hg2 k0 k1 nn p0 p1 p2 p3 p4 p5
    go_wp2_with fail
    refine GB1.out.mono ?_
    rintro e V1 ⟨v1, rfl, hG⟩
    replace HC := Lib.hid (HC.out.more hG)
    clear hG GB1
    obtain ⟨l1, hl1⟩ : ∃ m, m = l0 ++ gat x z (crossO (side T 0)) (lineL x z) := ⟨_, rfl⟩
    have hlen1 : l1.length ≤ 8 := by rw [hl1, List.length_append]; have : (gat x z (crossO (side T 0)) (lineL x z)).length ≤ 4 := gat_len x z _ (lineL x z); omega
    change Hid (Com w1 _ _ T x z V1 v1 (l0 ++ gat x z (crossO (side T 0)) (lineL x z))) at HC
    rw [← hl1] at HC
    have HL1 := Lib.hid hl1
    clear hl1
    go_wp2_with fail
    rw [rounds_succ]
    go_upto_region 5 with fail
    obtain ⟨c0, c1, c2, c3, c4, c5, c6, c7, c8, c9⟩ := HC.out.tri.cells
    have zt : w.heap.size < V1.heap.size := World.block_lt_of_cell? _ _ c0
    go_cut [7] (fun s7 Z => ∃ b : Nat, s7 = .pointer (some ⟨b, 0, none⟩) ∧ New V1 Z ∧ Z.cell? ⟨b, 0, none⟩ = some (.int .i64 T.x1) ∧ Z.cell? ⟨b, 1, none⟩ = some (.int .i64 T.y1) ∧ Z.cell? ⟨b, 2, none⟩ = some (.int .i64 T.z1) ∧ Z.cell? ⟨b, 3, none⟩ = some (.int .i64 T.x2) ∧ Z.cell? ⟨b, 4, none⟩ = some (.int .i64 T.y2) ∧ Z.cell? ⟨b, 5, none⟩ = some (.int .i64 T.z2))
    case first =>
      go_region
      all_goals
        go_wp2_with fail
        go_meet
        exact ⟨_, rfl, by (repeat (first | (with_reducible exact New.refl _) | (with_reducible assumption) | ((with_reducible refine New.setB ?_ ?_ _); focus (first | omega | (simp; omega) | (simp; done))) | (with_reducible refine New.alloc ?_ _) | (with_reducible refine New.drew ?_) | (with_reducible refine New.drewN ?_ _) | (with_reducible refine New.hat ?_ _) | ((with_reducible apply New.snart); (with_reducible assumption)))), by go_simp, by go_simp, by go_simp, by go_simp, by go_simp, by go_simp⟩
    case rest =>
      obtain ⟨sb, rfl, nZ, p0, p1, p2, p3, p4, p5⟩ := hcut
      clear c0 c1 c2 c3 c4 c5 c6 c7 c8 c9 zt
      rename World => X
      replace HC := Lib.hid (HC.out.new nZ)
      clear nZ
      obtain ⟨k0, k1⟩ := HC.out.col
      go_upto_region 6 with fail
      refine wp_region_loose 6 (k_r6V x z (side T 1) v1) (by kernel_rfl) (by kernel_rfl) k_r6V_keep ?_ ?_
      · intro i o hi ho a' w' nn hr hd
        rcases (show i = 0 ∨ i = 1 ∨ i = 2 ∨ i = 3 ∨ i = 4 ∨ i = 5 by omega) with rfl | rfl | rfl | rfl | rfl | rfl <;> obtain rfl := Option.some.inj ho
        · have r5 : (a'.tmps[5]?).getD undef = v1 := (eval_get a' 5).symm.trans (hr 5 (by kernel_rfl))
          exact yields_value v1 (by go_simp) ⟨New.refl _, rfl⟩
        · have r3 : (a'.tmps[3]?).getD undef = .pointer (some ⟨w.heap.size + 1, 0, none⟩) := (eval_get a' 3).symm.trans (hr 3 (by kernel_rfl))
          have x0 := nn.keep k0
          have x1 := nn.keep k1
          exact yields_value (.agg #[.int .i64 x, .int .i64 z]) (by go_simp) ⟨New.refl _, rfl⟩
        · have r3 : (a'.tmps[3]?).getD undef = .pointer (some ⟨w.heap.size + 1, 0, none⟩) := (eval_get a' 3).symm.trans (hr 3 (by kernel_rfl))
          have x0 := nn.keep k0
          have x1 := nn.keep k1
          exact yields_value (.agg #[.int .i64 x, .int .i64 z]) (by go_simp) ⟨New.refl _, rfl⟩
        · have r29 : (a'.tmps[29]?).getD undef = .agg #[.int .i64 x, .int .i64 z] := (eval_get a' 29).symm.trans (hd 2 29 (by omega) (by kernel_rfl) (by kernel_rfl))
          refine yields_enter 130 #[.agg #[.int .i64 x, .int .i64 z]] (by go_simp) ((KL.out w').mono ?_)
          rintro e w'' ⟨g, he, h1, h2, h3⟩
          exact ⟨_, he, h3, g, rfl, h1, h2⟩
        · have r7 : (a'.tmps[7]?).getD undef = .pointer (some ⟨sb, 0, none⟩) := (eval_get a' 7).symm.trans (hr 7 (by kernel_rfl))
          have x0 := nn.keep p0
          have x1 := nn.keep p1
          have x2 := nn.keep p2
          have x3 := nn.keep p3
          have x4 := nn.keep p4
          have x5 := nn.keep p5
          exact yields_value (.agg #[.int .i64 T.x1, .int .i64 T.y1, .int .i64 T.z1, .int .i64 T.x2, .int .i64 T.y2, .int .i64 T.z2]) (by go_simp) ⟨New.refl _, rfl⟩
        · have r31 : (a'.tmps[31]?).getD undef = .agg #[.int .i64 T.x1, .int .i64 T.y1, .int .i64 T.z1, .int .i64 T.x2, .int .i64 T.y2, .int .i64 T.z2] := (eval_get a' 31).symm.trans (hd 4 31 (by omega) (by kernel_rfl) (by kernel_rfl))
          exact yields_value (.func (.func 131) #[.agg #[.int .i64 T.x1, .int .i64 T.y1, .int .i64 T.z1, .int .i64 T.x2, .int .i64 T.y2, .int .i64 T.z2]] #[]) (by go_simp) ⟨New.refl _, rfl⟩
      intro vs Y nn hv
      have e0 : vs 0 = v1 := hv 0 (by omega)
      have e1 : vs 1 = .agg #[.int .i64 x, .int .i64 z] := hv 1 (by omega)
      obtain ⟨g1, e3, hg1, hg2⟩ : ∃ g, vs 3 = .slice (some ⟨g, 0, none⟩) 4 4 ∧ RowAt Ln.enc 3 Y g 0 (lineL x z) ∧ Typ Y g 177 := hv 3 (by omega)
      have e5 : vs 5 = .func (.func 131) #[.agg #[.int .i64 T.x1, .int .i64 T.y1, .int .i64 T.z1, .int .i64 T.x2, .int .i64 T.y2, .int .i64 T.z2]] #[] := hv 5 (by omega)
      replace HC := Lib.hid (HC.out.new nn)
      have GB1 := Lib.hid (GB.out 1 v1 l1 g1 w1.heap.size Y (HC.out.g.ex.size) (by omega) HC.out.g.own hg1 hg2)
      simp only [side] at GB1
      simp only [List.take_succ_cons, List.take_zero, List.drop_succ_cons, List.drop_zero, putL, Act.put, List.setIfInBounds_toArray, List.set_cons_zero, List.set_cons_succ, Nat.reduceAdd, Nat.zero_add]
      rw [e0, e1, e3, e5]
      clear hv e0 e1 e3 e5 hg1 hg2 k0 k1 nn p0 p1 p2 p3 p4 p5
      go_wp2_with fail
      refine GB1.out.mono ?_
      rintro e V2 ⟨v2, rfl, hG⟩
      replace HC := Lib.hid (HC.out.more hG)
      clear hG GB1
      obtain ⟨l2, hl2⟩ : ∃ m, m = l1 ++ gat x z (crossO (side T 1)) (lineL x z) := ⟨_, rfl⟩
      have hlen2 : l2.length ≤ 12 := by rw [hl2, List.length_append]; have : (gat x z (crossO (side T 1)) (lineL x z)).length ≤ 4 := gat_len x z _ (lineL x z); omega
      change Hid (Com w1 _ _ T x z V2 v2 (l1 ++ gat x z (crossO (side T 1)) (lineL x z))) at HC
      rw [← hl2] at HC
      have HL2 := Lib.hid hl2
      clear hl2
      go_wp2_with fail
      rw [rounds_succ]
      go_upto_region 5 with fail
      obtain ⟨c0, c1, c2, c3, c4, c5, c6, c7, c8, c9⟩ := HC.out.tri.cells
      have zt : w.heap.size < V2.heap.size := World.block_lt_of_cell? _ _ c0
      go_cut [7] (fun s7 Z => ∃ b : Nat, s7 = .pointer (some ⟨b, 0, none⟩) ∧ New V2 Z ∧ Z.cell? ⟨b, 0, none⟩ = some (.int .i64 T.x2) ∧ Z.cell? ⟨b, 1, none⟩ = some (.int .i64 T.y2) ∧ Z.cell? ⟨b, 2, none⟩ = some (.int .i64 T.z2) ∧ Z.cell? ⟨b, 3, none⟩ = some (.int .i64 T.x0) ∧ Z.cell? ⟨b, 4, none⟩ = some (.int .i64 T.y0) ∧ Z.cell? ⟨b, 5, none⟩ = some (.int .i64 T.z0))
      case first =>
        go_region
        all_goals
          go_wp2_with fail
          go_meet
          exact ⟨_, rfl, by (repeat (first | (with_reducible exact New.refl _) | (with_reducible assumption) | ((with_reducible refine New.setB ?_ ?_ _); focus (first | omega | (simp; omega) | (simp; done))) | (with_reducible refine New.alloc ?_ _) | (with_reducible refine New.drew ?_) | (with_reducible refine New.drewN ?_ _) | (with_reducible refine New.hat ?_ _) | ((with_reducible apply New.snart); (with_reducible assumption)))), by go_simp, by go_simp, by go_simp, by go_simp, by go_simp, by go_simp⟩
      case rest =>
        obtain ⟨sb, rfl, nZ, p0, p1, p2, p3, p4, p5⟩ := hcut
        clear c0 c1 c2 c3 c4 c5 c6 c7 c8 c9 zt
        rename World => X
        replace HC := Lib.hid (HC.out.new nZ)
        clear nZ
        obtain ⟨k0, k1⟩ := HC.out.col
        go_upto_region 6 with fail
        refine wp_region_loose 6 (k_r6V x z (side T 2) v2) (by kernel_rfl) (by kernel_rfl) k_r6V_keep ?_ ?_
        · intro i o hi ho a' w' nn hr hd
          rcases (show i = 0 ∨ i = 1 ∨ i = 2 ∨ i = 3 ∨ i = 4 ∨ i = 5 by omega) with rfl | rfl | rfl | rfl | rfl | rfl <;> obtain rfl := Option.some.inj ho
          · have r5 : (a'.tmps[5]?).getD undef = v2 := (eval_get a' 5).symm.trans (hr 5 (by kernel_rfl))
            exact yields_value v2 (by go_simp) ⟨New.refl _, rfl⟩
          · have r3 : (a'.tmps[3]?).getD undef = .pointer (some ⟨w.heap.size + 1, 0, none⟩) := (eval_get a' 3).symm.trans (hr 3 (by kernel_rfl))
            have x0 := nn.keep k0
            have x1 := nn.keep k1
            exact yields_value (.agg #[.int .i64 x, .int .i64 z]) (by go_simp) ⟨New.refl _, rfl⟩
          · have r3 : (a'.tmps[3]?).getD undef = .pointer (some ⟨w.heap.size + 1, 0, none⟩) := (eval_get a' 3).symm.trans (hr 3 (by kernel_rfl))
            have x0 := nn.keep k0
            have x1 := nn.keep k1
            exact yields_value (.agg #[.int .i64 x, .int .i64 z]) (by go_simp) ⟨New.refl _, rfl⟩
          · have r29 : (a'.tmps[29]?).getD undef = .agg #[.int .i64 x, .int .i64 z] := (eval_get a' 29).symm.trans (hd 2 29 (by omega) (by kernel_rfl) (by kernel_rfl))
            refine yields_enter 130 #[.agg #[.int .i64 x, .int .i64 z]] (by go_simp) ((KL.out w').mono ?_)
            rintro e w'' ⟨g, he, h1, h2, h3⟩
            exact ⟨_, he, h3, g, rfl, h1, h2⟩
          · have r7 : (a'.tmps[7]?).getD undef = .pointer (some ⟨sb, 0, none⟩) := (eval_get a' 7).symm.trans (hr 7 (by kernel_rfl))
            have x0 := nn.keep p0
            have x1 := nn.keep p1
            have x2 := nn.keep p2
            have x3 := nn.keep p3
            have x4 := nn.keep p4
            have x5 := nn.keep p5
            exact yields_value (.agg #[.int .i64 T.x2, .int .i64 T.y2, .int .i64 T.z2, .int .i64 T.x0, .int .i64 T.y0, .int .i64 T.z0]) (by go_simp) ⟨New.refl _, rfl⟩
          · have r31 : (a'.tmps[31]?).getD undef = .agg #[.int .i64 T.x2, .int .i64 T.y2, .int .i64 T.z2, .int .i64 T.x0, .int .i64 T.y0, .int .i64 T.z0] := (eval_get a' 31).symm.trans (hd 4 31 (by omega) (by kernel_rfl) (by kernel_rfl))
            exact yields_value (.func (.func 131) #[.agg #[.int .i64 T.x2, .int .i64 T.y2, .int .i64 T.z2, .int .i64 T.x0, .int .i64 T.y0, .int .i64 T.z0]] #[]) (by go_simp) ⟨New.refl _, rfl⟩
        intro vs Y nn hv
        have e0 : vs 0 = v2 := hv 0 (by omega)
        have e1 : vs 1 = .agg #[.int .i64 x, .int .i64 z] := hv 1 (by omega)
        obtain ⟨g2, e3, hg1, hg2⟩ : ∃ g, vs 3 = .slice (some ⟨g, 0, none⟩) 4 4 ∧ RowAt Ln.enc 3 Y g 0 (lineL x z) ∧ Typ Y g 177 := hv 3 (by omega)
        have e5 : vs 5 = .func (.func 131) #[.agg #[.int .i64 T.x2, .int .i64 T.y2, .int .i64 T.z2, .int .i64 T.x0, .int .i64 T.y0, .int .i64 T.z0]] #[] := hv 5 (by omega)
        replace HC := Lib.hid (HC.out.new nn)
        have GB1 := Lib.hid (GB.out 2 v2 l2 g2 w1.heap.size Y (HC.out.g.ex.size) (by omega) HC.out.g.own hg1 hg2)
        simp only [side] at GB1
        simp only [List.take_succ_cons, List.take_zero, List.drop_succ_cons, List.drop_zero, putL, Act.put, List.setIfInBounds_toArray, List.set_cons_zero, List.set_cons_succ, Nat.reduceAdd, Nat.zero_add]
        rw [e0, e1, e3, e5]
        clear hv e0 e1 e3 e5 hg1 hg2 k0 k1 nn p0 p1 p2 p3 p4 p5
        go_wp2_with fail
        refine GB1.out.mono ?_
        rintro e V3 ⟨v3, rfl, hG⟩
        replace HC := Lib.hid (HC.out.more hG)
        clear hG GB1
        obtain ⟨l3, hl3⟩ : ∃ m, m = l2 ++ gat x z (crossO (side T 2)) (lineL x z) := ⟨_, rfl⟩
        have hlen3 : l3.length ≤ 16 := by rw [hl3, List.length_append]; have : (gat x z (crossO (side T 2)) (lineL x z)).length ≤ 4 := gat_len x z _ (lineL x z); omega
        change Hid (Com w1 _ _ T x z V3 v3 (l2 ++ gat x z (crossO (side T 2)) (lineL x z))) at HC
        rw [← hl3] at HC
        have HL3 := Lib.hid hl3
        clear hl3
        go_wp2_with fail
        rw [rounds_succ]
        go_wp2_with fail
        go_ret
        have e : l3 = comL T x z := by rw [HL3.out, HL2.out, HL1.out, HL0.out]; rfl
        rw [← e]
        exact ⟨_, rfl, own_mono HC.out.g.own HN1.out.size, HC.out.g.past w HN1.out HN1.out.size⟩

end Go.Proofs.YtklopjbpfddgfaaGreat

/- Package clip: Corners, Columns. -/
namespace Go.Proofs.YtklopjbpfddgfaaGreat
open Go.RowKit Go.Sort Go.Shelf Go.Lib
set_option linter.unusedVariables false

theorem com_okc {T : TriR} (hk : okT T = true) {x z : Int} (hx : -1 ≤ x ∧ x ≤ 32) (hz : -1 ≤ z ∧ z ≤ 32) {c : Co} (h : c ∈ comL T x z) : Okc c := by
  unfold comL at h
  simp only [List.mem_append, mem_gat] at h
  rcases h with ((⟨b, hb, h, -⟩ | ⟨b, hb, h, -⟩) | ⟨b, hb, h, -⟩) | ⟨b, hb, h, -⟩
  · exact above_okc hk hx hz hb h
  · exact cross_okc hk hx hz 0 hb h
  · exact cross_okc hk hx hz 1 hb h
  · exact cross_okc hk hx hz 2 hb h
theorem com_len (T : TriR) (x z : Int) : (comL T x z).length ≤ 16 := by
  unfold comL
  simp only [List.length_append]
  have h0 : (gat x z (aboveO T) (cornL x z)).length ≤ 4 := gat_len x z _ (cornL x z)
  have h1 : (gat x z (crossO (side T 0)) (lineL x z)).length ≤ 4 := gat_len x z _ (lineL x z)
  have h2 : (gat x z (crossO (side T 1)) (lineL x z)).length ≤ 4 := gat_len x z _ (lineL x z)
  have h3 : (gat x z (crossO (side T 2)) (lineL x z)).length ≤ 4 := gat_len x z _ (lineL x z)
  omega

/-- The corners of what lies over a column. -/
structure IsCor (T : TriR) (x z : Int) (R : List Co) : Prop where
  rise : R.Pairwise ltC
  mem : ∀ c, c ∈ R ↔ c ∈ comL T x z

def CorP (T : TriR) (x z : Int) (w : World) (e : Ending) (w' : World) : Prop := ∃ (v : Value) (R : List Co), e = .returned (.tuple #[v, .int .i64 0]) ∧ Sl Co.enc 4 w' v R ∧ IsCor T x z R ∧ New w w'

theorem cor_few {T : TriR} {x z : Int} (h : (comL T x z).length < 2) : IsCor T x z (comL T x z) := by
  refine ⟨?_, fun c => Iff.rfl⟩
  match hl : comL T x z, h with
  | [], _ => exact List.Pairwise.nil
  | [a], _ => exact List.pairwise_singleton _ _
  | a :: b :: l, h => exact absurd h (by simp)
theorem cor_many {T : TriR} (hk : okT T = true) {x z : Int} (hx : -1 ≤ x ∧ x ≤ 32) (hz : -1 ≤ z ∧ z ≤ 32) {m : List Co} (hp : m.Perm (comL T x z)) (hs : m.Pairwise (fun a b => ¬ ltC b a)) : IsCor T x z (cmpU m m.length) := by
  refine ⟨cmpU_rise (fun c hc => (com_prim hk hx hz (hp.mem_iff.1 hc)).1.1) (fun a ha b hb e1 e2 => com_one hk (com_prim hk hx hz (hp.mem_iff.1 ha)) (com_prim hk hx hz (hp.mem_iff.1 hb)) e1 e2) hs _, fun c => ?_⟩
  rw [mem_cmpU, List.take_length]
  exact hp.mem_iff

theorem sl_of_row {w : World} {g cap : Nat} {l : List Co} (h : RowAt Co.enc 4 w g 0 l) (hc : l.length ≤ cap) (hm : cap ≤ maxLen) : Sl Co.enc 4 w (.slice (some ⟨g, 0, none⟩) l.length cap) l :=
  ⟨_, _, rfl, hc, hm, fun h => (by cases h), fun _ => ⟨g, 0, rfl, h⟩⟩

/-- The error of a question. -/
def corE (T : TriR) (x z : Int) : Int := if okT T then (if colB x && colB z then 0 else 2) else 40

set_option maxHeartbeats 4000000 in
set_option maxRecDepth 100000 in
theorem k_cor_bad (T : TriR) (x z : Int) (w : World) (h : corE T x z ≠ 0) :
    Calls Tryz.prog 82 #[.agg #[.int .i64 T.i, .int .i64 T.x0, .int .i64 T.y0, .int .i64 T.z0, .int .i64 T.x1, .int .i64 T.y1, .int .i64 T.z1, .int .i64 T.x2, .int .i64 T.y2, .int .i64 T.z2], .int .i64 x, .int .i64 z] w fun e w' => e = .returned (.tuple #[.slice none 0 0, .int .i64 (corE T x z)]) ∧ New w w' := by
  have KC := fun W => k_check T W
  have KX := fun W => k_col x W
  have KZ := fun W => k_col z W
  unfold chkE at KC
  unfold corE at h ⊢
  cases hk : okT T
  · rw [hk] at KC
    simp only [Bool.false_eq_true, if_false] at KC ⊢
    replace KC := Lib.hid KC
    clear h hk KX KZ
    go_enter Tryz.func82, Tryz.ntmps82
    go_wp2_with fail
    refine (KC.out _).mono ?_
    rintro e W1 ⟨rfl, n1⟩
    have hn : New w W1 := New.trans (by (repeat (first | (with_reducible exact New.refl _) | (with_reducible assumption) | ((with_reducible refine New.setB ?_ ?_ _); focus (first | omega | (simp; omega) | (simp; done))) | (with_reducible refine New.alloc ?_ _) | (with_reducible refine New.drew ?_) | (with_reducible refine New.drewN ?_ _) | (with_reducible refine New.hat ?_ _) | ((with_reducible apply New.snart); (with_reducible assumption))))) n1
    clear n1
    go_wp2_with fail
    refine bodyPost_ret (v := .tuple #[.slice none 0 0, .int .i64 40]) (by simp [results, Tryz.results82, go_sem, *]) rfl ?_
    exact ⟨rfl, hn⟩
  · rw [hk] at KC h
    simp only [if_true] at KC h ⊢
    cases hx : colB x
    · rw [hx] at KX
      simp only [Bool.false_and, Bool.false_eq_true, if_false]
      replace KC := Lib.hid KC
      replace KX := Lib.hid KX
      clear h hk KZ hx
      go_enter Tryz.func82, Tryz.ntmps82
      go_wp2_with fail
      refine (KC.out _).mono ?_
      rintro e W1 ⟨rfl, n1⟩
      have hn : New w W1 := New.trans (by (repeat (first | (with_reducible exact New.refl _) | (with_reducible assumption) | ((with_reducible refine New.setB ?_ ?_ _); focus (first | omega | (simp; omega) | (simp; done))) | (with_reducible refine New.alloc ?_ _) | (with_reducible refine New.drew ?_) | (with_reducible refine New.drewN ?_ _) | (with_reducible refine New.hat ?_ _) | ((with_reducible apply New.snart); (with_reducible assumption))))) n1
      clear n1
      go_wp2_with fail
      refine (KX.out _).mono ?_
      rintro e W2 ⟨rfl, rfl⟩
      go_wp2_with fail
      refine bodyPost_ret (v := .tuple #[.slice none 0 0, .int .i64 2]) (by simp [results, Tryz.results82, go_sem, *]) rfl ?_
      exact ⟨rfl, hn⟩
    · cases hz : colB z
      · rw [hx] at KX
        rw [hz] at KZ
        simp only [Bool.and_false, Bool.false_eq_true, if_false]
        replace KC := Lib.hid KC
        replace KX := Lib.hid KX
        replace KZ := Lib.hid KZ
        clear h hk hx hz
        go_enter Tryz.func82, Tryz.ntmps82
        go_wp2_with fail
        refine (KC.out _).mono ?_
        rintro e W1 ⟨rfl, n1⟩
        have hn : New w W1 := New.trans (by (repeat (first | (with_reducible exact New.refl _) | (with_reducible assumption) | ((with_reducible refine New.setB ?_ ?_ _); focus (first | omega | (simp; omega) | (simp; done))) | (with_reducible refine New.alloc ?_ _) | (with_reducible refine New.drew ?_) | (with_reducible refine New.drewN ?_ _) | (with_reducible refine New.hat ?_ _) | ((with_reducible apply New.snart); (with_reducible assumption))))) n1
        clear n1
        go_wp2_with fail
        refine (KX.out _).mono ?_
        rintro e W2 ⟨rfl, rfl⟩
        go_wp2_with fail
        refine (KZ.out _).mono ?_
        rintro e W2 ⟨rfl, rfl⟩
        go_wp2_with fail
        refine bodyPost_ret (v := .tuple #[.slice none 0 0, .int .i64 2]) (by simp [results, Tryz.results82, go_sem, *]) rfl ?_
        exact ⟨rfl, hn⟩
      · rw [hx, hz] at h
        exact absurd rfl h

theorem cor_zero {T : TriR} {x z : Int} (h : corE T x z = 0) : okT T = true ∧ colB x = true ∧ colB z = true ∧ (-1 ≤ x ∧ x ≤ 32) ∧ (-1 ≤ z ∧ z ≤ 32) := by
  unfold corE at h
  split at h
  · split at h
    · rename_i h1 h2
      simp only [Bool.and_eq_true] at h2
      have a := h2.1
      have b := h2.2
      unfold colB at a b
      rw [decide_eq_true_eq] at a b
      exact ⟨h1, h2.1, h2.2, a, b⟩
    · omega
  · omega

theorem k_sort_none (p : Option Addr) (cap : Nat) (fv : Value) (w : World) :
    Calls Tryz.prog 104 #[.slice p 0 cap, fv] w fun e w' => e = .returned (.tuple #[]) ∧ w = w' := by
  have h := AnyF.slices_SortFunc_none laysSortF p cap fv w
  change Calls Tryz.prog 104 _ _ _ at h
  exact h.mono fun _ _ ⟨he, hw⟩ => ⟨he, hw.symm⟩

set_option maxHeartbeats 4000000 in
set_option maxRecDepth 100000 in
theorem k_cor (T : TriR) (x z : Int) (w : World) (h : corE T x z = 0) :
    Calls Tryz.prog 82 #[.agg #[.int .i64 T.i, .int .i64 T.x0, .int .i64 T.y0, .int .i64 T.z0, .int .i64 T.x1, .int .i64 T.y1, .int .i64 T.z1, .int .i64 T.x2, .int .i64 T.y2, .int .i64 T.z2], .int .i64 x, .int .i64 z] w (CorP T x z w) := by
  obtain ⟨hk, hcx, hcz, hx, hz⟩ := cor_zero h
  have KC := fun W => k_check T W
  have KX := fun W => k_col x W
  have KZ := fun W => k_col z W
  unfold chkE at KC
  rw [hk] at KC
  rw [hcx] at KX
  rw [hcz] at KZ
  simp only [if_true] at KC
  have KM := Lib.hid (fun W => k_common T hk x z W hx hz)
  have HO := Lib.hid (fun c hc => com_okc hk hx hz (c := c) hc)
  have HF := Lib.hid (cor_few (T := T) (x := x) (z := z))
  have HM := Lib.hid (fun m hp hs => cor_many hk hx hz (m := m) hp hs)
  have hlen := com_len T x z
  replace KC := Lib.hid KC
  replace KX := Lib.hid KX
  replace KZ := Lib.hid KZ
  clear h hk hcx hcz
  go_enter Tryz.func82, Tryz.ntmps82
  go_wp2_with fail
  refine (KC.out _).mono ?_
  rintro e W1 ⟨rfl, n1⟩
  have c0 : W1.cell? ⟨w.heap.size, 0, none⟩ = some (.int .i64 T.i) := n1.keep (by go_simp)
  have c1 : W1.cell? ⟨w.heap.size, 1, none⟩ = some (.int .i64 T.x0) := n1.keep (by go_simp)
  have c2 : W1.cell? ⟨w.heap.size, 2, none⟩ = some (.int .i64 T.y0) := n1.keep (by go_simp)
  have c3 : W1.cell? ⟨w.heap.size, 3, none⟩ = some (.int .i64 T.z0) := n1.keep (by go_simp)
  have c4 : W1.cell? ⟨w.heap.size, 4, none⟩ = some (.int .i64 T.x1) := n1.keep (by go_simp)
  have c5 : W1.cell? ⟨w.heap.size, 5, none⟩ = some (.int .i64 T.y1) := n1.keep (by go_simp)
  have c6 : W1.cell? ⟨w.heap.size, 6, none⟩ = some (.int .i64 T.z1) := n1.keep (by go_simp)
  have c7 : W1.cell? ⟨w.heap.size, 7, none⟩ = some (.int .i64 T.x2) := n1.keep (by go_simp)
  have c8 : W1.cell? ⟨w.heap.size, 8, none⟩ = some (.int .i64 T.y2) := n1.keep (by go_simp)
  have c9 : W1.cell? ⟨w.heap.size, 9, none⟩ = some (.int .i64 T.z2) := n1.keep (by go_simp)
  have hn : New w W1 := New.trans (by (repeat (first | (with_reducible exact New.refl _) | (with_reducible assumption) | ((with_reducible refine New.setB ?_ ?_ _); focus (first | omega | (simp; omega) | (simp; done))) | (with_reducible refine New.alloc ?_ _) | (with_reducible refine New.drew ?_) | (with_reducible refine New.drewN ?_ _) | (with_reducible refine New.hat ?_ _) | ((with_reducible apply New.snart); (with_reducible assumption))))) n1
  clear n1 KC
  go_wp2_with fail
  refine (KX.out _).mono ?_
  rintro e W2 ⟨rfl, rfl⟩
  go_wp2_with fail
  refine (KZ.out _).mono ?_
  rintro e W2 ⟨rfl, rfl⟩
  clear KX KZ
  go_wp2_with fail
  refine (KM.out _).mono ?_
  rintro e W2 ⟨v, rfl, ho, n2⟩
  have hz1 := hn.size
  replace hn := hn.trans n2
  clear n2 KM c0 c1 c2 c3 c4 c5 c6 c7 c8 c9
  have HW := Lib.hid ho
  have HSL := Lib.hid (own_sl Co.enc_len ho)
  rcases ho.2 with ⟨rfl, h0⟩ | ⟨g, cap, cur, rfl, hgb, hh, hc, hm, -, -⟩
  · have HS2 : Hid (Sl Co.enc 4 W2 (.slice none 0 0) (comL T x z)) := by simpa [h0] using HSL
    have HF2 := Lib.hid (HF.out (by omega))
    have hl2 : (comL T x z).length < 2 := by omega
    have HC2 := Lib.hid (k_compact_few (.slice none 0 0) _ W2 HS2.out hl2)
    clear h0 hlen ho hl2 HW HSL HM HF HO
    go_wp2_with fail
    refine (k_sort_none none 0 _ _).mono ?_
    rintro e W3 ⟨rfl, rfl⟩
    go_wp2_with fail
    refine HC2.out.mono ?_
    rintro e W3 ⟨rfl, rfl⟩
    go_wp2_with fail
    refine bodyPost_ret (v := .tuple #[.slice none 0 0, .int .i64 0]) (by simp [results, Tryz.results82, go_sem, *]) rfl ?_
    exact ⟨_, _, rfl, HS2.out, HF2.out, hn⟩
  · by_cases h0 : (comL T x z).length = 0
    · have HF2 := Lib.hid (HF.out (by omega))
      have HC2 := Lib.hid (k_compact_few _ _ W2 HSL.out (by omega))
      rw [h0] at HSL HC2 ⊢
      clear h0 hlen ho HW HM HF HO hh hc hm hgb
      go_wp2_with fail
      refine (k_sort_none _ cap _ _).mono ?_
      rintro e W3 ⟨rfl, rfl⟩
      go_wp2_with fail
      refine HC2.out.mono ?_
      rintro e W3 ⟨rfl, rfl⟩
      go_wp2_with fail
      refine bodyPost_ret (v := .tuple #[.slice (some ⟨g, 0, none⟩) 0 cap, .int .i64 0]) (by simp [results, Tryz.results82, go_sem]) rfl ?_
      exact ⟨_, _, rfl, HSL.out, HF2.out, hn⟩
    · have zg : g < W2.heap.size := by
        rcases Nat.lt_or_ge g W2.heap.size with q | q
        · exact q
        · rw [Array.getElem?_eq_none q] at hh; cases hh
      have KS := Lib.hid (k_sort g cap (comL T x z) HO.out (by omega) W2 (WRow.of_own HW.out) zg)
      obtain ⟨n, hnl⟩ : ∃ n, n = (comL T x z).length := ⟨_, rfl⟩
      rw [← hnl] at KS hc h0 hlen ⊢
      have HNL := Lib.hid hnl
      have zb : w.heap.size ≤ g := by omega
      clear hnl ho HW HSL hh hgb
      unfold maxLen at hm
      go_wp2_with fail
      refine KS.out.mono ?_
      rintro e W3 ⟨rfl, m, hp, hs, hw, hu⟩
      have hml : m.length = n := by rw [HNL.out]; exact hp.length_eq
      have HN3 := Lib.hid (hu w hn zb)
      by_cases h2 : n < 2
      · have HS3 : Hid (Sl Co.enc 4 W3 (.slice (some ⟨g, 0, none⟩) n cap) m) := Lib.hid (by rw [← hml]; exact sl_of_row hw.row (by omega) (by unfold maxLen; omega))
        have HC2 := Lib.hid (k_compact_few _ _ W3 HS3.out (by omega))
        have HI : Hid (IsCor T x z m) := Lib.hid (by
          have e : m = comL T x z := by
            have hl : (comL T x z).length = 1 := by rw [← HNL.out]; omega
            obtain ⟨a, ha⟩ := List.length_eq_one_iff.1 hl
            rw [ha] at hp ⊢
            exact List.perm_singleton.1 hp
          rw [e]; exact HF.out (by rw [← HNL.out]; exact h2))
        clear hml hp hs hw hu HF HO HM KS HNL hn
        go_wp2_with fail
        refine HC2.out.mono ?_
        rintro e W4 ⟨rfl, rfl⟩
        go_wp2_with fail
        refine bodyPost_ret (v := .tuple #[.slice (some ⟨g, 0, none⟩) n cap, .int .i64 0]) (by simp [results, Tryz.results82, go_sem]) rfl ?_
        exact ⟨_, _, rfl, HS3.out, HI.out, HN3.out⟩
      · have KK := k_compact g cap m W3 hw (by omega) (by omega) (by unfold maxLen; omega)
        rw [hml] at KK
        have HI := Lib.hid (HM.out m hp hs)
        have HLN : Hid ((cmpU m n).length ≤ n) := Lib.hid (cmpU_len n)
        rw [hml] at HI
        replace KK := Lib.hid KK
        clear hml hp hs hw hu HF HO HM KS HNL hn
        go_wp2_with fail
        refine KK.out.mono ?_
        rintro e W4 ⟨rfl, hr, hu⟩
        have HR := Lib.hid hr
        have hn4 := hu w HN3.out zb
        have HSL := Lib.hid (sl_of_row HR.out (by have := HLN.out; omega) (by unfold maxLen; omega : cap ≤ maxLen))
        generalize (cmpU m n).length = q at *
        clear hr hu
        go_wp2_with fail
        refine bodyPost_ret (v := .tuple #[.slice (some ⟨g, 0, none⟩) q cap, .int .i64 0]) (by simp [results, Tryz.results82, go_sem]) rfl ?_
        exact ⟨_, _, rfl, HSL.out, HI.out, hn4⟩

end Go.Proofs.YtklopjbpfddgfaaGreat
