import Derived.Test.YtmhghnbgllaihaaGreatDoorSoETP2Z2
set_option linter.unusedVariables false
set_option maxHeartbeats 16000000
set_option maxRecDepth 100000

namespace Go.Proofs.YtmhghnbgllaihaaGreatDoor
open Go.RowKit
def outV (wd dp x y z:Int):Bool:=decide (x<0)||decide (wd<x)||decide (z<0)||decide (dp<z) || !heiB y
def mayTB (wd dp:Int) (X:TriR):Bool := !outV wd dp X.x0 X.y0 X.z0 && !outV wd dp X.x1 X.y1 X.z1 && !outV wd dp X.x2 X.y2 X.z2&&((X.x1 - X.x0)*(X.z2 - X.z0) - (X.z1 - X.z0)*(X.x2 - X.x0) != 0)
theorem mayTB_bad {wd dp:Int} {X:TriR} (h:outV wd dp X.x0 X.y0 X.z0=true∨outV wd dp X.x1 X.y1 X.z1=true∨outV wd dp X.x2 X.y2 X.z2=true):mayTB wd dp X=false:=by
 unfold mayTB
 rcases h with h|h|h <;> simp[h]
theorem outV_in {wd dp x y z:Int} (h1:0≤x) (h2:x≤wd) (h3:0≤z) (h4:z≤dp) (h5:heiB y=true):outV wd dp x y z=false:=by
 unfold outV
 rw[h5,decide_eq_false (by omega),decide_eq_false (by omega),decide_eq_false (by omega),decide_eq_false (by omega)]
 rfl
theorem outV_out {wd dp x y z:Int} (h:x<0∨wd<x∨z<0∨dp<z):outV wd dp x y z=true:=by
 unfold outV
 simp only[Bool.or_eq_true,decide_eq_true_eq]
 omega
theorem outV_hei {wd dp x y z:Int} (h:heiB y=false):outV wd dp x y z=true:=by
 unfold outV
 rw[h]
 simp
def flatI (X:TriR):Int:=(X.x1 - X.x0)*(X.z2 - X.z0) - (X.z1 - X.z0)*(X.x2 - X.x0)
theorem mul_small {a b:Int} (ha : -64≤a∧a≤64) (hb : -64≤b∧b≤64) : -4096≤a*b∧a*b≤4096:=by
 have h1:a.natAbs≤64:=by omega
 have h2:b.natAbs≤64:=by omega
 have h3:(a*b).natAbs≤4096:=by rw[Int.natAbs_mul];exact Nat.mul_le_mul h1 h2
 omega
theorem u_flat (X:TriR) (hx:(0≤X.x0∧X.x0≤32)∧(0≤X.x1∧X.x1≤32)∧(0≤X.x2∧X.x2≤32)) (hz:(0≤X.z0∧X.z0≤32)∧(0≤X.z1∧X.z1≤32)∧(0≤X.z2∧X.z2≤32)) (w:World) :
  Calls Tryz.prog 72 #[.agg #[.int .i64 X.x0,.int .i64 X.y0,.int .i64 X.z0,.int .i64 X.x1,.int .i64 X.y1,.int .i64 X.z1,.int .i64 X.x2,.int .i64 X.y2,.int .i64 X.z2]] w fun e w'=>e=.returned (.int .i64 (flatI X))∧New w w':=by
 have m1:=mul_small (a:=X.x1 - X.x0) (b:=X.z2 - X.z0) (by omega) (by omega)
 have m2:=mul_small (a:=X.z1 - X.z0) (b:=X.x2 - X.x0) (by omega) (by omega)
 unfold flatI
 go_enter Tryz.func72,Tryz.ntmps72
 go_wp2_with fail
 go_ret
 exact⟨rfl,by exact nw⟩
theorem u_mayTri (wd dp:Int) (hw:1≤wd∧wd≤32) (hd:1≤dp∧dp≤32) (X:TriR) (w:World) :
  Calls Tryz.prog 45 #[.int .i64 wd,.int .i64 dp,.agg #[.int .i64 X.i,.int .i64 X.x0,.int .i64 X.y0,.int .i64 X.z0,.int .i64 X.x1,.int .i64 X.y1,.int .i64 X.z1,.int .i64 X.x2,.int .i64 X.y2,.int .i64 X.z2]] w fun e w'=>e=.returned (.bool (mayTB wd dp X))∧New w w':=by
 have K0:=Lib.hid (fun W=>u_height X.y0 W)
 have K1:=Lib.hid (fun W=>u_height X.y1 W)
 have K2:=Lib.hid (fun W=>u_height X.y2 W)
 have KF:=Lib.hid (fun h1 h2 W=>u_flat X h1 h2 W)
 have HB:=Lib.hid (mayTB_bad (wd:=wd) (dp:=dp) (X:=X))
 have HG:Hid (outV wd dp X.x0 X.y0 X.z0=false→outV wd dp X.x1 X.y1 X.z1=false→outV wd dp X.x2 X.y2 X.z2=false→mayTB wd dp X=(flatI X != 0)):=Lib.hid (fun a b c=>by unfold mayTB flatI;rw[a,b,c];simp)
 obtain⟨v,hv⟩:∃ v,v=mayTB wd dp X:=⟨_,rfl⟩
 rw[←hv]at HB HG ⊢
 clear hv
 go_enter Tryz.func45,Tryz.ntmps45
 go_wp2_with fail
 refine Code.at (fun U0 hW=>?_)
 ((have d0:(U0).cell? ⟨w.heap.size,0,none⟩=some (.int .i64 X.i):=(by subst hW;go_simp));(have d1:(U0).cell? ⟨w.heap.size,1,none⟩=some (.int .i64 X.x0):=(by subst hW;go_simp));(have d2:(U0).cell? ⟨w.heap.size,2,none⟩=some (.int .i64 X.y0):=(by subst hW;go_simp));(have d3:(U0).cell? ⟨w.heap.size,3,none⟩=some (.int .i64 X.z0):=(by subst hW;go_simp));(have d4:(U0).cell? ⟨w.heap.size,4,none⟩=some (.int .i64 X.x1):=(by subst hW;go_simp));(have d5:(U0).cell? ⟨w.heap.size,5,none⟩=some (.int .i64 X.y1):=(by subst hW;go_simp));(have d6:(U0).cell? ⟨w.heap.size,6,none⟩=some (.int .i64 X.z1):=(by subst hW;go_simp));(have d7:(U0).cell? ⟨w.heap.size,7,none⟩=some (.int .i64 X.x2):=(by subst hW;go_simp));(have d8:(U0).cell? ⟨w.heap.size,8,none⟩=some (.int .i64 X.y2):=(by subst hW;go_simp));(have d9:(U0).cell? ⟨w.heap.size,9,none⟩=some (.int .i64 X.z2):=(by subst hW;go_simp)))
 have hn:New w U0:=by subst hW;exact nw
 clear hW
 refine wp_loop_rounds 4 ?_
 rw[rounds_succ]
 cases hy0:heiB X.y0
 ·rw[hy0]at K0
  have hb:=Lib.hid (HB.out (.inl (outV_hei hy0)))
  clear HB HG KF K1 K2 hy0
  go_wp2_with fail
  all_goals
   try (refine(K0.out _).mono ?_;rintro e W1 ⟨rfl,n1⟩;replace hn:New w W1:=New.trans (by exact nw) n1;go_wp2_with fail)
   go_ret
   rw[hb.out]
   exact⟨rfl,by exact nw⟩
 rw[hy0]at K0
 replace hy0:=Lib.hid hy0
 go_wp2_with fail
 all_goals first|(go_ret;rw[HB.out (.inl (outV_out (by omega)))];exact⟨rfl,by exact nw⟩)|skip
 have G0:=Lib.hid (outV_in (by assumption:0≤X.x0) (by assumption:X.x0≤wd) (by assumption:0≤X.z0) (by assumption:X.z0≤dp) hy0.out)
 have bx0:Hid (0≤X.x0∧X.x0≤wd):=Lib.hid ⟨by assumption,by assumption⟩
 have bz0:Hid (0≤X.z0∧X.z0≤dp):=Lib.hid ⟨by assumption,by assumption⟩
 clear hy0
 refine Calls.at (fun V hV=>?_)
 have m1:New U0 V:=by subst hV;exact nw
 clear hV
 ((replace d0:=New.keep m1 d0);(replace d1:=New.keep m1 d1);(replace d2:=New.keep m1 d2);(replace d3:=New.keep m1 d3);(replace d4:=New.keep m1 d4);(replace d5:=New.keep m1 d5);(replace d6:=New.keep m1 d6);(replace d7:=New.keep m1 d7);(replace d8:=New.keep m1 d8);(replace d9:=New.keep m1 d9))
 replace hn:=New.trans hn m1
 clear m1
 refine(K0.out _).mono ?_
 rintro e U1 ⟨rfl,n1⟩
 ((replace d0:=New.keep n1 d0);(replace d1:=New.keep n1 d1);(replace d2:=New.keep n1 d2);(replace d3:=New.keep n1 d3);(replace d4:=New.keep n1 d4);(replace d5:=New.keep n1 d5);(replace d6:=New.keep n1 d6);(replace d7:=New.keep n1 d7);(replace d8:=New.keep n1 d8);(replace d9:=New.keep n1 d9))
 replace hn:=hn.trans n1
 clear n1 K0
 go_wp2_with fail
 rw[rounds_succ]
 cases hy1:heiB X.y1
 ·rw[hy1]at K1
  have hb:=Lib.hid (HB.out (.inr <| .inl <| (outV_hei hy1)))
  clear HB HG KF K2 hy1
  go_wp2_with fail
  all_goals
   try (refine(K1.out _).mono ?_;rintro e W1 ⟨rfl,n1⟩;replace hn:New w W1:=New.trans (by exact nw) n1;go_wp2_with fail)
   go_ret
   rw[hb.out]
   exact⟨rfl,by exact nw⟩
 rw[hy1]at K1
 replace hy1:=Lib.hid hy1
 go_wp2_with fail
 all_goals first|(go_ret;rw[HB.out (.inr <| .inl <| (outV_out (by omega)))];exact⟨rfl,by exact nw⟩)|skip
 have G1:=Lib.hid (outV_in (by assumption:0≤X.x1) (by assumption:X.x1≤wd) (by assumption:0≤X.z1) (by assumption:X.z1≤dp) hy1.out)
 have bx1:Hid (0≤X.x1∧X.x1≤wd):=Lib.hid ⟨by assumption,by assumption⟩
 have bz1:Hid (0≤X.z1∧X.z1≤dp):=Lib.hid ⟨by assumption,by assumption⟩
 clear hy1
 refine Calls.at (fun V hV=>?_)
 have m1:New U1 V:=by subst hV;exact nw
 clear hV
 ((replace d0:=New.keep m1 d0);(replace d1:=New.keep m1 d1);(replace d2:=New.keep m1 d2);(replace d3:=New.keep m1 d3);(replace d4:=New.keep m1 d4);(replace d5:=New.keep m1 d5);(replace d6:=New.keep m1 d6);(replace d7:=New.keep m1 d7);(replace d8:=New.keep m1 d8);(replace d9:=New.keep m1 d9))
 replace hn:=New.trans hn m1
 clear m1
 refine(K1.out _).mono ?_
 rintro e U2 ⟨rfl,n1⟩
 ((replace d0:=New.keep n1 d0);(replace d1:=New.keep n1 d1);(replace d2:=New.keep n1 d2);(replace d3:=New.keep n1 d3);(replace d4:=New.keep n1 d4);(replace d5:=New.keep n1 d5);(replace d6:=New.keep n1 d6);(replace d7:=New.keep n1 d7);(replace d8:=New.keep n1 d8);(replace d9:=New.keep n1 d9))
 replace hn:=hn.trans n1
 clear n1 K1
 go_wp2_with fail
 rw[rounds_succ]
 cases hy2:heiB X.y2
 ·rw[hy2]at K2
  have hb:=Lib.hid (HB.out (.inr <| .inr <| (outV_hei hy2)))
  clear HB HG KF hy2
  go_wp2_with fail
  all_goals
   try (refine(K2.out _).mono ?_;rintro e W1 ⟨rfl,n1⟩;replace hn:New w W1:=New.trans (by exact nw) n1;go_wp2_with fail)
   go_ret
   rw[hb.out]
   exact⟨rfl,by exact nw⟩
 rw[hy2]at K2
 replace hy2:=Lib.hid hy2
 go_wp2_with fail
 all_goals first|(go_ret;rw[HB.out (.inr <| .inr <| (outV_out (by omega)))];exact⟨rfl,by exact nw⟩)|skip
 have G2:=Lib.hid (outV_in (by assumption:0≤X.x2) (by assumption:X.x2≤wd) (by assumption:0≤X.z2) (by assumption:X.z2≤dp) hy2.out)
 have bx2:Hid (0≤X.x2∧X.x2≤wd):=Lib.hid ⟨by assumption,by assumption⟩
 have bz2:Hid (0≤X.z2∧X.z2≤dp):=Lib.hid ⟨by assumption,by assumption⟩
 clear hy2
 refine Calls.at (fun V hV=>?_)
 have m1:New U2 V:=by subst hV;exact nw
 clear hV
 ((replace d0:=New.keep m1 d0);(replace d1:=New.keep m1 d1);(replace d2:=New.keep m1 d2);(replace d3:=New.keep m1 d3);(replace d4:=New.keep m1 d4);(replace d5:=New.keep m1 d5);(replace d6:=New.keep m1 d6);(replace d7:=New.keep m1 d7);(replace d8:=New.keep m1 d8);(replace d9:=New.keep m1 d9))
 replace hn:=New.trans hn m1
 clear m1
 refine(K2.out _).mono ?_
 rintro e U3 ⟨rfl,n1⟩
 ((replace d0:=New.keep n1 d0);(replace d1:=New.keep n1 d1);(replace d2:=New.keep n1 d2);(replace d3:=New.keep n1 d3);(replace d4:=New.keep n1 d4);(replace d5:=New.keep n1 d5);(replace d6:=New.keep n1 d6);(replace d7:=New.keep n1 d7);(replace d8:=New.keep n1 d8);(replace d9:=New.keep n1 d9))
 replace hn:=hn.trans n1
 clear n1 K2
 go_wp2_with fail
 rw[rounds_succ]
 go_wp2_with fail
 refine(KF.out ⟨⟨bx0.out.1,by have:=bx0.out.2;omega⟩,⟨bx1.out.1,by have:=bx1.out.2;omega⟩,⟨bx2.out.1,by have:=bx2.out.2;omega⟩⟩ ⟨⟨bz0.out.1,by have:=bz0.out.2;omega⟩,⟨bz1.out.1,by have:=bz1.out.2;omega⟩,⟨bz2.out.1,by have:=bz2.out.2;omega⟩⟩ _).mono ?_
 rintro e U4 ⟨rfl,n1⟩
 replace hn:=hn.trans n1
 clear n1 KF d0 d1 d2 d3 d4 d5 d6 d7 d8 d9
 go_wp2_with fail
 go_ret
 rw[HG.out G0.out G1.out G2.out]
 exact⟨rfl,hn⟩
end Go.Proofs.YtmhghnbgllaihaaGreatDoor
