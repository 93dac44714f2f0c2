import Derived.Test.YtmhghnbgllaihaaGreatDoorTriBP2Z2
set_option linter.unusedVariables false
set_option maxHeartbeats 16000000
set_option maxRecDepth 100000

namespace Go.Proofs.YtmhghnbgllaihaaGreatDoor
open Go.RowKit
theorem st_eq (wd dp x0 y0 z0 x1 y1 z1 x2 y2 z2:Int):stB wd dp x0 y0 z0 x1 y1 z1 x2 y2 z2=(decide (0≤minI x0 x1 x2)&&decide (maxI x0 x1 x2≤wd)&&decide (0≤minI z0 z1 z2)&&decide (maxI z0 z1 z2≤dp)&&decide (-2048≤minI y0 y1 y2)&&decide (maxI y0 y1 y2≤2048)):=by
 rw[Bool.eq_iff_iff,stB_iff]
 unfold StP StV minI maxI
 simp only[Bool.and_eq_true,decide_eq_true_eq]
 omega
theorem t_stands (i x0 y0 z0 x1 y1 z1 x2 y2 z2 wd dp:Int) (w:World) :
  Calls Tryz.prog 118 #[.agg #[.int .i64 i,.int .i64 x0,.int .i64 y0,.int .i64 z0,.int .i64 x1,.int .i64 y1,.int .i64 z1,.int .i64 x2,.int .i64 y2,.int .i64 z2],.int .i64 wd,.int .i64 dp] w fun e w'=>e=.returned (.bool (stB wd dp x0 y0 z0 x1 y1 z1 x2 y2 z2))∧New w w':=by
 have hv:=st_eq wd dp x0 y0 z0 x1 y1 z1 x2 y2 z2
 have hb:=fun W=>t_bounds i x0 y0 z0 x1 y1 z1 x2 y2 z2 W
 rw[hv]
 clear hv
 generalize minI x0 x1 x2=lx at *
 generalize minI y0 y1 y2=ly at *
 generalize minI z0 z1 z2=lz at *
 generalize maxI x0 x1 x2=hx at *
 generalize maxI y0 y1 y2=hy at *
 generalize maxI z0 z1 z2=hz at *
 go_enter Tryz.func118,Tryz.ntmps118
 go_wp2_with fail
 refine(hb _).mono ?_
 rintro e W1 ⟨rfl,n1⟩
 have hn:New w W1:=New.trans (by exact nw) n1
 clear n1 hb
 go_wp2_with fail
 all_goals
  go_ret
  refine⟨retB ?_,by exact nw⟩
  simp[*] <;> omega
theorem kb {a b c d A B:Int} (ha : -A≤a∧a≤A) (hd : -B≤d∧d≤B) (hb : -B≤b∧b≤B) (hc : -A≤c∧c≤A):∃ k,a*d - b*c=k ∧ -(2*(A*B))≤k∧k≤2*(A*B):=by
 have h1:=mul_bd ha hd
 have h2:=mul_bd hb hc
 have h3:B*A=A*B:=Int.mul_comm _ _
 exact⟨_,rfl,by omega,by omega⟩
theorem t_normal_ok (i x0 y0 z0 x1 y1 z1 x2 y2 z2:Int) (w:World) (hs:stB 32 32 x0 y0 z0 x1 y1 z1 x2 y2 z2=true) :
  Calls Tryz.prog 119 #[.agg #[.int .i64 i,.int .i64 x0,.int .i64 y0,.int .i64 z0,.int .i64 x1,.int .i64 y1,.int .i64 z1,.int .i64 x2,.int .i64 y2,.int .i64 z2]] w fun e w'=>e=.returned (.tuple #[.int .i64 (normX x0 y0 z0 x1 y1 z1 x2 y2 z2),.int .i64 (normY x0 y0 z0 x1 y1 z1 x2 y2 z2),.int .i64 (normZ x0 y0 z0 x1 y1 z1 x2 y2 z2),.int .i64 (normE x0 y0 z0 x1 y1 z1 x2 y2 z2)])∧New w w':=by
 have hp:=stB_iff.1 hs
 unfold StP StV at hp
 obtain⟨⟨⟨X0,X0'⟩,⟨Z0,Z0'⟩,⟨Y0,Y0'⟩⟩,⟨⟨X1,X1'⟩,⟨Z1,Z1'⟩,⟨Y1,Y1'⟩⟩,⟨⟨X2,X2'⟩,⟨Z2,Z2'⟩,⟨Y2,Y2'⟩⟩⟩:=hp
 have hst:=fun W=>t_stands i x0 y0 z0 x1 y1 z1 x2 y2 z2 32 32 W
 rw[hs]at hst
 obtain⟨k0,e0,l0,u0⟩:∃ k,y0*z1 - z0*y1=k ∧ -131072≤k∧k≤131072:=by
  have h1:=mul_bd (a:=y0) (b:=z1) (A:=2048) (B:=32) (by omega) (by omega)
  have h2:=mul_bd (a:=z0) (b:=y1) (A:=32) (B:=2048) (by omega) (by omega)
  exact⟨_,rfl,by omega,by omega⟩
 have T0:=fun W=>t_cross y0 z0 y1 z1 W (by omega) (by omega) (by omega) (by omega)
 obtain⟨k1,e1,l1,u1⟩:∃ k,z0*x1 - x0*z1=k ∧ -131072≤k∧k≤131072:=by
  have h1:=mul_bd (a:=z0) (b:=x1) (A:=32) (B:=32) (by omega) (by omega)
  have h2:=mul_bd (a:=x0) (b:=z1) (A:=32) (B:=32) (by omega) (by omega)
  exact⟨_,rfl,by omega,by omega⟩
 have T1:=fun W=>t_cross z0 x0 z1 x1 W (by omega) (by omega) (by omega) (by omega)
 obtain⟨k2,e2,l2,u2⟩:∃ k,x0*y1 - y0*x1=k ∧ -131072≤k∧k≤131072:=by
  have h1:=mul_bd (a:=x0) (b:=y1) (A:=32) (B:=2048) (by omega) (by omega)
  have h2:=mul_bd (a:=y0) (b:=x1) (A:=2048) (B:=32) (by omega) (by omega)
  exact⟨_,rfl,by omega,by omega⟩
 have T2:=fun W=>t_cross x0 y0 x1 y1 W (by omega) (by omega) (by omega) (by omega)
 obtain⟨k3,e3,l3,u3⟩:∃ k,y1*z2 - z1*y2=k ∧ -131072≤k∧k≤131072:=by
  have h1:=mul_bd (a:=y1) (b:=z2) (A:=2048) (B:=32) (by omega) (by omega)
  have h2:=mul_bd (a:=z1) (b:=y2) (A:=32) (B:=2048) (by omega) (by omega)
  exact⟨_,rfl,by omega,by omega⟩
 have T3:=fun W=>t_cross y1 z1 y2 z2 W (by omega) (by omega) (by omega) (by omega)
 obtain⟨k4,e4,l4,u4⟩:∃ k,z1*x2 - x1*z2=k ∧ -131072≤k∧k≤131072:=by
  have h1:=mul_bd (a:=z1) (b:=x2) (A:=32) (B:=32) (by omega) (by omega)
  have h2:=mul_bd (a:=x1) (b:=z2) (A:=32) (B:=32) (by omega) (by omega)
  exact⟨_,rfl,by omega,by omega⟩
 have T4:=fun W=>t_cross z1 x1 z2 x2 W (by omega) (by omega) (by omega) (by omega)
 obtain⟨k5,e5,l5,u5⟩:∃ k,x1*y2 - y1*x2=k ∧ -131072≤k∧k≤131072:=by
  have h1:=mul_bd (a:=x1) (b:=y2) (A:=32) (B:=2048) (by omega) (by omega)
  have h2:=mul_bd (a:=y1) (b:=x2) (A:=2048) (B:=32) (by omega) (by omega)
  exact⟨_,rfl,by omega,by omega⟩
 have T5:=fun W=>t_cross x1 y1 x2 y2 W (by omega) (by omega) (by omega) (by omega)
 obtain⟨k6,e6,l6,u6⟩:∃ k,y2*z0 - z2*y0=k ∧ -131072≤k∧k≤131072:=by
  have h1:=mul_bd (a:=y2) (b:=z0) (A:=2048) (B:=32) (by omega) (by omega)
  have h2:=mul_bd (a:=z2) (b:=y0) (A:=32) (B:=2048) (by omega) (by omega)
  exact⟨_,rfl,by omega,by omega⟩
 have T6:=fun W=>t_cross y2 z2 y0 z0 W (by omega) (by omega) (by omega) (by omega)
 obtain⟨k7,e7,l7,u7⟩:∃ k,z2*x0 - x2*z0=k ∧ -131072≤k∧k≤131072:=by
  have h1:=mul_bd (a:=z2) (b:=x0) (A:=32) (B:=32) (by omega) (by omega)
  have h2:=mul_bd (a:=x2) (b:=z0) (A:=32) (B:=32) (by omega) (by omega)
  exact⟨_,rfl,by omega,by omega⟩
 have T7:=fun W=>t_cross z2 x2 z0 x0 W (by omega) (by omega) (by omega) (by omega)
 obtain⟨k8,e8,l8,u8⟩:∃ k,x2*y0 - y2*x0=k ∧ -131072≤k∧k≤131072:=by
  have h1:=mul_bd (a:=x2) (b:=y0) (A:=32) (B:=2048) (by omega) (by omega)
  have h2:=mul_bd (a:=y2) (b:=x0) (A:=2048) (B:=32) (by omega) (by omega)
  exact⟨_,rfl,by omega,by omega⟩
 have T8:=fun W=>t_cross x2 y2 x0 y0 W (by omega) (by omega) (by omega) (by omega)
 have sx:k0+k3+k6=nxI x0 y0 z0 x1 y1 z1 x2 y2 z2:=by rw[←nx_sum,←e0,←e3,←e6]
 have sy:k1+k4+k7=nyI x0 y0 z0 x1 y1 z1 x2 y2 z2:=by rw[←ny_sum,←e1,←e4,←e7]
 have sz:k2+k5+k8=nzI x0 y0 z0 x1 y1 z1 x2 y2 z2:=by rw[←nz_sum,←e2,←e5,←e8]
 obtain⟨ey,hey⟩:∃ b,b=(nyI x0 y0 z0 x1 y1 z1 x2 y2 z2==0):=⟨_,rfl⟩
 have hN:(normX x0 y0 z0 x1 y1 z1 x2 y2 z2=if ey then 0 else k0+k3+k6)∧(normY x0 y0 z0 x1 y1 z1 x2 y2 z2=if ey then 0 else k1+k4+k7)∧(normZ x0 y0 z0 x1 y1 z1 x2 y2 z2=if ey then 0 else k2+k5+k8)∧(normE x0 y0 z0 x1 y1 z1 x2 y2 z2=if ey then 40 else 0):=by
  unfold normX normY normZ normE okB
  rw[hs,sx,sy,sz,hey]
  cases hq:(nyI x0 y0 z0 x1 y1 z1 x2 y2 z2==0) <;> simp_all
 have HN:=Lib.hid hN
 have hey':(k1+k4+k7==0)=ey:=by rw[hey,sy]
 clear hN sx sy sz hey hs
 rw[e0]at T0
 rw[e1]at T1
 rw[e2]at T2
 rw[e3]at T3
 rw[e4]at T4
 rw[e5]at T5
 rw[e6]at T6
 rw[e7]at T7
 rw[e8]at T8
 clear e0 e1 e2 e3 e4 e5 e6 e7 e8 X0 X0' Z0 Z0' Y0 Y0' X1 X1' Z1 Z1' Y1 Y1' X2 X2' Z2 Z2' Y2 Y2'
 replace T0:=Lib.hid T0
 replace T1:=Lib.hid T1
 replace T2:=Lib.hid T2
 replace T3:=Lib.hid T3
 replace T4:=Lib.hid T4
 replace T5:=Lib.hid T5
 replace T6:=Lib.hid T6
 replace T7:=Lib.hid T7
 replace T8:=Lib.hid T8
 go_enter Tryz.func119,Tryz.ntmps119
 go_wp2_with fail
 refine(hst _).mono ?_
 rintro e W0 ⟨rfl,n1⟩
 have c1:W0.cell? ⟨w.heap.size,1,none⟩=some (.int .i64 x0):=n1.keep (by go_simp)
 have c2:W0.cell? ⟨w.heap.size,2,none⟩=some (.int .i64 y0):=n1.keep (by go_simp)
 have c3:W0.cell? ⟨w.heap.size,3,none⟩=some (.int .i64 z0):=n1.keep (by go_simp)
 have c4:W0.cell? ⟨w.heap.size,4,none⟩=some (.int .i64 x1):=n1.keep (by go_simp)
 have c5:W0.cell? ⟨w.heap.size,5,none⟩=some (.int .i64 y1):=n1.keep (by go_simp)
 have c6:W0.cell? ⟨w.heap.size,6,none⟩=some (.int .i64 z1):=n1.keep (by go_simp)
 have c7:W0.cell? ⟨w.heap.size,7,none⟩=some (.int .i64 x2):=n1.keep (by go_simp)
 have c8:W0.cell? ⟨w.heap.size,8,none⟩=some (.int .i64 y2):=n1.keep (by go_simp)
 have c9:W0.cell? ⟨w.heap.size,9,none⟩=some (.int .i64 z2):=n1.keep (by go_simp)
 have hn:New w W0:=New.trans (by exact nw) n1
 have zz:=World.block_lt_of_cell? _ _ c1
 simp only[]at zz
 clear n1 hst
 go_wp2_with fail
 refine wp_loop_rounds 4 ?_
 rw[rounds_succ]
 go_upto_region 6 with fail
 go_cut [7,8] (fun s7 s8 Z=>∃ b b':Nat,s7=.pointer (some ⟨b,0,none⟩)∧s8=.pointer (some ⟨b',0,none⟩)∧New W0 Z∧Z.cell? ⟨b,0,none⟩=some (.int .i64 x0)∧Z.cell? ⟨b,1,none⟩=some (.int .i64 y0)∧Z.cell? ⟨b,2,none⟩=some (.int .i64 z0) ∧
   Z.cell? ⟨b',0,none⟩=some (.int .i64 x1)∧Z.cell? ⟨b',1,none⟩=some (.int .i64 y1)∧Z.cell? ⟨b',2,none⟩=some (.int .i64 z1))
 case first =>
  go_region
  all_goals
   go_wp2_with fail
   go_meet
   exact⟨_,_,rfl,rfl,by exact nw,by go_simp,by go_simp,by go_simp,by go_simp,by go_simp,by go_simp⟩
 case rest =>
  obtain⟨b0,g0,rfl,rfl,nZ,p0,p1,p2,q0,q1,q2⟩:=hcut
  replace c1:=nZ.keep c1
  replace c2:=nZ.keep c2
  replace c3:=nZ.keep c3
  replace c4:=nZ.keep c4
  replace c5:=nZ.keep c5
  replace c6:=nZ.keep c6
  replace c7:=nZ.keep c7
  replace c8:=nZ.keep c8
  replace c9:=nZ.keep c9
  replace zz:=World.block_lt_of_cell? _ _ c1
  simp only[]at zz
  replace hn:=hn.trans nZ
  clear nZ
  rename World=>W1
  go_wp2_with fail
  refine(T0.out _).mono ?_
  rintro e w' ⟨rfl,rfl⟩
  go_wp2_with fail
  refine(T1.out _).mono ?_
  rintro e w' ⟨rfl,rfl⟩
  go_wp2_with fail
  refine(T2.out _).mono ?_
  rintro e w' ⟨rfl,rfl⟩
  clear p0 p1 p2 q0 q1 q2
  go_wp2_with fail
  rw[rounds_succ]
  go_upto_region 6 with fail
  go_cut [7,8] (fun s7 s8 Z=>∃ b b':Nat,s7=.pointer (some ⟨b,0,none⟩)∧s8=.pointer (some ⟨b',0,none⟩)∧New W1 Z∧Z.cell? ⟨b,0,none⟩=some (.int .i64 x1)∧Z.cell? ⟨b,1,none⟩=some (.int .i64 y1)∧Z.cell? ⟨b,2,none⟩=some (.int .i64 z1) ∧
    Z.cell? ⟨b',0,none⟩=some (.int .i64 x2)∧Z.cell? ⟨b',1,none⟩=some (.int .i64 y2)∧Z.cell? ⟨b',2,none⟩=some (.int .i64 z2))
  case first =>
   go_region
   all_goals
    go_wp2_with fail
    go_meet
    exact⟨_,_,rfl,rfl,by exact nw,by go_simp,by go_simp,by go_simp,by go_simp,by go_simp,by go_simp⟩
  case rest =>
   obtain⟨b1,g1,rfl,rfl,nZ,p0,p1,p2,q0,q1,q2⟩:=hcut
   replace c1:=nZ.keep c1
   replace c2:=nZ.keep c2
   replace c3:=nZ.keep c3
   replace c4:=nZ.keep c4
   replace c5:=nZ.keep c5
   replace c6:=nZ.keep c6
   replace c7:=nZ.keep c7
   replace c8:=nZ.keep c8
   replace c9:=nZ.keep c9
   replace zz:=World.block_lt_of_cell? _ _ c1
   simp only[]at zz
   replace hn:=hn.trans nZ
   clear nZ
   rename World=>W2
   go_wp2_with fail
   refine(T3.out _).mono ?_
   rintro e w' ⟨rfl,rfl⟩
   go_wp2_with fail
   refine(T4.out _).mono ?_
   rintro e w' ⟨rfl,rfl⟩
   go_wp2_with fail
   refine(T5.out _).mono ?_
   rintro e w' ⟨rfl,rfl⟩
   clear p0 p1 p2 q0 q1 q2
   go_wp2_with fail
   rw[rounds_succ]
   go_upto_region 6 with fail
   go_cut [7,8] (fun s7 s8 Z=>∃ b b':Nat,s7=.pointer (some ⟨b,0,none⟩)∧s8=.pointer (some ⟨b',0,none⟩)∧New W2 Z∧Z.cell? ⟨b,0,none⟩=some (.int .i64 x2)∧Z.cell? ⟨b,1,none⟩=some (.int .i64 y2)∧Z.cell? ⟨b,2,none⟩=some (.int .i64 z2) ∧
     Z.cell? ⟨b',0,none⟩=some (.int .i64 x0)∧Z.cell? ⟨b',1,none⟩=some (.int .i64 y0)∧Z.cell? ⟨b',2,none⟩=some (.int .i64 z0))
   case first =>
    go_region
    all_goals
     go_wp2_with fail
     go_meet
     exact⟨_,_,rfl,rfl,by exact nw,by go_simp,by go_simp,by go_simp,by go_simp,by go_simp,by go_simp⟩
   case rest =>
    obtain⟨b2,g2,rfl,rfl,nZ,p0,p1,p2,q0,q1,q2⟩:=hcut
    clear c1 c2 c3 c4 c5 c6 c7 c8 c9
    replace hn:=hn.trans nZ
    clear nZ
    rename World=>W3
    go_wp2_with fail
    refine(T6.out _).mono ?_
    rintro e w' ⟨rfl,rfl⟩
    go_wp2_with fail
    refine(T7.out _).mono ?_
    rintro e w' ⟨rfl,rfl⟩
    go_wp2_with fail
    refine(T8.out _).mono ?_
    rintro e w' ⟨rfl,rfl⟩
    clear p0 p1 p2 q0 q1 q2
    go_wp2_with fail
    rw[rounds_succ]
    cases ey
    ·go_wp2_with fail
     refine bodyPost_ret (v:=.tuple #[.int .i64 (k0+k3+k6),.int .i64 (k1+k4+k7),.int .i64 (k2+k5+k8),.int .i64 0]) (by simp[results,Tryz.results119,go_sem]) rfl ?_
     obtain⟨h1,h2,h3,h4⟩:=HN.out
     rw[h1,h2,h3,h4]
     exact⟨rfl,hn⟩
    ·go_wp2_with fail
     refine bodyPost_ret (v:=.tuple #[.int .i64 0,.int .i64 0,.int .i64 0,.int .i64 40]) (by simp[results,Tryz.results119,go_sem]) rfl ?_
     obtain⟨h1,h2,h3,h4⟩:=HN.out
     rw[h1,h2,h3,h4]
     exact⟨rfl,hn⟩
end Go.Proofs.YtmhghnbgllaihaaGreatDoor
