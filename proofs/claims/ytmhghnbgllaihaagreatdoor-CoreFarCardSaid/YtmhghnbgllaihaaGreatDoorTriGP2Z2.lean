import Derived.Test.YtmhghnbgllaihaaGreatDoorTriCP2Z2
import Derived.Test.YtmhghnbgllaihaaGreatDoorWholeIP2Z2
import Derived.Test.YtmhghnbgllaihaaGreatDoorTriFP2Z2
set_option linter.unusedVariables false
set_option maxHeartbeats 16000000
set_option maxRecDepth 100000

namespace Go.Proofs.YtmhghnbgllaihaaGreatDoor
open Go.RowKit
theorem t_normal (i x0 y0 z0 x1 y1 z1 x2 y2 z2:Int) (w:World) :
  Calls Tryz.prog 119 #[.agg #[.int .i64 i,.int .i64 x0,.int .i64 y0,.int .i64 z0,.int .i64 x1,.int .i64 y1,.int .i64 z1,.int .i64 x2,.int .i64 y2,.int .i64 z2]] w fun e w'=>e=.returned (.tuple #[.int .i64 (normX x0 y0 z0 x1 y1 z1 x2 y2 z2),.int .i64 (normY x0 y0 z0 x1 y1 z1 x2 y2 z2),.int .i64 (normZ x0 y0 z0 x1 y1 z1 x2 y2 z2),.int .i64 (normE x0 y0 z0 x1 y1 z1 x2 y2 z2)])∧New w w':=by
 cases hs:stB 32 32 x0 y0 z0 x1 y1 z1 x2 y2 z2
 ·have hk:okB x0 y0 z0 x1 y1 z1 x2 y2 z2=false:=by unfold okB;rw[hs];rfl
  obtain⟨h1,h2,h3,h4⟩:=norm_no hk
  rw[h1,h2,h3,h4]
  have hst:=fun W=>t_stands i x0 y0 z0 x1 y1 z1 x2 y2 z2 32 32 W
  rw[hs]at hst
  clear h1 h2 h3 h4 hk hs
  go_enter Tryz.func119,Tryz.ntmps119
  go_wp2_with fail
  refine(hst _).mono ?_
  rintro e W0 ⟨rfl,n1⟩
  have hn:New w W0:=New.trans (by exact nw) n1
  clear n1 hst
  go_wp2_with fail
  refine bodyPost_ret (v:=.tuple #[.int .i64 0,.int .i64 0,.int .i64 0,.int .i64 40]) (by simp[results,Tryz.results119,go_sem]) rfl ?_
  exact⟨rfl,hn⟩
 ·exact t_normal_ok i _ _ _ _ _ _ _ _ _ w hs
def tCheckE (cl cb ht ri ru wd dp i x0 y0 z0 x1 y1 z1 x2 y2 z2:Int):Int:=if checkE cl cb ht ri ru wd dp≠0 then 20 else if (1≤i∧i≤1073741824)∧stB wd dp x0 y0 z0 x1 y1 z1 x2 y2 z2=true∧okB x0 y0 z0 x1 y1 z1 x2 y2 z2=true then 0 else 40
theorem checkE_two (cl cb ht ri ru wd dp:Int):checkE cl cb ht ri ru wd dp=0∨checkE cl cb ht ri ru wd dp=20:=by unfold checkE;split <;> simp
theorem t_check (cl cb ht ri ru wd dp i x0 y0 z0 x1 y1 z1 x2 y2 z2:Int) (w:World) :
  Calls Tryz.prog 80 #[.agg #[.int .i64 cl,.int .i64 cb,.int .i64 ht,.int .i64 ri,.int .i64 ru,.int .i64 wd,.int .i64 dp],.agg #[.int .i64 i,.int .i64 x0,.int .i64 y0,.int .i64 z0,.int .i64 x1,.int .i64 y1,.int .i64 z1,.int .i64 x2,.int .i64 y2,.int .i64 z2]] w fun e w'=>e=.returned (.int .i64 (tCheckE cl cb ht ri ru wd dp i x0 y0 z0 x1 y1 z1 x2 y2 z2))∧New w w':=by
 obtain⟨v,hv⟩:∃ v,v=tCheckE cl cb ht ri ru wd dp i x0 y0 z0 x1 y1 z1 x2 y2 z2:=⟨_,rfl⟩
 rw[←hv]
 unfold tCheckE at hv
 have hcc:=fun W=>check_any cl cb ht ri ru wd dp W
 have htwo:=checkE_two cl cb ht ri ru wd dp
 generalize checkE cl cb ht ri ru wd dp=ce at *
 rcases htwo with rfl|rfl
 rotate_left
 ·have hv1:Hid (v=20):=by show v=20;rw[hv];simp
  clear hv
  go_enter Tryz.func80,Tryz.ntmps80
  go_wp2_with fail
  refine(hcc _).mono ?_
  rintro e W0 ⟨rfl,n1,-⟩
  have hn:New w W0:=New.trans (by exact nw) n1
  clear n1 hcc
  go_wp2_with fail
  go_ret
  rw[hv1.out]
  exact⟨rfl,hn⟩
 have hst:=fun W=>t_stands i x0 y0 z0 x1 y1 z1 x2 y2 z2 wd dp W
 by_cases hi:1≤i∧i≤1073741824
 rotate_left
 ·have hv1:Hid (v=40):=by show v=40;rw[hv];simp[hi]
  have hid:decide (1≤i∧i≤1073741824)=false:=by simpa using hi
  clear hv hi
  have hwi:=fun W=>t_within i 1 1073741824 W
  rw[hid]at hwi
  go_enter Tryz.func80,Tryz.ntmps80
  go_wp2_with fail
  refine(hcc _).mono ?_
  rintro e W0 ⟨rfl,n1,-⟩
  have d0:W0.cell? ⟨w.heap.size+1,0,none⟩=some (.int .i64 i):=New.keep n1 (by go_simp)
  have hn:New w W0:=New.trans (by exact nw) n1
  clear n1 hcc
  go_wp2_with fail
  refine(hwi _).mono ?_
  rintro e w' ⟨rfl,rfl⟩
  go_wp2_with fail
  go_ret
  rw[hv1.out]
  exact⟨rfl,hn⟩
 have hid:decide (1≤i∧i≤1073741824)=true:=by simpa using hi
 have hwi:=fun W=>t_within i 1 1073741824 W
 rw[hid]at hwi
 cases hs:stB wd dp x0 y0 z0 x1 y1 z1 x2 y2 z2
 ·have hv1:Hid (v=40):=by show v=40;rw[hv,hs];simp
  rw[hs]at hst
  clear hv hi
  go_enter Tryz.func80,Tryz.ntmps80
  go_wp2_with fail
  generalize hW:World.alloc _ _=W
  (have c0:(W).cell? ⟨w.heap.size+1,0,none⟩=some (.int .i64 i):=(by subst hW;go_simp));(have c1:(W).cell? ⟨w.heap.size+1,1,none⟩=some (.int .i64 x0):=(by subst hW;go_simp));(have c2:(W).cell? ⟨w.heap.size+1,2,none⟩=some (.int .i64 y0):=(by subst hW;go_simp));(have c3:(W).cell? ⟨w.heap.size+1,3,none⟩=some (.int .i64 z0):=(by subst hW;go_simp));(have c4:(W).cell? ⟨w.heap.size+1,4,none⟩=some (.int .i64 x1):=(by subst hW;go_simp));(have c5:(W).cell? ⟨w.heap.size+1,5,none⟩=some (.int .i64 y1):=(by subst hW;go_simp));(have c6:(W).cell? ⟨w.heap.size+1,6,none⟩=some (.int .i64 z1):=(by subst hW;go_simp));(have c7:(W).cell? ⟨w.heap.size+1,7,none⟩=some (.int .i64 x2):=(by subst hW;go_simp));(have c8:(W).cell? ⟨w.heap.size+1,8,none⟩=some (.int .i64 y2):=(by subst hW;go_simp));(have c9:(W).cell? ⟨w.heap.size+1,9,none⟩=some (.int .i64 z2):=(by subst hW;go_simp))
  have b5:W.cell? ⟨w.heap.size,5,none⟩=some (.int .i64 wd):=by subst hW;go_simp
  have b6:W.cell? ⟨w.heap.size,6,none⟩=some (.int .i64 dp):=by subst hW;go_simp
  have hn:New w W:=by subst hW;exact nw
  clear hW
  refine(hcc _).mono ?_
  rintro e W0 ⟨rfl,n1,-⟩
  ((replace c0:=New.keep n1 c0);(replace c1:=New.keep n1 c1);(replace c2:=New.keep n1 c2);(replace c3:=New.keep n1 c3);(replace c4:=New.keep n1 c4);(replace c5:=New.keep n1 c5);(replace c6:=New.keep n1 c6);(replace c7:=New.keep n1 c7);(replace c8:=New.keep n1 c8);(replace c9:=New.keep n1 c9))
  replace b5:=New.keep n1 b5
  replace b6:=New.keep n1 b6
  replace hn:New w W0:=New.trans hn n1
  clear n1 hcc
  go_wp2_with fail
  refine(hwi _).mono ?_
  rintro e w' ⟨rfl,rfl⟩
  go_wp2_with fail
  refine(hst _).mono ?_
  rintro e W1 ⟨rfl,n1⟩
  replace hn:New w W1:=New.trans hn n1
  clear n1
  go_wp2_with fail
  go_ret
  rw[hv1.out]
  exact⟨rfl,hn⟩
 ·have hv1:Hid (v=normE x0 y0 z0 x1 y1 z1 x2 y2 z2):=by
   show v=_
   rw[hv,hs]
   unfold normE
   cases okB x0 y0 z0 x1 y1 z1 x2 y2 z2 <;> simp[hi]
  rw[hs]at hst
  clear hv hi
  have hno:=fun W=>t_normal i x0 y0 z0 x1 y1 z1 x2 y2 z2 W
  go_enter Tryz.func80,Tryz.ntmps80
  go_wp2_with fail
  generalize hW:World.alloc _ _=W
  (have c0:(W).cell? ⟨w.heap.size+1,0,none⟩=some (.int .i64 i):=(by subst hW;go_simp));(have c1:(W).cell? ⟨w.heap.size+1,1,none⟩=some (.int .i64 x0):=(by subst hW;go_simp));(have c2:(W).cell? ⟨w.heap.size+1,2,none⟩=some (.int .i64 y0):=(by subst hW;go_simp));(have c3:(W).cell? ⟨w.heap.size+1,3,none⟩=some (.int .i64 z0):=(by subst hW;go_simp));(have c4:(W).cell? ⟨w.heap.size+1,4,none⟩=some (.int .i64 x1):=(by subst hW;go_simp));(have c5:(W).cell? ⟨w.heap.size+1,5,none⟩=some (.int .i64 y1):=(by subst hW;go_simp));(have c6:(W).cell? ⟨w.heap.size+1,6,none⟩=some (.int .i64 z1):=(by subst hW;go_simp));(have c7:(W).cell? ⟨w.heap.size+1,7,none⟩=some (.int .i64 x2):=(by subst hW;go_simp));(have c8:(W).cell? ⟨w.heap.size+1,8,none⟩=some (.int .i64 y2):=(by subst hW;go_simp));(have c9:(W).cell? ⟨w.heap.size+1,9,none⟩=some (.int .i64 z2):=(by subst hW;go_simp))
  have b5:W.cell? ⟨w.heap.size,5,none⟩=some (.int .i64 wd):=by subst hW;go_simp
  have b6:W.cell? ⟨w.heap.size,6,none⟩=some (.int .i64 dp):=by subst hW;go_simp
  have hn:New w W:=by subst hW;exact nw
  clear hW
  refine(hcc _).mono ?_
  rintro e W0 ⟨rfl,n1,-⟩
  ((replace c0:=New.keep n1 c0);(replace c1:=New.keep n1 c1);(replace c2:=New.keep n1 c2);(replace c3:=New.keep n1 c3);(replace c4:=New.keep n1 c4);(replace c5:=New.keep n1 c5);(replace c6:=New.keep n1 c6);(replace c7:=New.keep n1 c7);(replace c8:=New.keep n1 c8);(replace c9:=New.keep n1 c9))
  replace b5:=New.keep n1 b5
  replace b6:=New.keep n1 b6
  replace hn:New w W0:=New.trans hn n1
  clear n1 hcc
  go_wp2_with fail
  refine(hwi _).mono ?_
  rintro e w' ⟨rfl,rfl⟩
  go_wp2_with fail
  refine(hst _).mono ?_
  rintro e W1 ⟨rfl,n1⟩
  ((replace c0:=New.keep n1 c0);(replace c1:=New.keep n1 c1);(replace c2:=New.keep n1 c2);(replace c3:=New.keep n1 c3);(replace c4:=New.keep n1 c4);(replace c5:=New.keep n1 c5);(replace c6:=New.keep n1 c6);(replace c7:=New.keep n1 c7);(replace c8:=New.keep n1 c8);(replace c9:=New.keep n1 c9))
  replace hn:New w W1:=New.trans hn n1
  clear n1
  go_wp2_with fail
  refine(hno _).mono ?_
  rintro e W2 ⟨rfl,n1⟩
  replace hn:New w W2:=New.trans hn n1
  clear n1
  go_wp2_with fail
  go_ret
  rw[hv1.out]
  exact⟨rfl,hn⟩
def slopeB (ri ru nx ny nz:Int):Bool:=decide ((nx*nx+nz*nz)*ru*ru≤ny*ny*ri*ri)
def walkE (cl cb ht ri ru wd dp x0 y0 z0 x1 y1 z1 x2 y2 z2:Int):Int:=if checkE cl cb ht ri ru wd dp≠0 then 20 else normE x0 y0 z0 x1 y1 z1 x2 y2 z2
def walkB (cl cb ht ri ru wd dp x0 y0 z0 x1 y1 z1 x2 y2 z2:Int):Bool:=decide (checkE cl cb ht ri ru wd dp=0)&&okB x0 y0 z0 x1 y1 z1 x2 y2 z2&&slopeB ri ru (nxI x0 y0 z0 x1 y1 z1 x2 y2 z2) (nyI x0 y0 z0 x1 y1 z1 x2 y2 z2) (nzI x0 y0 z0 x1 y1 z1 x2 y2 z2)
theorem checkE_ok {cl cb ht ri ru wd dp:Int} (h:checkE cl cb ht ri ru wd dp=0):(0≤ri∧ri≤100)∧(1≤ru∧ru≤100)∧(1≤wd∧wd≤32)∧(1≤dp∧dp≤32):=by
 unfold checkE at h
 split at h
 ·rename_i hb
  simp only[checkB,Bool.and_eq_true,decide_eq_true_eq]at hb
  omega
 ·omega
theorem sq_in {a A:Int} (h : -A≤a∧a≤A):0≤a*a∧a*a≤A*A:=by
 have h1:=mul_bd h h
 refine⟨?_,h1.2⟩
 rcases Int.le_total 0 a with k|k
 ·exact Int.mul_nonneg k k
 ·exact Int.mul_nonneg_of_nonpos_of_nonpos k k
theorem pos_mul {a b A B:Int} (ha:0≤a∧a≤A) (hb:0≤b∧b≤B):0≤a*b∧a*b≤A*B:=by
 refine⟨Int.mul_nonneg ha.1 hb.1,?_⟩
 exact Int.mul_le_mul ha.2 hb.2 hb.1 (by omega)
theorem t_walk (cl cb ht ri ru wd dp i x0 y0 z0 x1 y1 z1 x2 y2 z2:Int) (w:World) :
  Calls Tryz.prog 193 #[.agg #[.int .i64 cl,.int .i64 cb,.int .i64 ht,.int .i64 ri,.int .i64 ru,.int .i64 wd,.int .i64 dp],.agg #[.int .i64 i,.int .i64 x0,.int .i64 y0,.int .i64 z0,.int .i64 x1,.int .i64 y1,.int .i64 z1,.int .i64 x2,.int .i64 y2,.int .i64 z2]] w fun e w'=>e=.returned (.tuple #[.bool (walkB cl cb ht ri ru wd dp x0 y0 z0 x1 y1 z1 x2 y2 z2),.int .i64 (walkE cl cb ht ri ru wd dp x0 y0 z0 x1 y1 z1 x2 y2 z2)])∧New w w':=by
 obtain⟨v,hv⟩:∃ v,v=walkE cl cb ht ri ru wd dp x0 y0 z0 x1 y1 z1 x2 y2 z2:=⟨_,rfl⟩
 obtain⟨b,hb⟩:∃ b,b=walkB cl cb ht ri ru wd dp x0 y0 z0 x1 y1 z1 x2 y2 z2:=⟨_,rfl⟩
 rw[←hv,←hb]
 unfold walkE at hv
 unfold walkB at hb
 have hcc:=fun W=>check_any cl cb ht ri ru wd dp W
 have htwo:=checkE_two cl cb ht ri ru wd dp
 have hok:=checkE_ok (cl:=cl) (cb:=cb) (ht:=ht) (ri:=ri) (ru:=ru) (wd:=wd) (dp:=dp)
 generalize checkE cl cb ht ri ru wd dp=ce at *
 rcases htwo with rfl|rfl
 rotate_left
 ·have hv1:Hid (v=20∧b=false):=by show v=20∧b=false;rw[hv,hb];simp
  clear hv hb hok
  go_enter Tryz.func193,Tryz.ntmps193
  go_wp2_with fail
  refine(hcc _).mono ?_
  rintro e W0 ⟨rfl,n1,-⟩
  have hn:New w W0:=New.trans (by exact nw) n1
  clear n1 hcc
  go_wp2_with fail
  refine bodyPost_ret (v:=.tuple #[.bool false,.int .i64 20]) (by simp[results,Tryz.results193,go_sem]) rfl ?_
  rw[hv1.out.1,hv1.out.2]
  exact⟨rfl,hn⟩
 have hno:=fun W=>t_normal i x0 y0 z0 x1 y1 z1 x2 y2 z2 W
 obtain⟨hri,hru,-,-⟩:=hok rfl
 clear hok
 cases hk:okB x0 y0 z0 x1 y1 z1 x2 y2 z2
 ·obtain⟨h1,h2,h3,h4⟩:=norm_no hk
  rw[h1,h2,h3,h4]at hno
  have hv1:Hid (v=40∧b=false):=by show v=40∧b=false;rw[hv,hb,h4,hk];simp
  clear hv hb hri hru h1 h2 h3 h4 hk
  go_enter Tryz.func193,Tryz.ntmps193
  go_wp2_with fail
  generalize hW:World.alloc _ _=W
  (have c0:(W).cell? ⟨w.heap.size+1,0,none⟩=some (.int .i64 i):=(by subst hW;go_simp));(have c1:(W).cell? ⟨w.heap.size+1,1,none⟩=some (.int .i64 x0):=(by subst hW;go_simp));(have c2:(W).cell? ⟨w.heap.size+1,2,none⟩=some (.int .i64 y0):=(by subst hW;go_simp));(have c3:(W).cell? ⟨w.heap.size+1,3,none⟩=some (.int .i64 z0):=(by subst hW;go_simp));(have c4:(W).cell? ⟨w.heap.size+1,4,none⟩=some (.int .i64 x1):=(by subst hW;go_simp));(have c5:(W).cell? ⟨w.heap.size+1,5,none⟩=some (.int .i64 y1):=(by subst hW;go_simp));(have c6:(W).cell? ⟨w.heap.size+1,6,none⟩=some (.int .i64 z1):=(by subst hW;go_simp));(have c7:(W).cell? ⟨w.heap.size+1,7,none⟩=some (.int .i64 x2):=(by subst hW;go_simp));(have c8:(W).cell? ⟨w.heap.size+1,8,none⟩=some (.int .i64 y2):=(by subst hW;go_simp));(have c9:(W).cell? ⟨w.heap.size+1,9,none⟩=some (.int .i64 z2):=(by subst hW;go_simp))
  have hn:New w W:=by subst hW;exact nw
  clear hW
  refine(hcc _).mono ?_
  rintro e W0 ⟨rfl,n1,-⟩
  ((replace c0:=New.keep n1 c0);(replace c1:=New.keep n1 c1);(replace c2:=New.keep n1 c2);(replace c3:=New.keep n1 c3);(replace c4:=New.keep n1 c4);(replace c5:=New.keep n1 c5);(replace c6:=New.keep n1 c6);(replace c7:=New.keep n1 c7);(replace c8:=New.keep n1 c8);(replace c9:=New.keep n1 c9))
  replace hn:New w W0:=New.trans hn n1
  clear n1 hcc
  go_wp2_with fail
  refine(hno _).mono ?_
  rintro e W1 ⟨rfl,n1⟩
  replace hn:New w W1:=New.trans hn n1
  clear n1 hno
  go_wp2_with fail
  refine bodyPost_ret (v:=.tuple #[.bool false,.int .i64 40]) (by simp[results,Tryz.results193,go_sem]) rfl ?_
  rw[hv1.out.1,hv1.out.2]
  exact⟨rfl,hn⟩
 ·obtain⟨h1,h2,h3,h4⟩:=norm_yes hk
  obtain⟨bx,by',bz⟩:=nI_bd (ok_st hk).1
  rw[h1,h2,h3,h4]at hno
  rw[hk,Bool.and_true]at hb
  rw[h4]at hv
  clear h1 h2 h3 h4 hk
  generalize nxI x0 y0 z0 x1 y1 z1 x2 y2 z2=nx at *
  generalize nyI x0 y0 z0 x1 y1 z1 x2 y2 z2=ny at *
  generalize nzI x0 y0 z0 x1 y1 z1 x2 y2 z2=nz at *
  have hv1:Hid (v=0∧b=decide ((nx*nx+nz*nz)*ru*ru≤ny*ny*ri*ri)):=by
   show v=0∧b=_
   rw[hv,hb];simp[slopeB]
  have s1:=sq_in bx
  have s2:=sq_in by'
  have s3:=sq_in bz
  have s4:=pos_mul (a:=nx*nx+nz*nz) (b:=ru) (A:=137438953472) (B:=100) (by omega) (by omega)
  have s5:=pos_mul (a:=(nx*nx+nz*nz)*ru) (b:=ru) (A:=13743895347200) (B:=100) (by omega) (by omega)
  have s6:=pos_mul (a:=ny*ny) (b:=ri) (A:=4194304) (B:=100) (by omega) (by omega)
  have s7:=pos_mul (a:=ny*ny*ri) (b:=ri) (A:=419430400) (B:=100) (by omega) (by omega)
  clear hv hb hri hru bx by' bz
  go_enter Tryz.func193,Tryz.ntmps193
  go_wp2_with fail
  generalize hW:World.alloc _ _=W
  (have c0:(W).cell? ⟨w.heap.size+1,0,none⟩=some (.int .i64 i):=(by subst hW;go_simp));(have c1:(W).cell? ⟨w.heap.size+1,1,none⟩=some (.int .i64 x0):=(by subst hW;go_simp));(have c2:(W).cell? ⟨w.heap.size+1,2,none⟩=some (.int .i64 y0):=(by subst hW;go_simp));(have c3:(W).cell? ⟨w.heap.size+1,3,none⟩=some (.int .i64 z0):=(by subst hW;go_simp));(have c4:(W).cell? ⟨w.heap.size+1,4,none⟩=some (.int .i64 x1):=(by subst hW;go_simp));(have c5:(W).cell? ⟨w.heap.size+1,5,none⟩=some (.int .i64 y1):=(by subst hW;go_simp));(have c6:(W).cell? ⟨w.heap.size+1,6,none⟩=some (.int .i64 z1):=(by subst hW;go_simp));(have c7:(W).cell? ⟨w.heap.size+1,7,none⟩=some (.int .i64 x2):=(by subst hW;go_simp));(have c8:(W).cell? ⟨w.heap.size+1,8,none⟩=some (.int .i64 y2):=(by subst hW;go_simp));(have c9:(W).cell? ⟨w.heap.size+1,9,none⟩=some (.int .i64 z2):=(by subst hW;go_simp))
  have b3:W.cell? ⟨w.heap.size,3,none⟩=some (.int .i64 ri):=by subst hW;go_simp
  have b4:W.cell? ⟨w.heap.size,4,none⟩=some (.int .i64 ru):=by subst hW;go_simp
  have hn:New w W:=by subst hW;exact nw
  clear hW
  refine(hcc _).mono ?_
  rintro e W0 ⟨rfl,n1,-⟩
  ((replace c0:=New.keep n1 c0);(replace c1:=New.keep n1 c1);(replace c2:=New.keep n1 c2);(replace c3:=New.keep n1 c3);(replace c4:=New.keep n1 c4);(replace c5:=New.keep n1 c5);(replace c6:=New.keep n1 c6);(replace c7:=New.keep n1 c7);(replace c8:=New.keep n1 c8);(replace c9:=New.keep n1 c9))
  replace b3:=New.keep n1 b3
  replace b4:=New.keep n1 b4
  replace hn:New w W0:=New.trans hn n1
  clear n1 hcc
  go_wp2_with fail
  refine(hno _).mono ?_
  rintro e W1 ⟨rfl,n1⟩
  replace b3:=New.keep n1 b3
  replace b4:=New.keep n1 b4
  replace hn:New w W1:=New.trans hn n1
  clear n1 hno c0 c1 c2 c3 c4 c5 c6 c7 c8 c9
  go_wp2_with fail
  refine bodyPost_ret (v:=.tuple #[.bool (decide ((nx*nx+nz*nz)*ru*ru≤ny*ny*ri*ri)),.int .i64 0]) (by simp[results,Tryz.results193,go_sem]) rfl ?_
  rw[hv1.out.1,hv1.out.2]
  exact⟨rfl,hn⟩
def hTop (x z x0 y0 z0 nx ny nz:Int):Int:=y0*ny - nx*(x - x0) - nz*(z - z0)
def hOkB (x z x0 y0 z0 x1 y1 z1 x2 y2 z2:Int):Bool:=okB x0 y0 z0 x1 y1 z1 x2 y2 z2&&decide (-64≤x∧x≤64)&&decide (-64≤z∧z≤64)
def heightN (x z x0 y0 z0 x1 y1 z1 x2 y2 z2:Int):Int:=if hOkB x z x0 y0 z0 x1 y1 z1 x2 y2 z2 then lowN (hTop x z x0 y0 z0 (nxI x0 y0 z0 x1 y1 z1 x2 y2 z2) (nyI x0 y0 z0 x1 y1 z1 x2 y2 z2) (nzI x0 y0 z0 x1 y1 z1 x2 y2 z2)) (nyI x0 y0 z0 x1 y1 z1 x2 y2 z2)else 0
def heightD (x z x0 y0 z0 x1 y1 z1 x2 y2 z2:Int):Int:=if hOkB x z x0 y0 z0 x1 y1 z1 x2 y2 z2 then lowD (hTop x z x0 y0 z0 (nxI x0 y0 z0 x1 y1 z1 x2 y2 z2) (nyI x0 y0 z0 x1 y1 z1 x2 y2 z2) (nzI x0 y0 z0 x1 y1 z1 x2 y2 z2)) (nyI x0 y0 z0 x1 y1 z1 x2 y2 z2)else 0
def heightE (x z x0 y0 z0 x1 y1 z1 x2 y2 z2:Int):Int:=if hOkB x z x0 y0 z0 x1 y1 z1 x2 y2 z2 then 0 else 40
theorem height_no {x z x0 y0 z0 x1 y1 z1 x2 y2 z2:Int} (h:hOkB x z x0 y0 z0 x1 y1 z1 x2 y2 z2=false):heightN x z x0 y0 z0 x1 y1 z1 x2 y2 z2=0∧heightD x z x0 y0 z0 x1 y1 z1 x2 y2 z2=0∧heightE x z x0 y0 z0 x1 y1 z1 x2 y2 z2=40:=by
 unfold heightN heightD heightE;simp[h]
theorem height_yes {x z x0 y0 z0 x1 y1 z1 x2 y2 z2:Int} (h:hOkB x z x0 y0 z0 x1 y1 z1 x2 y2 z2=true):heightN x z x0 y0 z0 x1 y1 z1 x2 y2 z2=lowN (hTop x z x0 y0 z0 (nxI x0 y0 z0 x1 y1 z1 x2 y2 z2) (nyI x0 y0 z0 x1 y1 z1 x2 y2 z2) (nzI x0 y0 z0 x1 y1 z1 x2 y2 z2)) (nyI x0 y0 z0 x1 y1 z1 x2 y2 z2) ∧
  heightD x z x0 y0 z0 x1 y1 z1 x2 y2 z2=lowD (hTop x z x0 y0 z0 (nxI x0 y0 z0 x1 y1 z1 x2 y2 z2) (nyI x0 y0 z0 x1 y1 z1 x2 y2 z2) (nzI x0 y0 z0 x1 y1 z1 x2 y2 z2)) (nyI x0 y0 z0 x1 y1 z1 x2 y2 z2)∧heightE x z x0 y0 z0 x1 y1 z1 x2 y2 z2=0:=by
 unfold heightN heightD heightE;simp[h]
theorem t_height (i x0 y0 z0 x1 y1 z1 x2 y2 z2 x z:Int) (w:World) :
  Calls Tryz.prog 282 #[.agg #[.int .i64 i,.int .i64 x0,.int .i64 y0,.int .i64 z0,.int .i64 x1,.int .i64 y1,.int .i64 z1,.int .i64 x2,.int .i64 y2,.int .i64 z2],.int .i64 x,.int .i64 z] w fun e w'=>e=.returned (.tuple #[.int .i64 (heightN x z x0 y0 z0 x1 y1 z1 x2 y2 z2),.int .i64 (heightD x z x0 y0 z0 x1 y1 z1 x2 y2 z2),.int .i64 (heightE x z x0 y0 z0 x1 y1 z1 x2 y2 z2)])∧New w w':=by
 have hno:=fun W=>t_normal i x0 y0 z0 x1 y1 z1 x2 y2 z2 W
 cases hk:okB x0 y0 z0 x1 y1 z1 x2 y2 z2
 ·obtain⟨h1,h2,h3,h4⟩:=norm_no hk
  rw[h1,h2,h3,h4]at hno
  obtain⟨g1,g2,g3⟩:=height_no (x:=x) (z:=z) (by unfold hOkB;rw[hk];rfl:hOkB x z x0 y0 z0 x1 y1 z1 x2 y2 z2=false)
  rw[g1,g2,g3]
  clear h1 h2 h3 h4 g1 g2 g3 hk
  go_enter Tryz.func282,Tryz.ntmps282
  go_wp2_with fail
  refine(hno _).mono ?_
  rintro e W0 ⟨rfl,n1⟩
  have hn:New w W0:=New.trans (by exact nw) n1
  clear n1 hno
  go_wp2_with fail
  go_ret3
  exact⟨rfl,hn⟩
 ·obtain⟨h1,h2,h3,h4⟩:=norm_yes hk
  rw[h1,h2,h3,h4]at hno
  have hwx:=fun W=>t_within x (-64) 64 W
  have hwz:=fun W=>t_within z (-64) 64 W
  clear h1 h2 h3 h4
  by_cases hx : -64≤x∧x≤64
  rotate_left
  ·have hx':decide (-64≤x∧x≤64)=false:=by simpa using hx
   obtain⟨g1,g2,g3⟩:=height_no (x:=x) (z:=z) (by unfold hOkB;rw[hk,hx'];rfl:hOkB x z x0 y0 z0 x1 y1 z1 x2 y2 z2=false)
   rw[g1,g2,g3]
   rw[hx']at hwx
   clear g1 g2 g3 hx hk hx'
   go_enter Tryz.func282,Tryz.ntmps282
   go_wp2_with fail
   refine(hno _).mono ?_
   rintro e W0 ⟨rfl,n1⟩
   have hn:New w W0:=New.trans (by exact nw) n1
   clear n1 hno
   go_wp2_with fail
   refine(hwx _).mono ?_
   rintro e w' ⟨rfl,rfl⟩
   go_wp2_with fail
   go_ret3
   exact⟨rfl,hn⟩
  by_cases hz : -64≤z∧z≤64
  rotate_left
  ·have hx':decide (-64≤x∧x≤64)=true:=by simpa using hx
   have hz':decide (-64≤z∧z≤64)=false:=by simpa using hz
   obtain⟨g1,g2,g3⟩:=height_no (x:=x) (z:=z) (by unfold hOkB;rw[hz',Bool.and_false]:hOkB x z x0 y0 z0 x1 y1 z1 x2 y2 z2=false)
   rw[g1,g2,g3]
   rw[hx']at hwx
   rw[hz']at hwz
   clear g1 g2 g3 hx hz hk hx' hz'
   go_enter Tryz.func282,Tryz.ntmps282
   go_wp2_with fail
   refine(hno _).mono ?_
   rintro e W0 ⟨rfl,n1⟩
   have hn:New w W0:=New.trans (by exact nw) n1
   clear n1 hno
   go_wp2_with fail
   refine(hwx _).mono ?_
   rintro e w' ⟨rfl,rfl⟩
   go_wp2_with fail
   refine(hwz _).mono ?_
   rintro e w' ⟨rfl,rfl⟩
   go_wp2_with fail
   go_ret3
   exact⟨rfl,hn⟩
  ·have hx':decide (-64≤x∧x≤64)=true:=by simpa using hx
   have hz':decide (-64≤z∧z≤64)=true:=by simpa using hz
   obtain⟨g1,g2,g3⟩:=height_yes (x:=x) (z:=z) (by unfold hOkB;rw[hk,hx',hz'];rfl:hOkB x z x0 y0 z0 x1 y1 z1 x2 y2 z2=true)
   rw[g1,g2,g3]
   rw[hx']at hwx
   rw[hz']at hwz
   obtain⟨hst,hny⟩:=ok_st hk
   obtain⟨bx,by',bz⟩:=nI_bd hst
   unfold StP StV at hst
   clear g1 g2 g3 hk hx' hz'
   generalize nxI x0 y0 z0 x1 y1 z1 x2 y2 z2=nx at *
   generalize nyI x0 y0 z0 x1 y1 z1 x2 y2 z2=ny at *
   generalize nzI x0 y0 z0 x1 y1 z1 x2 y2 z2=nz at *
   obtain⟨⟨⟨X0,X0'⟩,⟨Z0,Z0'⟩,⟨Y0,Y0'⟩⟩,-,-⟩:=hst
   have p1:=mul_bd (a:=y0) (b:=ny) (A:=2048) (B:=2048) (by omega) (by omega)
   have p2:=mul_bd (a:=nx) (b:=x - x0) (A:=262144) (B:=96) (by omega) (by omega)
   have p3:=mul_bd (a:=nz) (b:=z - z0) (A:=262144) (B:=96) (by omega) (by omega)
   have hlow:=fun W=>t_lowest (hTop x z x0 y0 z0 nx ny nz) ny W hny (by unfold hTop;omega) (by omega)
   generalize lowN (hTop x z x0 y0 z0 nx ny nz) ny=A at *
   generalize lowD (hTop x z x0 y0 z0 nx ny nz) ny=B at *
   unfold hTop at hlow
   replace hlow:=Lib.hid hlow
   clear hny
   go_enter Tryz.func282,Tryz.ntmps282
   go_wp2_with fail
   refine(hno _).mono ?_
   rintro e W0 ⟨rfl,n1⟩
   (have c0:(W0).cell? ⟨w.heap.size,0,none⟩=some (.int .i64 i):=(n1.keep (by go_simp)));(have c1:(W0).cell? ⟨w.heap.size,1,none⟩=some (.int .i64 x0):=(n1.keep (by go_simp)));(have c2:(W0).cell? ⟨w.heap.size,2,none⟩=some (.int .i64 y0):=(n1.keep (by go_simp)));(have c3:(W0).cell? ⟨w.heap.size,3,none⟩=some (.int .i64 z0):=(n1.keep (by go_simp)));(have c4:(W0).cell? ⟨w.heap.size,4,none⟩=some (.int .i64 x1):=(n1.keep (by go_simp)));(have c5:(W0).cell? ⟨w.heap.size,5,none⟩=some (.int .i64 y1):=(n1.keep (by go_simp)));(have c6:(W0).cell? ⟨w.heap.size,6,none⟩=some (.int .i64 z1):=(n1.keep (by go_simp)));(have c7:(W0).cell? ⟨w.heap.size,7,none⟩=some (.int .i64 x2):=(n1.keep (by go_simp)));(have c8:(W0).cell? ⟨w.heap.size,8,none⟩=some (.int .i64 y2):=(n1.keep (by go_simp)));(have c9:(W0).cell? ⟨w.heap.size,9,none⟩=some (.int .i64 z2):=(n1.keep (by go_simp)))
   have hn:New w W0:=New.trans (by exact nw) n1
   clear n1 hno c4 c5 c6 c7 c8 c9 c0
   go_wp2_with fail
   refine(hwx _).mono ?_
   rintro e w' ⟨rfl,rfl⟩
   go_wp2_with fail
   refine(hwz _).mono ?_
   rintro e w' ⟨rfl,rfl⟩
   go_wp2_with fail
   refine(hlow.out _).mono ?_
   rintro e W2 ⟨rfl,n1⟩
   have zz:=hn.size
   replace hn:New w W2:=New.trans (by exact nw) n1
   clear n1
   go_wp2_with fail
   go_ret3
   exact⟨rfl,hn⟩
end Go.Proofs.YtmhghnbgllaihaaGreatDoor
