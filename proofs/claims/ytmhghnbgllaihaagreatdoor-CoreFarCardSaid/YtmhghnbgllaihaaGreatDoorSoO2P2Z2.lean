import Derived.Test.YtmhghnbgllaihaaGreatDoorWholeIP2Z2
import Derived.Test.YtmhghnbgllaihaaGreatDoorSoXFP2Z2
import Derived.Test.YtmhghnbgllaihaaGreatDoorSoLSP2Z2
import Derived.Test.YtmhghnbgllaihaaGreatDoorOgX0P2Z2
import Derived.Test.YtmhghnbgllaihaaGreatDoorWholeJP2Z2
import Derived.Outline
import Derived.Deep.DeepCutAuto
import Derived.Deep.LoopGhost
import Derived.RangeFuncNested
import Derived.RangeFuncWrites
import Derived.RangeFuncBound
import Derived.RangeFuncCalls
import Derived.RangeFuncLeaves
import Derived.Shelf.Abstract
import Derived.Shelf.RegionOpen
import Derived.WalkKit
import Derived.OwnWalkIn
import Derived.TacticsInMore
import Derived.LoopNIn
import Derived.LoopIn
import Derived.Sort.WalkA
import Derived.Maps.AppendAt
import Derived.OwnWalk
import Derived.Test.YtmhghnbgllaihaaGreatDoorSoCEP2Z2
import Derived.Test.YtmhghnbgllaihaaGreatDoorLkGP2Z2
import Derived.Test.YtmhghnbgllaihaaGreatDoorSoETP2Z2
import Derived.Test.YtmhghnbgllaihaaGreatDoorSoYP2Z2
set_option linter.unusedVariables false
set_option maxHeartbeats 16000000
set_option maxRecDepth 100000

namespace Go.Proofs.YtmhghnbgllaihaaGreatDoor
open Go.RowKit
def rowN (n:Int):Int:=(n - 1).tdiv 8+1
theorem rowN_bd {n:Int} (h:1≤n∧n≤32):1≤rowN n∧rowN n≤4:=by
 unfold rowN
 rw[Int.tdiv_eq_ediv_of_nonneg (by omega)];omega
theorem inRow_any (n:Int) (h:1≤n∧n≤32) (w:World) :
  Calls Tryz.prog 237 #[.int .i64 n] w fun e w'=>e=.returned (.int .i64 (rowN n))∧New w w':=by
 have hb:=rowN_bd h
 unfold rowN at hb
 go_enter Tryz.func237,Tryz.ntmps237
 go_wp2
 go_ret
 exact⟨rfl,New.refl _⟩
def lowS (k pad:Int):Int:=max (8*k - pad) 0
def highS (k n pad:Int):Int:=min (8*k+8 - 1+pad) (n - 1)
theorem side_any (k n pad:Int) (hk:0≤k∧k≤100) (hn:1≤n∧n≤32) (hp:4≤pad∧pad≤7) (w:World) :
  Calls Tryz.prog 265 #[.int .i64 k,.int .i64 n,.int .i64 pad] w fun e w'=>e=.returned (.tuple #[.int .i64 (lowS k pad),.int .i64 (highS k n pad)])∧New w w':=by
 go_enter Tryz.func265,Tryz.ntmps265
 go_wp2
 refine bodyPost_ret (v:=.tuple #[.int .i64 (max (8*k - pad) 0),.int .i64 (min (8*k+8 - 1+pad) (n - 1))]) (by simp[results,Tryz.results265,go_sem, *]) rfl ?_
 exact⟨rfl,New.refl _⟩
theorem checkB_iff {cl cb ht ri ru wd dp:Int}:checkB cl cb ht ri ru wd dp=true↔(0≤cl∧cl≤3)∧(0≤cb∧cb≤8)∧(cb+1≤ht∧ht≤32)∧(0≤ri∧ri≤100)∧(1≤ru∧ru≤100)∧(1≤wd∧wd≤32)∧(1≤dp∧dp≤32):=by
 unfold checkB;simp only[Bool.and_eq_true,decide_eq_true_eq];omega
theorem checkE_zero {cl cb ht ri ru wd dp:Int} (h:checkB cl cb ht ri ru wd dp=true):checkE cl cb ht ri ru wd dp=0:=by unfold checkE;rw[h];rfl
theorem checkE_bad {cl cb ht ri ru wd dp:Int} (h:checkB cl cb ht ri ru wd dp=false):checkE cl cb ht ri ru wd dp=20:=by unfold checkE;rw[h];rfl
def countN (cl cb ht ri ru wd dp:Int):Int:=if checkB cl cb ht ri ru wd dp then rowN wd*rowN dp else 0
theorem count_bd (cl cb ht ri ru wd dp:Int):0≤countN cl cb ht ri ru wd dp∧countN cl cb ht ri ru wd dp≤16:=by
 unfold countN
 split
 ·rename_i h
  have h:=checkB_iff.1 h
  have a:=rowN_bd h.2.2.2.2.2.1
  have b:=rowN_bd h.2.2.2.2.2.2
  constructor
  ·exact Int.mul_nonneg (by omega) (by omega)
  ·exact Int.le_trans (Int.mul_le_mul (b:=rowN dp) (c:=4) (d:=4) a.2 b.2 (by omega) (by omega)) (by omega)
 ·omega
theorem Count_any (cl cb ht ri ru wd dp:Int) (w:World) :
  Calls Tryz.prog 207 #[.agg #[.int .i64 cl,.int .i64 cb,.int .i64 ht,.int .i64 ri,.int .i64 ru,.int .i64 wd,.int .i64 dp]] w fun e w'=>e=.returned (.int .i64 (countN cl cb ht ri ru wd dp))∧New w w':=by
 cases hok:checkB cl cb ht ri ru wd dp with
 | false =>
  have e0:=checkE_bad hok
  have e1:countN cl cb ht ri ru wd dp=0:=by unfold countN;rw[hok];rfl
  rw[e1]
  have C0:∀ W,Calls Tryz.prog 30 #[.agg #[.int .i64 cl,.int .i64 cb,.int .i64 ht,.int .i64 ri,.int .i64 ru,.int .i64 wd,.int .i64 dp]] W fun e w'=>e=.returned (.int .i64 20)∧New W w':=fun W=>(check_any cl cb ht ri ru wd dp W).mono fun e w' h=>⟨by rw[h.1,e0],h.2.1⟩
  have CC:=Lib.hid C0
  clear C0
  clear hok e0 e1
  go_enter Tryz.func207,Tryz.ntmps207
  go_wp2_with fail
  refine(CC.out _).mono ?_
  rintro e w' ⟨rfl,n1⟩
  go_wp2_with fail
  go_ret
  exact⟨rfl,New.trans (by exact nw) n1⟩
 | true =>
  have e0:=checkE_zero hok
  have e1:countN cl cb ht ri ru wd dp=rowN wd*rowN dp:=by unfold countN;rw[hok];rfl
  have hb:=count_bd cl cb ht ri ru wd dp
  rw[e1]at hb
  rw[e1]
  have hk:=checkB_iff.1 hok
  have IW:=Lib.hid (fun W=>inRow_any wd hk.2.2.2.2.2.1 W)
  have ID:=Lib.hid (fun W=>inRow_any dp hk.2.2.2.2.2.2 W)
  have C0:∀ W,Calls Tryz.prog 30 #[.agg #[.int .i64 cl,.int .i64 cb,.int .i64 ht,.int .i64 ri,.int .i64 ru,.int .i64 wd,.int .i64 dp]] W fun e w'=>e=.returned (.int .i64 0)∧New W w':=fun W=>(check_any cl cb ht ri ru wd dp W).mono fun e w' h=>⟨by rw[h.1,e0],h.2.1⟩
  have CC:=Lib.hid C0
  clear C0
  clear hok e0 e1 hk
  go_enter Tryz.func207,Tryz.ntmps207
  go_wp2_with fail
  refine(CC.out _).mono ?_
  rintro e w1 ⟨rfl,n1⟩
  go_wp2_with fail
  have c5:w1.cell? ⟨w.heap.size,5,none⟩=some (.int .i64 wd):=n1.keep (by go_simp)
  have c6:w1.cell? ⟨w.heap.size,6,none⟩=some (.int .i64 dp):=n1.keep (by go_simp)
  replace n1:New w w1:=New.trans (by exact nw) n1
  (refine wp_region_hat (by kernel_rfl) (by kernel_rfl) ?_;intro hatc hatf;(repeat(go_big_quiet_step ((go_at_call 237;first|(with_reducible exact Calls.hat (IW.out _))|(with_reducible exact Calls.hat (ID.out _))))));refine wpQuiet_nil ?_;rintro _ ⟨x,rfl⟩)
  go_wp2_with fail
  go_ret
  exact⟨rfl,New.trans n1 x.h⟩
abbrev strV (x0 z0 x1 z1:Int):Value:=.agg #[.int .i64 x0,.int .i64 z0,.int .i64 x1,.int .i64 z1]
def padX0 (cl wd k:Int):Int:=lowS (k % rowN wd) (cl+4)
def padX1 (cl wd k:Int):Int:=highS (k % rowN wd) wd (cl+4)
def padZ0 (cl wd k:Int):Int:=lowS (k / rowN wd) (cl+4)
def padZ1 (cl wd dp k:Int):Int:=highS (k / rowN wd) dp (cl+4)
theorem padded_any (cl cb ht ri ru wd dp k:Int) (hok:checkB cl cb ht ri ru wd dp=true) (h0:0≤k∧k≤16) (w:World) :
  Calls Tryz.prog 239 #[.agg #[.int .i64 cl,.int .i64 cb,.int .i64 ht,.int .i64 ri,.int .i64 ru,.int .i64 wd,.int .i64 dp],.int .i64 k] w fun e w'=>e=.returned (strV (padX0 cl wd k) (padZ0 cl wd k) (padX1 cl wd k) (padZ1 cl wd dp k))∧New w w':=by
 have hk:=checkB_iff.1 hok
 have IW:=Lib.hid (fun W=>inRow_any wd hk.2.2.2.2.2.1 W)
 have hr:=rowN_bd hk.2.2.2.2.2.1
 have hz:rowN wd≠0:=by omega
 have hm:0≤k % rowN wd∧k % rowN wd≤4:=by
  have:=Int.emod_lt_of_pos k (b:=rowN wd) (by omega)
  have:=Int.emod_nonneg k hz
  omega
 have hd:0≤k / rowN wd∧k / rowN wd≤16 :=
  ⟨Int.ediv_nonneg (by omega) (by omega),Int.le_trans (Int.ediv_le_self _ (by omega)) (by omega)⟩
 have CX:=Lib.hid (fun W=>side_any (k % rowN wd) wd (cl+4) (by omega) hk.2.2.2.2.2.1 (by omega) W)
 have CZ:=Lib.hid (fun W=>side_any (k / rowN wd) dp (cl+4) (by omega) hk.2.2.2.2.2.2 (by omega) W)
 have hcl:0≤cl∧cl≤3:=hk.1
 unfold padX0 padX1 padZ0 padZ1
 clear hok hk
 go_enter Tryz.func239,Tryz.ntmps239
 go_wp2_with fail
 refine(IW.out _).mono ?_
 rintro e w1 ⟨rfl,n1⟩
 have c0:w1.cell? ⟨w.heap.size,0,none⟩=some (.int .i64 cl):=n1.keep (by go_simp)
 have c5:w1.cell? ⟨w.heap.size,5,none⟩=some (.int .i64 wd):=n1.keep (by go_simp)
 have c6:w1.cell? ⟨w.heap.size,6,none⟩=some (.int .i64 dp):=n1.keep (by go_simp)
 have d0:w1.cell? ⟨w.heap.size+1,0,none⟩=some (.int .i64 0):=n1.keep (by go_simp)
 have f0:w1.frozen? ⟨w.heap.size+1,0,none⟩=false:=n1.keepF (v:=.int .i64 0) (by go_simp) (by go_simp)
 have d1:w1.cell? ⟨w.heap.size+1,1,none⟩=some (.int .i64 0):=n1.keep (by go_simp)
 have f1:w1.frozen? ⟨w.heap.size+1,1,none⟩=false:=n1.keepF (v:=.int .i64 0) (by go_simp) (by go_simp)
 have d2:w1.cell? ⟨w.heap.size+1,2,none⟩=some (.int .i64 0):=n1.keep (by go_simp)
 have f2:w1.frozen? ⟨w.heap.size+1,2,none⟩=false:=n1.keepF (v:=.int .i64 0) (by go_simp) (by go_simp)
 have d3:w1.cell? ⟨w.heap.size+1,3,none⟩=some (.int .i64 0):=n1.keep (by go_simp)
 have f3:w1.frozen? ⟨w.heap.size+1,3,none⟩=false:=n1.keepF (v:=.int .i64 0) (by go_simp) (by go_simp)
 replace n1:New w w1:=New.trans (by exact nw) n1
 go_wp2_with fail
 (refine wp_region_hat (by kernel_rfl) (by kernel_rfl) ?_;intro hatc hatf;(repeat(go_big_quiet_step ((go_at_call 265;(with_reducible exact Calls.hat (CX.out _))))));refine wpQuiet_nil ?_;rintro _ ⟨x,rfl⟩)
 replace c0:=New.keep x.h c0
 replace c6:=New.keep x.h c6
 replace f0:=New.keepF x.h d0 f0
 replace d0:=New.keep x.h d0
 replace f1:=New.keepF x.h d1 f1
 replace d1:=New.keep x.h d1
 replace f2:=New.keepF x.h d2 f2
 replace d2:=New.keep x.h d2
 replace f3:=New.keepF x.h d3 f3
 replace d3:=New.keep x.h d3
 replace n1:=New.trans n1 x.h
 clear c5
 generalize x.w=w2 at *
 clear x
 go_wp2_with fail
 (refine wp_region_hat (by kernel_rfl) (by kernel_rfl) ?_;intro hatc hatf;(repeat(go_big_quiet_step ((go_at_call 265;(with_reducible exact Calls.hat (CZ.out _))))));refine wpQuiet_nil ?_;rintro _ ⟨x,rfl⟩)
 replace f0:=New.keepF x.h d0 f0
 replace d0:=New.keep x.h d0
 replace f1:=New.keepF x.h d1 f1
 replace d1:=New.keep x.h d1
 replace f2:=New.keepF x.h d2 f2
 replace d2:=New.keep x.h d2
 replace f3:=New.keepF x.h d3 f3
 replace d3:=New.keep x.h d3
 replace n1:=New.trans n1 x.h
 clear c0 c6
 generalize x.w=w3 at *
 clear x
 have hz1:w.heap.size+1<w3.heap.size:=World.block_lt_of_cell? _ _ d0
 go_wp2_with fail
 refine bodyPost_ret (v:=strV (lowS (k % rowN wd) (cl+4)) (lowS (k / rowN wd) (cl+4)) (highS (k % rowN wd) wd (cl+4)) (highS (k / rowN wd) dp (cl+4))) (by simp[results,Tryz.results239,go_sem, *]) rfl ?_
 exact⟨rfl,by exact nw⟩
theorem common_any (x0 z0 x1 z1 y0 t0 y1 t1:Int) (w:World) (hl:Nowhere w) :
  Calls Tryz.prog 238 #[strV x0 z0 x1 z1,strV y0 t0 y1 t1] w fun e w'=>e=.returned (if max x0 y0≤min x1 y1∧max z0 t0≤min z1 t1 then strV (max x0 y0) (max z0 t0) (min x1 y1) (min z1 t1)else strV 0 0 (-1) (-1))∧New w w':=by
 obtain⟨l0,l1,l2,l3⟩:=hl
 have hz:0<w.heap.size:=World.block_lt_of_cell? _ _ l0
 by_cases hx:max x0 y0≤min x1 y1
 ·have bx:decide (min x1 y1<max x0 y0)=false:=decide_eq_false (by omega)
  by_cases hy:max z0 t0≤min z1 t1
  ·have by':decide (min z1 t1<max z0 t0)=false:=decide_eq_false (by omega)
   rw[if_pos ⟨hx,hy⟩]
   clear hx hy
   go_enter Tryz.func238,Tryz.ntmps238
   go_wp2
   refine bodyPost_ret (v:=strV (max x0 y0) (max z0 t0) (min x1 y1) (min z1 t1)) (by simp[results,Tryz.results238,go_sem, *]) rfl ?_
   exact⟨rfl,by exact nw⟩
  ·have by':decide (min z1 t1<max z0 t0)=true:=decide_eq_true (by omega)
   rw[if_neg (fun h=>hy h.2)]
   clear hx hy
   go_enter Tryz.func238,Tryz.ntmps238
   go_wp2
   refine bodyPost_ret (v:=strV 0 0 (-1) (-1)) (by simp[results,Tryz.results238,go_sem, *]) rfl ?_
   exact⟨rfl,by exact nw⟩
 ·have bx:decide (min x1 y1<max x0 y0)=true:=decide_eq_true (by omega)
  rw[if_neg (fun h=>hx h.1)]
  clear hx
  go_enter Tryz.func238,Tryz.ntmps238
  go_wp2
  refine bodyPost_ret (v:=strV 0 0 (-1) (-1)) (by simp[results,Tryz.results238,go_sem, *]) rfl ?_
  exact⟨rfl,by exact nw⟩
def strEq (a b c d a' b' c' d':Int):Bool:=a==a'&&(b==b'&&(c==c'&&d==d'))
theorem str_neq (w:World) (a b c d a' b' c' d':Int):(binOp .neq 302 (strV a b c d) (strV a' b' c' d')).run Tryz.prog w=.ok (.bool (!strEq a b c d a' b' c' d')) w:=by
 unfold strEq
 cases h1:(a==a') <;> cases h2:(b==b') <;> cases h3:(c==c') <;> cases h4:(d==d') <;> (go_simp)
def touchB (cl cb ht ri ru wd dp k x0 z0 x1 z1:Int):Bool :=
 decide (0≤k∧k<countN cl cb ht ri ru wd dp)&&decide (x0≤x1∧z0≤z1)&&decide (x0≤padX1 cl wd k∧padX0 cl wd k≤x1∧z0≤padZ1 cl wd dp k∧padZ0 cl wd k≤z1)
theorem pad_facts {cl cb ht ri ru wd dp k:Int} (hok:checkB cl cb ht ri ru wd dp=true) (h:0≤k∧k<countN cl cb ht ri ru wd dp) :
  0≤padX0 cl wd k∧padX0 cl wd k≤padX1 cl wd k∧0≤padZ0 cl wd k∧padZ0 cl wd k≤padZ1 cl wd dp k:=by
 have hk:=checkB_iff.1 hok
 obtain⟨hcl,-,-,-,-,hw,hd⟩:=hk
 have hr:=rowN_bd hw
 have hs:=rowN_bd hd
 have e1:countN cl cb ht ri ru wd dp=rowN wd*rowN dp:=by unfold countN;rw[hok];rfl
 rw[e1]at h
 have hz:rowN wd≠0:=by omega
 have hm1:=Int.emod_lt_of_pos k (b:=rowN wd) (by omega)
 have hm0:=Int.emod_nonneg k hz
 have hd0:0≤k / rowN wd:=Int.ediv_nonneg (by omega) (by omega)
 have hd1:k / rowN wd<rowN dp:=Int.ediv_lt_of_lt_mul (by omega) (by rw[Int.mul_comm];exact h.2)
 unfold padX0 padX1 padZ0 padZ1 lowS highS
 generalize k % rowN wd=a at *
 generalize k / rowN wd=b at *
 have rw8:rowN wd=(wd - 1) / 8+1:=by unfold rowN;rw[Int.tdiv_eq_ediv_of_nonneg (by omega)]
 have rd8:rowN dp=(dp - 1) / 8+1:=by unfold rowN;rw[Int.tdiv_eq_ediv_of_nonneg (by omega)]
 clear h e1 hok
 omega
theorem touchB_meet {cl cb ht ri ru wd dp k x0 z0 x1 z1:Int} (hok:checkB cl cb ht ri ru wd dp=true) (h:0≤k∧k<countN cl cb ht ri ru wd dp) :
  touchB cl cb ht ri ru wd dp k x0 z0 x1 z1=decide (max x0 (padX0 cl wd k)≤min x1 (padX1 cl wd k)∧max z0 (padZ0 cl wd k)≤min z1 (padZ1 cl wd dp k)):=by
 have hp:=pad_facts hok h
 unfold touchB
 rw[decide_eq_true h,Bool.true_and,←Bool.decide_and,decide_eq_decide]
 omega
theorem Touch_any (cl cb ht ri ru wd dp k x0 z0 x1 z1:Int) (w:World) (hl:Nowhere w) :
  Calls Tryz.prog 208 #[.agg #[.int .i64 cl,.int .i64 cb,.int .i64 ht,.int .i64 ri,.int .i64 ru,.int .i64 wd,.int .i64 dp],.int .i64 k,.int .i64 x0,.int .i64 z0,.int .i64 x1,.int .i64 z1] w fun e w'=>e=.returned (.bool (touchB cl cb ht ri ru wd dp k x0 z0 x1 z1))∧New w w':=by
 by_cases h0:k<0
 ·have e:touchB cl cb ht ri ru wd dp k x0 z0 x1 z1=false:=by unfold touchB;rw[decide_eq_false (by omega)];rfl
  rw[e]
  have b0:decide (k<0)=true:=decide_eq_true h0
  clear e h0 hl
  go_enter Tryz.func208,Tryz.ntmps208
  go_wp2_with fail
  go_ret
  exact⟨rfl,by exact nw⟩
 have b0:decide (k<0)=false:=decide_eq_false h0
 have CC:=Lib.hid (fun W=>Count_any cl cb ht ri ru wd dp W)
 by_cases h1:k<countN cl cb ht ri ru wd dp
 ·have hok:checkB cl cb ht ri ru wd dp=true:=by
   cases hh:checkB cl cb ht ri ru wd dp with
   | true=>rfl
   | false=>unfold countN at h1;rw[hh]at h1;simp at h1;omega
  have hT:=touchB_meet (x0:=x0) (z0:=z0) (x1:=x1) (z1:=z1) hok ⟨by omega,h1⟩
  have hp:=pad_facts hok ⟨by omega,h1⟩
  have hb:=count_bd cl cb ht ri ru wd dp
  have b1:decide (countN cl cb ht ri ru wd dp≤k)=false:=decide_eq_false (by omega)
  have PP:=Lib.hid (fun W=>padded_any cl cb ht ri ru wd dp k hok (by omega) W)
  generalize padX0 cl wd k=a0 at *
  generalize padX1 cl wd k=a1 at *
  generalize padZ0 cl wd k=c0 at *
  generalize padZ1 cl wd dp k=c1 at *
  have HH:=fun W hl=>common_any x0 z0 x1 z1 a0 c0 a1 c1 W hl
  by_cases hm:max x0 a0≤min x1 a1∧max z0 c0≤min z1 c1
  ·rw[decide_eq_true hm]at hT
   rw[hT]
   simp only[if_pos hm]at HH
   have m0:strEq (max x0 a0) (max z0 c0) (min x1 a1) (min z1 c1) 0 0 (-1) (-1)=false:=by
    unfold strEq
    have:(min x1 a1 == -1)=false:=by rw[beq_eq_false_iff_ne];omega
    rw[this];simp
   generalize max x0 a0=m1 at *
   generalize max z0 c0=m2 at *
   generalize min x1 a1=m3 at *
   generalize min z1 c1=m4 at *
   generalize countN cl cb ht ri ru wd dp=n at *
   have H2:=Lib.hid HH
   have SN:=str_neq
   clear HH hok h1 hb h0 hT hm hp
   go_enter Tryz.func208,Tryz.ntmps208
   go_wp2_with fail
   refine(CC.out _).mono ?_
   rintro e w1 ⟨rfl,n1⟩
   go_wp2_with fail
   have k0:w1.cell? ⟨w.heap.size,0,none⟩=some (.int .i64 cl):=n1.keep (by go_simp)
   have k1:w1.cell? ⟨w.heap.size,1,none⟩=some (.int .i64 cb):=n1.keep (by go_simp)
   have k2:w1.cell? ⟨w.heap.size,2,none⟩=some (.int .i64 ht):=n1.keep (by go_simp)
   have k3:w1.cell? ⟨w.heap.size,3,none⟩=some (.int .i64 ri):=n1.keep (by go_simp)
   have k4:w1.cell? ⟨w.heap.size,4,none⟩=some (.int .i64 ru):=n1.keep (by go_simp)
   have k5:w1.cell? ⟨w.heap.size,5,none⟩=some (.int .i64 wd):=n1.keep (by go_simp)
   have k6:w1.cell? ⟨w.heap.size,6,none⟩=some (.int .i64 dp):=n1.keep (by go_simp)
   replace n1:New w w1:=New.trans (by exact nw) n1
   have hl1:=hl.new n1
   obtain⟨l0,l1,l2,l3⟩:=id hl1
   have H3:=Lib.hid (fun x:Hat w1=>H2.out x.w (hl1.new x.h))
   clear H2 hl1 hl
   refine wp_region_hat (by kernel_rfl) (by kernel_rfl) ?_
   intro hatc hatf
   (repeat(go_big_quiet_step ((first|(go_at_call 239;(with_reducible exact Calls.hat (PP.out _)))|(go_at_call 238;(with_reducible exact Calls.hat (H3.out _)))))))
   refine wpQuiet_nil ?_
   rintro _ ⟨x,rfl⟩
   go_wp2_with fail
   go_ret
   exact⟨rfl,New.trans n1 x.h⟩
  ·rw[decide_eq_false hm]at hT
   rw[hT]
   simp only[if_neg hm]at HH
   have m0:strEq 0 0 (-1) (-1) 0 0 (-1) (-1)=true:=by decide
   generalize countN cl cb ht ri ru wd dp=n at *
   have H2:=Lib.hid HH
   have SN:=str_neq
   clear HH hok h1 hb h0 hT hm hp
   go_enter Tryz.func208,Tryz.ntmps208
   go_wp2_with fail
   refine(CC.out _).mono ?_
   rintro e w1 ⟨rfl,n1⟩
   go_wp2_with fail
   have k0:w1.cell? ⟨w.heap.size,0,none⟩=some (.int .i64 cl):=n1.keep (by go_simp)
   have k1:w1.cell? ⟨w.heap.size,1,none⟩=some (.int .i64 cb):=n1.keep (by go_simp)
   have k2:w1.cell? ⟨w.heap.size,2,none⟩=some (.int .i64 ht):=n1.keep (by go_simp)
   have k3:w1.cell? ⟨w.heap.size,3,none⟩=some (.int .i64 ri):=n1.keep (by go_simp)
   have k4:w1.cell? ⟨w.heap.size,4,none⟩=some (.int .i64 ru):=n1.keep (by go_simp)
   have k5:w1.cell? ⟨w.heap.size,5,none⟩=some (.int .i64 wd):=n1.keep (by go_simp)
   have k6:w1.cell? ⟨w.heap.size,6,none⟩=some (.int .i64 dp):=n1.keep (by go_simp)
   replace n1:New w w1:=New.trans (by exact nw) n1
   have hl1:=hl.new n1
   obtain⟨l0,l1,l2,l3⟩:=id hl1
   have H3:=Lib.hid (fun x:Hat w1=>H2.out x.w (hl1.new x.h))
   clear H2 hl1 hl
   refine wp_region_hat (by kernel_rfl) (by kernel_rfl) ?_
   intro hatc hatf
   (repeat(go_big_quiet_step ((first|(go_at_call 239;(with_reducible exact Calls.hat (PP.out _)))|(go_at_call 238;(with_reducible exact Calls.hat (H3.out _)))))))
   refine wpQuiet_nil ?_
   rintro _ ⟨x,rfl⟩
   go_wp2_with fail
   go_ret
   exact⟨rfl,New.trans n1 x.h⟩
 ·have e:touchB cl cb ht ri ru wd dp k x0 z0 x1 z1=false:=by unfold touchB;rw[decide_eq_false (by omega)];rfl
  rw[e]
  have b1:decide (countN cl cb ht ri ru wd dp≤k)=true:=decide_eq_true (by omega)
  generalize countN cl cb ht ri ru wd dp=n at *
  clear e h0 h1 hl
  go_enter Tryz.func208,Tryz.ntmps208
  go_wp2_with fail
  refine(CC.out _).mono ?_
  rintro e w1 ⟨rfl,n1⟩
  go_wp2_with fail
  go_ret
  exact⟨rfl,New.trans (by exact nw) n1⟩
def upTo (T:Int→Bool) (m:Nat):List Int:=((List.range m).map (fun j:Nat=>(j:Int))).filter T
theorem upTo_succ (T:Int→Bool) (m:Nat):upTo T (m+1)=upTo T m++(if T m then [(m:Int)]else []):=by
 unfold upTo
 rw[List.range_succ,List.map_append,List.filter_append,List.map_cons,List.map_nil,List.filter_cons,List.filter_nil]
theorem upTo_len (T:Int→Bool) (m:Nat):(upTo T m).length≤m:=by
 unfold upTo
 refine Nat.le_trans (List.length_filter_le _ _) ?_
 simp
def tilesL (cl cb ht ri ru wd dp x0 z0 x1 z1:Int):List Int:=upTo (fun k=>touchB cl cb ht ri ru wd dp k x0 z0 x1 z1) (countN cl cb ht ri ru wd dp).toNat
end Go.Proofs.YtmhghnbgllaihaaGreatDoor

namespace Go.Proofs.YtmhghnbgllaihaaGreatDoor
open Go.RowKit Go.Shelf
attribute [local go_sem] Oper.semAt_some
theorem b_each (cl cb ht ri ru wd dp x0 z0 x1 z1:Int) (w:World) :
  Calls Tryz.prog 171 #[.agg #[.int .i64 cl,.int .i64 cb,.int .i64 ht,.int .i64 ri,.int .i64 ru,.int .i64 wd,.int .i64 dp],.int .i64 x0,.int .i64 z0,.int .i64 x1,.int .i64 z1] w fun e w' =>
   e=.returned (.func (.func 206) #[] #[.pointer (some ⟨w.heap.size,0,none⟩),.pointer (some ⟨w.heap.size+1,0,none⟩),.pointer (some ⟨w.heap.size+1+1,0,none⟩),.pointer (some ⟨w.heap.size+1+1+1,0,none⟩),.pointer (some ⟨w.heap.size+1+1+1+1,0,none⟩)]) ∧
   w'=((((w.alloc (.cells #[.int .i64 cl,.int .i64 cb,.int .i64 ht,.int .i64 ri,.int .i64 ru,.int .i64 wd,.int .i64 dp] 23)).alloc (.cells #[.int .i64 x0] 3)).alloc (.cells #[.int .i64 z0] 3)).alloc (.cells #[.int .i64 x1] 3)).alloc (.cells #[.int .i64 z1] 3):=by
 go_enter Tryz.func171,Tryz.ntmps171
 go_wp2_with fail
 go_ret
 exact⟨rfl,rfl⟩
theorem upTo_prefix (T:Int→Bool) {m n:Nat} (h:m≤n):upTo T m <+: upTo T n:=by
 obtain⟨d,rfl⟩:=Nat.exists_eq_add_of_le h
 clear h
 induction d with
 | zero=>exact List.prefix_refl _
 | succ d ih=>exact ih.trans (by rw[←Nat.add_assoc,upTo_succ];exact List.prefix_append _ _)
def numOf:Value→Int
 | .int _ k=>k
 | _=>0
theorem keeps_new {B:Nat} {W w w':World} (h:∀ b,b<B→w.heap[b]? = W.heap[b]?) (hB:B≤W.heap.size) (n:New w w'):∀ b,b<B→w'.heap[b]? = W.heap[b]? := fun b hb=>by
 have h1:=h b hb
 rw[Array.getElem?_eq_getElem (show b<W.heap.size by omega)]at h1
 exact(n.block b (Array.getElem?_eq_some_iff.1 h1).1).trans (h b hb)
theorem b_each1 (cl cb ht ri ru wd dp x0 z0 x1 z1:Int) (T:Int→Bool) (n:Int) (hn:0≤n∧n≤16)
  (hC:∀ W,Calls Tryz.prog 207 #[.agg #[.int .i64 cl,.int .i64 cb,.int .i64 ht,.int .i64 ri,.int .i64 ru,.int .i64 wd,.int .i64 dp]] W fun e w'=>e=.returned (.int .i64 n)∧New W w')
  (hT:∀ k W,Nowhere W→Calls Tryz.prog 208 #[.agg #[.int .i64 cl,.int .i64 cb,.int .i64 ht,.int .i64 ri,.int .i64 ru,.int .i64 wd,.int .i64 dp],.int .i64 k,.int .i64 x0,.int .i64 z0,.int .i64 x1,.int .i64 z1] W fun e w'=>e=.returned (.bool (T k))∧New W w')
  (N l B Bc:Nat) (hN:1≤N) (J Jx:List Int→World→Prop)
  (hY:∀ (pre:List Int) (t:Int) W,J pre W→pre.length<17→YieldAt Fence.wide (N - 1) Tryz.prog l #[.int .i64 t] W fun e W' =>
   (e=.returned (.bool true)∧J (pre++[t]) W'∧∀ b,b<B→W'.heap[b]? = W.heap[b]?)∨(e=.returned (.bool false)∧Jx (pre++[t]) W'))
  (W:World) (hJ:∀ pre W1 W2,J pre W1→New W1 W2→J pre W2) (hl:Nowhere W) (hB:Bc+1+1+1+1<B) (hBW:B≤W.heap.size) (hB0:0<B)
  (c0:W.cell? ⟨Bc,0,none⟩=some (.int .i64 cl)) (c1:W.cell? ⟨Bc,1,none⟩=some (.int .i64 cb)) (c2:W.cell? ⟨Bc,2,none⟩=some (.int .i64 ht)) (c3:W.cell? ⟨Bc,3,none⟩=some (.int .i64 ri)) (c4:W.cell? ⟨Bc,4,none⟩=some (.int .i64 ru)) (c5:W.cell? ⟨Bc,5,none⟩=some (.int .i64 wd)) (c6:W.cell? ⟨Bc,6,none⟩=some (.int .i64 dp))
  (d0:W.cell? ⟨Bc+1,0,none⟩=some (.int .i64 x0)) (d1:W.cell? ⟨Bc+1+1,0,none⟩=some (.int .i64 z0)) (d2:W.cell? ⟨Bc+1+1+1,0,none⟩=some (.int .i64 x1)) (d3:W.cell? ⟨Bc+1+1+1+1,0,none⟩=some (.int .i64 z1))
  (h0:J [] W) :
  CallsIn Fence.wide N Tryz.prog 206 #[.func (.yield l) #[] #[],.pointer (some ⟨Bc,0,none⟩),.pointer (some ⟨Bc+1,0,none⟩),.pointer (some ⟨Bc+1+1,0,none⟩),.pointer (some ⟨Bc+1+1+1,0,none⟩),.pointer (some ⟨Bc+1+1+1+1,0,none⟩)] W fun e W'=>(∃ v,e=.returned v) ∧
   ((∃ ys,ys=upTo T n.toNat∧J ys W')∨(∃ pre:List Int,pre <+: upTo T n.toNat∧Jx pre W')):=by
 have CC:=Lib.hid hC
 have TT:=Lib.hid hT
 have YY:=Lib.hid hY
 clear hC hT hY
 refine callsIn_of_wp Tryz.func206 rfl trivial ?_ rfl
 simp only[Tryz.ntmps206,List.size_toArray,List.length_cons,List.length_nil,Nat.reduceAdd,Nat.reduceSub,Array.replicate_succ,Array.replicate_zero,List.push_toArray,List.append_toArray,List.nil_append,List.cons_append]
 gi_wp2_with (refine⟨trivial,?_⟩;gi_at_call 207;refine(callsIn_wide.2 (CC.out _)).mono ?_;rintro e w1 ⟨rfl,n1⟩)
 have HK0:=keeps_new (W:=W) (w:=W) (fun b _=>rfl) hBW n1
 have HJ0:Hid (J [] w1):=hJ _ _ _ h0 n1
 clear h0 CC n1
 gi_loopw [10] (fun v wr=>∃ m:Nat,v=.int .i64 m∧(m:Int)≤n∧Hid (J (upTo T m) wr)∧Hid (∀ b,b<B→wr.heap[b]? = W.heap[b]?))
  (fun v _=>n.toNat - (numOf v).toNat)
 case atStart=>exact⟨0,rfl,hn.1,HJ0,HK0⟩
 case round =>
  clear HJ0 HK0
  obtain⟨m,rfl,hm,hJ1,hK⟩:=hrel
  by_cases hlt:(m:Int)<n
  ·have bl:decide ((m:Int)<n)=true:=decide_eq_true hlt
   have hk:=hK.out
   replace c0:=(World.cell?_of_block (a:=⟨Bc,0,none⟩) (hk Bc (by omega))).trans c0
   replace c1:=(World.cell?_of_block (a:=⟨Bc,1,none⟩) (hk Bc (by omega))).trans c1
   replace c2:=(World.cell?_of_block (a:=⟨Bc,2,none⟩) (hk Bc (by omega))).trans c2
   replace c3:=(World.cell?_of_block (a:=⟨Bc,3,none⟩) (hk Bc (by omega))).trans c3
   replace c4:=(World.cell?_of_block (a:=⟨Bc,4,none⟩) (hk Bc (by omega))).trans c4
   replace c5:=(World.cell?_of_block (a:=⟨Bc,5,none⟩) (hk Bc (by omega))).trans c5
   replace c6:=(World.cell?_of_block (a:=⟨Bc,6,none⟩) (hk Bc (by omega))).trans c6
   replace d0:=(World.cell?_of_block (a:=⟨Bc+1,0,none⟩) (hk (Bc+1) (by omega))).trans d0
   replace d1:=(World.cell?_of_block (a:=⟨Bc+1+1,0,none⟩) (hk (Bc+1+1) (by omega))).trans d1
   replace d2:=(World.cell?_of_block (a:=⟨Bc+1+1+1,0,none⟩) (hk (Bc+1+1+1) (by omega))).trans d2
   replace d3:=(World.cell?_of_block (a:=⟨Bc+1+1+1+1,0,none⟩) (hk (Bc+1+1+1+1) (by omega))).trans d3
   have l0:=(World.cell?_of_block (a:=⟨0,0,none⟩) (hk 0 hB0)).trans hl.c0
   have l1:=(World.cell?_of_block (a:=⟨0,1,none⟩) (hk 0 hB0)).trans hl.c1
   have l2:=(World.cell?_of_block (a:=⟨0,2,none⟩) (hk 0 hB0)).trans hl.c2
   have l3:=(World.cell?_of_block (a:=⟨0,3,none⟩) (hk 0 hB0)).trans hl.c3
   have HL:=Lib.hid (Nowhere.mk l0 l1 l2 l3)
   clear hk l0 l1 l2 l3
   have hlen:(upTo T m).length<17:=by have:=upTo_len T m;omega
   have hs:=upTo_succ T m
   cases hT:T m with
   | false =>
    rw[hT]at hs
    have T1:=TT.out m
    rw[hT]at T1
    have U1:=Lib.hid T1
    have HS:=Lib.hid hs
    clear T1 hs hT TT
    gi_wp2_with (refine⟨trivial,?_⟩;gi_at_call 208;refine(callsIn_wide.2 (U1.out _ HL.out)).mono ?_;rintro e w2 ⟨rfl,n2⟩)
    refine⟨fun _ h=>(by cases h),?_⟩
    gi_wp2
    go_roundw
    case rel=>exact⟨m+1,by go_num,by omega,by show J _ _;rw[HS.out];simpa using hJ _ _ _ hJ1.out n2,keeps_new hK.out hBW n2⟩
    case measure=>simp[numOf];omega
   | true =>
    rw[hT]at hs
    have T1:=TT.out m
    rw[hT]at T1
    have U1:=Lib.hid T1
    have HS:=Lib.hid hs
    clear T1 hs hT TT
    gi_wp2_with (refine⟨trivial,?_⟩;gi_at_call 208;refine(callsIn_wide.2 (U1.out _ HL.out)).mono ?_;rintro e w2 ⟨rfl,n2⟩;(obtain⟨fn,tmps,assign,body,hy,hR⟩:=YY.out (upTo T m) m w2 (hJ _ _ _ hJ1.out n2) hlen))
    refine hR.mono ?_
    have hk2:=keeps_new hK.out hBW n2
    have HK2:=Lib.hid hk2
    clear hk2 hy hR YY c0 c1 c2 c3 c4 c5 c6 d0 d1 d2 d3
    rintro e W5 (⟨rfl,hJ5,hk5⟩|⟨rfl,hJx5⟩)
    ·have HJ5:=Lib.hid hJ5
     have HK5:=Lib.hid hk5
     clear hJ5 hk5
     gi_wp2
     go_roundw
     case rel=>exact⟨m+1,by go_num,by omega,by rw[HS.out];exact HJ5.out,fun b hb=>(HK5.out b hb).trans (HK2.out b hb)⟩
     case measure=>simp[numOf];omega
    ·gi_wp2
     refine bodyPost_ret (results_none rfl _ _ _) rfl ?_
     exact⟨⟨_,rfl⟩,.inr ⟨_,by rw[show upTo T m++[(m:Int)]=upTo T (m+1)from HS.out.symm];exact upTo_prefix T (by omega),hJx5⟩⟩
  ·have bl:decide ((m:Int)<n)=false:=decide_eq_false hlt
   have em:m=n.toNat:=by omega
   have E:=Lib.hid em
   clear em
   gi_wp2_with fail
   go_end0
   exact⟨⟨_,rfl⟩,.inl (by rw[←E.out];exact hJ1.out)⟩
structure EachAt (w:World) (Bc:Nat) (cl cb ht ri ru wd dp x0 z0 x1 z1:Int):Prop where
 c0:w.cell? ⟨Bc,0,none⟩=some (.int .i64 cl)
 c1:w.cell? ⟨Bc,1,none⟩=some (.int .i64 cb)
 c2:w.cell? ⟨Bc,2,none⟩=some (.int .i64 ht)
 c3:w.cell? ⟨Bc,3,none⟩=some (.int .i64 ri)
 c4:w.cell? ⟨Bc,4,none⟩=some (.int .i64 ru)
 c5:w.cell? ⟨Bc,5,none⟩=some (.int .i64 wd)
 c6:w.cell? ⟨Bc,6,none⟩=some (.int .i64 dp)
 d0:w.cell? ⟨Bc+1,0,none⟩=some (.int .i64 x0)
 d1:w.cell? ⟨Bc+1+1,0,none⟩=some (.int .i64 z0)
 d2:w.cell? ⟨Bc+1+1+1,0,none⟩=some (.int .i64 x1)
 d3:w.cell? ⟨Bc+1+1+1+1,0,none⟩=some (.int .i64 z1)
theorem EachAt.new {w w':World} {Bc:Nat} {cl cb ht ri ru wd dp x0 z0 x1 z1:Int} (h:EachAt w Bc cl cb ht ri ru wd dp x0 z0 x1 z1) (n:New w w'):EachAt w' Bc cl cb ht ri ru wd dp x0 z0 x1 z1 :=
 ⟨n.keep h.c0,n.keep h.c1,n.keep h.c2,n.keep h.c3,n.keep h.c4,n.keep h.c5,n.keep h.c6,n.keep h.d0,n.keep h.d1,n.keep h.d2,n.keep h.d3⟩
def seqV (Bc:Nat):Value:=.func (.func 206) #[] #[.pointer (some ⟨Bc,0,none⟩),.pointer (some ⟨Bc+1,0,none⟩),.pointer (some ⟨Bc+1+1,0,none⟩),.pointer (some ⟨Bc+1+1+1,0,none⟩),.pointer (some ⟨Bc+1+1+1+1,0,none⟩)]
theorem bEach_any (cl cb ht ri ru wd dp x0 z0 x1 z1:Int) (w:World) :
  Calls Tryz.prog 171 #[.agg #[.int .i64 cl,.int .i64 cb,.int .i64 ht,.int .i64 ri,.int .i64 ru,.int .i64 wd,.int .i64 dp],.int .i64 x0,.int .i64 z0,.int .i64 x1,.int .i64 z1] w fun e w' =>
   ∃ Bc,e=.returned (seqV Bc)∧EachAt w' Bc cl cb ht ri ru wd dp x0 z0 x1 z1∧w.heap.size≤Bc∧Bc+1+1+1+1<w'.heap.size∧New w w':=by
 refine(b_each cl cb ht ri ru wd dp x0 z0 x1 z1 w).mono ?_
 rintro e w' ⟨rfl,hw⟩
 have hn:New w w':=by subst hw;exact nw
 have hE:EachAt w' w.heap.size cl cb ht ri ru wd dp x0 z0 x1 z1:=by
  subst hw
  exact⟨by go_simp,by go_simp,by go_simp,by go_simp,by go_simp,by go_simp,by go_simp,by go_simp,by go_simp,by go_simp,by go_simp⟩
 exact⟨w.heap.size,rfl,hE,Nat.le_refl _,World.block_lt_of_cell? _ _ hE.d3,hn⟩
theorem b_stops (cl cb ht ri ru wd dp x0 z0 x1 z1:Int) (N:Nat) (hN:1≤N) (Bc B:Nat) (w:World) (hE:EachAt w Bc cl cb ht ri ru wd dp x0 z0 x1 z1) (hl:Nowhere w) (hB:Bc+1+1+1+1<B) (hBw:B≤w.heap.size) :
  SeqStopsK Fence.wide N Tryz.prog 206 #[.pointer (some ⟨Bc,0,none⟩),.pointer (some ⟨Bc+1,0,none⟩),.pointer (some ⟨Bc+1+1,0,none⟩),.pointer (some ⟨Bc+1+1+1,0,none⟩),.pointer (some ⟨Bc+1+1+1+1,0,none⟩)] (fun t:Int=>#[.int .i64 t]) (fun W W'=>∀ b,b<B→W'.heap[b]? = W.heap[b]?)
   (fun ys=>ys=tilesL cl cb ht ri ru wd dp x0 z0 x1 z1) (fun pre=>pre <+: tilesL cl cb ht ri ru wd dp x0 z0 x1 z1) 17 w:=by
 intro l J Jx W hW hJ _ hY h0
 have n:New w W:=hW
 have h:=hE.new n
 exact b_each1 cl cb ht ri ru wd dp x0 z0 x1 z1 (fun k=>touchB cl cb ht ri ru wd dp k x0 z0 x1 z1) (countN cl cb ht ri ru wd dp) (count_bd _ _ _ _ _ _ _) (fun W=>Count_any cl cb ht ri ru wd dp W) (fun k W hl=>Touch_any cl cb ht ri ru wd dp k x0 z0 x1 z1 W hl)
  N l B Bc hN J Jx hY W (fun pre W1 W2 hj hn=>hJ pre W1 W2 none hj ⟨hn.os,hn.tape,hn.output,hn.size,fun k hk _=>hn.block k hk⟩ (fun r e=>by cases e)) (hl.new n) hB (Nat.le_trans hBw n.size) (by omega)
  h.c0 h.c1 h.c2 h.c3 h.c4 h.c5 h.c6 h.d0 h.d1 h.d2 h.d3 h0
end Go.Proofs.YtmhghnbgllaihaaGreatDoor

namespace Go.Proofs.YtmhghnbgllaihaaGreatDoor
open Go.RowKit Go.Shelf
attribute [local go_sem] Oper.semAt_some
theorem own_put {W:World} {base size n D:Nat} {e:TypeId} {v:Value} {xs:List Value} {o:Obj} (h:W.ownsRow base e size v n xs) (hD:W.heap[D]? = some (.deferred (some []))):(W.putObj D o).ownsRow base e size v n xs:=by
 obtain⟨h1,h2⟩:=h
 refine⟨h1,h2.imp id ?_⟩
 rintro⟨g,cap,cur,rfl,hb,hg,r⟩
 have hne:g≠D:=fun e=>by subst e;rw[hg]at hD;cases hD
 exact⟨g,cap,cur,rfl,hb,(World.putObj_heap_other hne).trans hg,r⟩
theorem bn_list (cl cb ht ri ru wd dp x0 z0 x1 z1:Int) (Bc:Nat) (w:World) (hE:EachAt w Bc cl cb ht ri ru wd dp x0 z0 x1 z1) (hl:Nowhere w) :
  CallsIn Fence.wide 5 Tryz.prog 170 #[seqV Bc] w fun e w' =>
   ∃ v,e=.returned v∧w'.ownsRow w.heap.size 3 1 v (tilesL cl cb ht ri ru wd dp x0 z0 x1 z1).length ((tilesL cl cb ht ri ru wd dp x0 z0 x1 z1).flatMap iE)∧New w w':=by
 obtain⟨i0,hi,hz0,hz1,hz2⟩:=info_parts int_info
 unfold seqV
 refine callsIn_of_wp_marks Tryz.func170 rfl trivial ?_ rfl
 simp only[Tryz.ntmps170,List.size_toArray,List.length_cons,List.length_nil,Nat.reduceAdd,Nat.reduceSub,Array.replicate_succ,Array.replicate_zero,List.push_toArray,List.append_toArray,List.nil_append,List.cons_append]
 gi_wp2_with fail
 obtain⟨W0,hW0⟩:∃ W0,W0=w.alloc (.cells #[.slice none 0 0] 41):=⟨_,rfl⟩
 have hs0:W0.heap.size=w.heap.size+1:=by subst hW0;simp
 have bO:Boxed W0 w.heap.size 41 (.slice none 0 0):=by subst hW0;exact Boxed.new w _ _
 have hn0:Below w.heap.size w W0:=by subst hW0;exact(Below.refl _ w).alloc (Nat.le_refl _) _
 have hn:New w W0:=hn0
 rw[←hW0]
 clear hW0
 have hBc:Bc+1+1+1+1<w.heap.size:=World.block_lt_of_cell? _ _ hE.d3
 refine wpIn_rangeFunc_ownH rfl (by omega) (gf:=206) (lb:=#[.pointer (some ⟨Bc,0,none⟩),.pointer (some ⟨Bc+1,0,none⟩),.pointer (some ⟨Bc+1+1,0,none⟩),.pointer (some ⟨Bc+1+1+1,0,none⟩),.pointer (some ⟨Bc+1+1+1+1,0,none⟩)]) rfl trivial (enters_of Tryz.func206 (by kernel_rfl) rfl)
  (b_stops cl cb ht ri ru wd dp x0 z0 x1 z1 4 (by omega) Bc w.heap.size W0 (hE.new hn) (hl.new hn) hBc (by omega))
  (fun h k=>fun b hb=>(k b hb).trans (h b hb)) (fun W l o o' hl _ _ _=>fun b hb=>World.putObj_heap_other (by omega)) (Below.refl _ _) (fun _=>rfl)
  (fun pre W=>(∃ v,Boxed W w.heap.size 41 v∧W.ownsRow w.heap.size 3 1 v pre.length (pre.flatMap iE)∧True)∧Below w.heap.size w W)
  (fun _ _ _=>False)
  (OwnFrom.and (Own.from (holdsRow_own w.heap.size w.heap.size 41 3 1 (fun(pre:List Int)=>pre.length) (fun(pre:List Int)=>pre.flatMap iE) (fun _ _=>True)) _) (ownFrom_below (Nat.le_refl _) (by omega)))
  (fun _ _ _ _ _ hs _ _=>hs)
  ⟨⟨_,bO,World.ownsRow_nil _ _ _ _,trivial⟩,hn0⟩
  (fun t a' _=>a'={ tmps:=#[.func (.func 206) #[] #[.pointer (some ⟨Bc,0,none⟩),.pointer (some ⟨Bc+1,0,none⟩),.pointer (some ⟨Bc+1+1,0,none⟩),.pointer (some ⟨Bc+1+1+1,0,none⟩),.pointer (some ⟨Bc+1+1+1+1,0,none⟩)],undef,.slice none 0 0,.pointer (some ⟨w.heap.size,0,none⟩),.int .i64 t,.func (.func 206) #[] #[.pointer (some ⟨Bc,0,none⟩),.pointer (some ⟨Bc+1,0,none⟩),.pointer (some ⟨Bc+1+1,0,none⟩),.pointer (some ⟨Bc+1+1+1,0,none⟩),.pointer (some ⟨Bc+1+1+1+1,0,none⟩)],.int .i64 t,undef,undef,undef,undef,undef],defers:=[] })
  (fun _ _ _ _ _ _ hs _ _=>hs) ?assign ?body ?done ?stop
 case assign =>
  intro l pre t W K hi' hK
  simp only[List.zip_toArray,List.zip_cons_cons,List.zip_nil_right,List.foldl_toArray',List.foldl_cons,List.foldl_nil,List.setIfInBounds_toArray,List.set_cons_succ,List.set_cons_zero,List.size_toArray,List.length_cons,List.length_nil]
  gi_wp2
  exact hK _ _ ((KeepsOthers.refl _).from _) (fun _ _=>rfl) hi' rfl
 case body =>
  rintro l pre t a' W hl' ⟨r,hr⟩ ⟨⟨v,hv,hrow,_⟩,hB⟩ rfl hlt
  have hc:=hv.cell
  have hBs:=hB.size
  gi_wp2_with (gi_at_builtin;refine wpListIn_append_own _ rfl _ _ 41 rfl w.heap.size 3 i0 (.int .i64 0) 1 8 Tryz.underlying41 hi hz0 hz1 hz2 rfl (by decide) _ _ _ rfl (hrow.alloc _) ⟨W.heap.size,0,none⟩ 1 1 (iE t) rfl rfl (cells_int _ _ _) (by intro u hu;simp at hu;subst hu;rfl) (by unfold maxLen;omega) (by omega) (by simp;omega) ?_;intro v' w1 hown' hgrow _;obtain⟨g',cap',rfl⟩:=ownsRow_succ hown';obtain⟨hv1,hv2,hr2,hk2,hb2⟩:=hv.appended (by decide) hrow hB.size (Nat.le_refl _) hown' hgrow;have hc1:=hv1.cell;have hf1:=hv1.frozen)
  refine⟨hk2.from _,fun b hb=>?_,⟨_,hv2,by rw[List.flatMap_append,List.length_append];simpa using hr2,trivial⟩,hB.trans hb2⟩
  exact hb2.block b hb
 case done =>
  rintro D ys W hD rfl ⟨⟨v,hv,hrow,_⟩,hB⟩ hK
  have hc:=hv.cell
  gi_wp2_with fail
  refine⟨by simp,.inl ⟨_,_,rfl,run_takeDeferred hK,?_⟩⟩
  exact⟨_,results_tmp rfl _ _ _,v,rfl,own_put hrow hK,Go.RowKit.Below.trans hB (belowK_b (w:=w) (Nat.le_refl _) W D _ _ (by omega) hK rfl rfl)⟩
 case stop =>
  rintro D c pre W _ _ h _
  exact h.elim
theorem bList_any (cl cb ht ri ru wd dp x0 z0 x1 z1:Int) (Bc:Nat) (w:World) (hE:EachAt w Bc cl cb ht ri ru wd dp x0 z0 x1 z1) (hl:Nowhere w) :
  Calls Tryz.prog 170 #[seqV Bc] w fun e w' =>
   ∃ v,e=.returned v∧w'.ownsRow w.heap.size 3 1 v (tilesL cl cb ht ri ru wd dp x0 z0 x1 z1).length ((tilesL cl cb ht ri ru wd dp x0 z0 x1 z1).flatMap iE)∧New w w' :=
 (callsIn_wide (n:=5)).1 (bn_list cl cb ht ri ru wd dp x0 z0 x1 z1 Bc w hE hl)
def ListPost (c:Int) (l:List Int) (w:World) (e:Ending) (w':World):Prop :=
 ∃ v,e=.returned (.tuple #[v,.int .i64 c])∧Sl iE 1 w' v l∧New w w'
end Go.Proofs.YtmhghnbgllaihaaGreatDoor

namespace Go.Proofs.YtmhghnbgllaihaaGreatDoor
open Go.RowKit
def boxE (C:CfgR) (X:BoxR):Int:=if C.err≠0 then 20 else if X.may C=true then 0 else 2
def boxesL (C:CfgR) (X:BoxR):List Int:=if boxE C X=0 then tilesL C.cl C.cb C.ht C.ri C.ru C.wd C.dp X.x0 X.z0 X.x1 X.z1 else []
theorem one_listB (C:CfgR) (X:BoxR):BoxR.listB C [X]=X.may C:=by
 unfold BoxR.listB
 have h:(List.range [X].length)=[0]:=rfl
 rw[h,List.all_cons,List.all_nil,BoxR.okAt_zero C [X] (by simp)]
 simp
def boxV1 (b:Nat) (X:BoxR):SoupV:=⟨[],[X],[],none,some ⟨b,0,none⟩,none,0,1,0⟩
theorem one_err (C:CfgR) (X:BoxR) (b:Nat):(boxV1 b X).err C=boxE C X:=by
 unfold SoupV.err boxE
 have e1:TriR.listB C (boxV1 b X).ts=true:=rfl
 have e2:BoxR.listB C (boxV1 b X).bs=X.may C:=one_listB C X
 have e3:HopR.listB C (boxV1 b X).hs=true:=rfl
 rw[e1,e2,e3]
 simp
theorem one_ok (X:BoxR) {b:Nat} {W:World} (h:CellsAt W b 0 X.enc):(boxV1 b X).ok W :=
 ⟨Sl.nil,⟨some ⟨b,0,none⟩,1,rfl,Nat.le_refl _,by decide,fun e=>(by cases e),fun _=>⟨b,0,rfl,fun j hj=>by
  obtain rfl:j=0:=by have:j<1:=hj;omega
  rw[Nat.zero_mul];exact h⟩⟩,Sl.nil⟩
theorem bBoxes_any (C:CfgR) (X:BoxR) (w:World) (hl:Nowhere w) :
  Calls Tryz.prog 137 #[.agg #[.int .i64 C.cl,.int .i64 C.cb,.int .i64 C.ht,.int .i64 C.ri,.int .i64 C.ru,.int .i64 C.wd,.int .i64 C.dp],.agg #[.int .i64 X.i,.int .i64 X.x0,.int .i64 X.z0,.int .i64 X.x1,.int .i64 X.z1,.int .i64 X.y0,.int .i64 X.y1,.int .i64 X.ar]] w (ListPost (boxE C X) (boxesL C X) w):=by
 have KC:=Lib.hid (fun b W h=>s_check C (boxV1 b X) W h)
 simp only[one_err]at KC
 unfold boxesL
 have HX:=Lib.hid (fun b W h=>one_ok (b:=b) (W:=W) X h)
 generalize boxE C X=c at *
 by_cases h0:c=0
 rotate_left
 ·rw[if_neg h0]
  have hne:(c != 0)=true:=by simpa using h0
  clear h0
  go_enter Tryz.func137,Tryz.ntmps137
  go_wp2_with fail
  obtain⟨W,hW⟩:∃ W,W=((w.alloc (.cells C.enc.toArray 23)).alloc (.cells X.enc.toArray 66)).alloc (.cells X.enc.toArray 66):=⟨_,rfl⟩
  have hn:New w W:=by subst hW;exact nw
  have hx:CellsAt W (w.heap.size+1+1) 0 X.enc:=by
   subst hW
   have:=cells_new ((w.alloc (.cells C.enc.toArray 23)).alloc (.cells X.enc.toArray 66)) X.enc.toArray 66
   simpa using this
  simp only[CfgR.enc,BoxR.enc]at hW
  rw[←hW]
  clear hW
  refine(KC.out _ _ (HX.out _ _ hx)).mono ?_
  rintro e w1 ⟨rfl,n1⟩
  replace hn:=hn.trans n1
  go_wp2_with fail
  go_ret2
  exact⟨_,rfl,Sl.nil,hn⟩
 ·subst h0
  rw[if_pos rfl]
  go_enter Tryz.func137,Tryz.ntmps137
  go_wp2_with fail
  obtain⟨W,hW⟩:∃ W,W=((w.alloc (.cells C.enc.toArray 23)).alloc (.cells X.enc.toArray 66)).alloc (.cells X.enc.toArray 66):=⟨_,rfl⟩
  have hn:New w W:=by subst hW;exact nw
  have hx:CellsAt W (w.heap.size+1+1) 0 X.enc:=by
   subst hW
   have:=cells_new ((w.alloc (.cells C.enc.toArray 23)).alloc (.cells X.enc.toArray 66)) X.enc.toArray 66
   simpa using this
  simp only[CfgR.enc,BoxR.enc]at hW
  ((have c0:W.cell? ⟨w.heap.size,0,none⟩=some (.int .i64 C.cl):=(by subst hW;go_simp));(have c1:W.cell? ⟨w.heap.size,1,none⟩=some (.int .i64 C.cb):=(by subst hW;go_simp));(have c2:W.cell? ⟨w.heap.size,2,none⟩=some (.int .i64 C.ht):=(by subst hW;go_simp));(have c3:W.cell? ⟨w.heap.size,3,none⟩=some (.int .i64 C.ri):=(by subst hW;go_simp));(have c4:W.cell? ⟨w.heap.size,4,none⟩=some (.int .i64 C.ru):=(by subst hW;go_simp));(have c5:W.cell? ⟨w.heap.size,5,none⟩=some (.int .i64 C.wd):=(by subst hW;go_simp));(have c6:W.cell? ⟨w.heap.size,6,none⟩=some (.int .i64 C.dp):=(by subst hW;go_simp)))
  have d1:W.cell? ⟨w.heap.size+1,1,none⟩=some (.int .i64 X.x0):=by subst hW;go_simp
  have d2:W.cell? ⟨w.heap.size+1,2,none⟩=some (.int .i64 X.z0):=by subst hW;go_simp
  have d3:W.cell? ⟨w.heap.size+1,3,none⟩=some (.int .i64 X.x1):=by subst hW;go_simp
  have d4:W.cell? ⟨w.heap.size+1,4,none⟩=some (.int .i64 X.z1):=by subst hW;go_simp
  rw[←hW]
  clear hW
  refine(KC.out _ _ (HX.out _ _ hx)).mono ?_
  rintro e w1 ⟨rfl,n1⟩
  ((replace c0:=New.keep n1 c0);(replace c1:=New.keep n1 c1);(replace c2:=New.keep n1 c2);(replace c3:=New.keep n1 c3);(replace c4:=New.keep n1 c4);(replace c5:=New.keep n1 c5);(replace c6:=New.keep n1 c6))
  replace d1:=New.keep n1 d1
  replace d2:=New.keep n1 d2
  replace d3:=New.keep n1 d3
  replace d4:=New.keep n1 d4
  replace hn:=hn.trans n1
  clear n1 hx HX KC
  go_wp2_with fail
  refine(bEach_any C.cl C.cb C.ht C.ri C.ru C.wd C.dp X.x0 X.z0 X.x1 X.z1 w1).mono ?_
  rintro e w3 ⟨Bc,rfl,hE,-,-,n3⟩
  replace hn:=hn.trans n3
  clear c0 c1 c2 c3 c4 c5 c6 d1 d2 d3 d4
  unfold seqV
  go_wp2_with fail
  refine(bList_any C.cl C.cb C.ht C.ri C.ru C.wd C.dp X.x0 X.z0 X.x1 X.z1 Bc w3 hE (hl.new hn)).mono ?_
  rintro e w4 ⟨v,rfl,hrow,n4⟩
  go_wp2_with fail
  go_ret2
  exact⟨_,rfl,own_sl iE_len hrow,hn.trans n4⟩
end Go.Proofs.YtmhghnbgllaihaaGreatDoor

namespace Go.Proofs.YtmhghnbgllaihaaGreatDoor
open Go.ChangeShapes Go.WideShapes Go.ChangeAt Go.RowKit
abbrev laidBoth:List (String×DataW Unit):=[("footpath/links.directions",Rows.laid_footpath_links_directions),("footpath/bins.nowhere",Rows.laid_footpath_bins_nowhere)]
theorem door_met_bo (os:Os) (args:Array Value):laidMetH Tryz.prog laidBoth ((World.doorLaid Tryz.prog 400 os).forCall (fun _ _=>0) ⟨#[],args,[]⟩).memory :=
 laidMetH_of_parts3 (fuel:=8) (laidMet_of_run' 8 (by kernel_rfl) (by kernel_rfl)) (by kernel_rfl) (by kernel_rfl)
structure Laid2 (w:World):Prop where
 d:Dirs w
 n:Nowhere w
theorem of_laid_bo {W:World} (h:laidMetH Tryz.prog laidBoth W):Laid2 W:=by
 rw[MakeChecks.laidMetH_plain _ _ _ (by kernel_rfl)]at h
 obtain⟨ps,h1,h2,h3⟩:=h
 obtain⟨g,t,cs,fuel,p,q,a1,a2,a3,a4,a5,rfl⟩:=h1
 refine⟨of_laid_di ?_,of_laid ?_⟩
 ·rw[MakeChecks.laidMetH_plain _ _ _ (by kernel_rfl)]
  refine⟨MemPlace.row ⟨g,0,none⟩ cs.size++p++[],⟨g,t,cs,fuel,p,[],a1,a2,a3,a4,rfl,rfl⟩,?_,fun b off hb=>h3 b off ?_⟩
  ·rw[List.append_nil]
   exact(List.nodup_append.1 h2).1
  ·rw[List.append_nil]at hb
   exact List.mem_append_left _ hb
 ·rw[MakeChecks.laidMetH_plain _ _ _ (by kernel_rfl)]
  exact⟨q,a5,(List.nodup_append.1 h2).2.1,fun b off hb=>h3 b off (List.mem_append_right _ hb)⟩
end Go.Proofs.YtmhghnbgllaihaaGreatDoor

namespace Go.Proofs.YtmhghnbgllaihaaGreatDoor
open Go.ChangeShapes Go.WideShapes Go.RowKit Go.Deep
theorem open_cfg13 {H:Type} {enc:TypeId×Value→H} {w:World} {base:Nat} {spare:Nat→Bool} {held:Bool} {r:Reach} {b0:Nat} {v:Value} {d:DataW H} {p:List MemPlace} (hv:Value.okWide Tryz.prog w r b0 23 v) (h:DataW.Trod enc Tryz.prog w base spare held 23 v d p):∃ C:CfgR,v=.agg #[.int .i64 C.cl,.int .i64 C.cb,.int .i64 C.ht,.int .i64 C.ri,.int .i64 C.ru,.int .i64 C.wd,.int .i64 C.dp]:=by
 obtain⟨cs,rfl,hc⟩:=open_flat Tryz.underlying23 64 (ks:=[.num .i64,.num .i64,.num .i64,.num .i64,.num .i64,.num .i64,.num .i64]) (by kernel_rfl) hv h
 obtain⟨cl,cb,ht,ri,ru,wd,dp,rfl⟩:=fits7 hc
 exact⟨⟨cl,cb,ht,ri,ru,wd,dp⟩,rfl⟩
end Go.Proofs.YtmhghnbgllaihaaGreatDoor

namespace Go.Proofs.YtmhghnbgllaihaaGreatDoor
open Go.RowKit
theorem fits10 {k:IntKind} {cs:Array Value} (h:Fits [.num k,.num k,.num k,.num k,.num k,.num k,.num k,.num k,.num k,.num k] cs.toList) :
  ∃ i x0 y0 z0 x1 y1 z1 x2 y2 z2:Int,cs=#[.int k i,.int k x0,.int k y0,.int k z0,.int k x1,.int k y1,.int k z1,.int k x2,.int k y2,.int k z2]:=by
 obtain⟨l⟩:=cs
 obtain⟨_,_,e1,⟨a,rfl,_⟩,h⟩:=h.cons
 obtain⟨_,_,e2,⟨b,rfl,_⟩,h⟩:=h.cons
 obtain⟨_,_,e3,⟨c,rfl,_⟩,h⟩:=h.cons
 obtain⟨_,_,e4,⟨d,rfl,_⟩,h⟩:=h.cons
 obtain⟨_,_,e5,⟨e,rfl,_⟩,h⟩:=h.cons
 obtain⟨_,_,e6,⟨f,rfl,_⟩,h⟩:=h.cons
 obtain⟨_,_,e7,⟨g,rfl,_⟩,h⟩:=h.cons
 obtain⟨_,_,e8,⟨m,rfl,_⟩,h⟩:=h.cons
 obtain⟨_,_,e9,⟨n,rfl,_⟩,h⟩:=h.cons
 obtain⟨_,_,e10,⟨o,rfl,_⟩,h⟩:=h.cons
 have e11:=h.nil
 subst e11 e10 e9 e8 e7 e6 e5 e4 e3 e2
 exact⟨a,b,c,d,e,f,g,m,n,o,by rw[show l=_ from e1]⟩
end Go.Proofs.YtmhghnbgllaihaaGreatDoor

namespace Go.Proofs.YtmhghnbgllaihaaGreatDoor
open Go.ChangeShapes Go.WideShapes Go.RowKit Go.Deep
theorem tri_of (vs:List Value) (h:Fits [.num .i64,.num .i64,.num .i64,.num .i64,.num .i64,.num .i64,.num .i64,.num .i64,.num .i64,.num .i64] vs):∃ a:TriR,a.enc=vs:=by
 obtain⟨a0,a1,a2,a3,a4,a5,a6,a7,a8,a9,e⟩:=fits10 (cs:=vs.toArray) (by simpa using h)
 exact⟨⟨a0,a1,a2,a3,a4,a5,a6,a7,a8,a9⟩,by have:=congrArg Array.toList e;simpa [TriR.enc]using this.symm⟩
theorem box_of (vs:List Value) (h:Fits [.num .i64,.num .i64,.num .i64,.num .i64,.num .i64,.num .i64,.num .i64,.num .i64] vs):∃ a:BoxR,a.enc=vs:=by
 obtain⟨_,_,e0,⟨a0,rfl,_⟩,h0⟩:=h.cons
 obtain⟨_,_,e1,⟨a1,rfl,_⟩,h1⟩:=h0.cons
 obtain⟨_,_,e2,⟨a2,rfl,_⟩,h2⟩:=h1.cons
 obtain⟨_,_,e3,⟨a3,rfl,_⟩,h3⟩:=h2.cons
 obtain⟨_,_,e4,⟨a4,rfl,_⟩,h4⟩:=h3.cons
 obtain⟨_,_,e5,⟨a5,rfl,_⟩,h5⟩:=h4.cons
 obtain⟨_,_,e6,⟨a6,rfl,_⟩,h6⟩:=h5.cons
 obtain⟨_,_,e7,⟨a7,rfl,_⟩,h7⟩:=h6.cons
 have en:=h7.nil
 subst en
 subst e7
 subst e6
 subst e5
 subst e4
 subst e3
 subst e2
 subst e1
 subst e0
 exact⟨⟨a0,a1,a2,a3,a4,a5,a6,a7⟩,rfl⟩
theorem hop_of (vs:List Value) (h:Fits [.num .i64,.num .i64,.num .i64,.num .i64,.num .i64,.num .i64,.num .i64,.yes,.num .i64,.num .i64] vs):∃ a:HopR,a.enc=vs:=by
 obtain⟨_,_,e0,⟨a0,rfl,_⟩,h0⟩:=h.cons
 obtain⟨_,_,e1,⟨a1,rfl,_⟩,h1⟩:=h0.cons
 obtain⟨_,_,e2,⟨a2,rfl,_⟩,h2⟩:=h1.cons
 obtain⟨_,_,e3,⟨a3,rfl,_⟩,h3⟩:=h2.cons
 obtain⟨_,_,e4,⟨a4,rfl,_⟩,h4⟩:=h3.cons
 obtain⟨_,_,e5,⟨a5,rfl,_⟩,h5⟩:=h4.cons
 obtain⟨_,_,e6,⟨a6,rfl,_⟩,h6⟩:=h5.cons
 obtain⟨_,_,e7,⟨a7,rfl⟩,h7⟩:=h6.cons
 obtain⟨_,_,e8,⟨a8,rfl,_⟩,h8⟩:=h7.cons
 obtain⟨_,_,e9,⟨a9,rfl,_⟩,h9⟩:=h8.cons
 have en:=h9.nil
 subst en
 subst e9
 subst e8
 subst e7
 subst e6
 subst e5
 subst e4
 subst e3
 subst e2
 subst e1
 subst e0
 exact⟨⟨a0,a1,a2,a3,a4,a5,a6,a7,a8,a9⟩,rfl⟩
theorem open_soup {H:Type} {enc:TypeId×Value→H} {w:World} {base:Nat} {spare:Nat→Bool} {held:Bool} {r:Reach} {b0:Nat} {v:Value} {d:DataW H} {p:List MemPlace}
  (hv:Value.okWide Tryz.prog w r b0 28 v) (h:DataW.Trod enc Tryz.prog w base spare held 28 v d p):∃ S:SoupV,v=.agg #[.slice S.a0 S.ts.length S.c0,.slice S.a1 S.bs.length S.c1,.slice S.a2 S.hs.length S.c2]∧S.ok w:=by
 obtain⟨cs,rfl,_⟩:=okWide_struct Tryz.underlying28 hv
 obtain⟨fuel,hf⟩:=h
 obtain⟨xs,m',_,_,hlen,hxs,hi⟩:=DataW.trod_struct Tryz.underlying28 hf
 have hx3:xs.length=3:=hxs
 have h0:=hi 0 _ rfl
 have h1:=hi 1 _ rfl
 have h2:=hi 2 _ rfl
 rw[List.getElem?_eq_getElem (by omega)]at h0 h1 h2
 obtain⟨v0,ts,e0,s0⟩:=open_row TriR.enc 10 TriR.enc_len (by omega) Tryz.underlying24 (by kernel_rfl) (by kernel_rfl) tri_of h0
 obtain⟨v1,bs,e1,s1⟩:=open_row BoxR.enc 8 BoxR.enc_len (by omega) Tryz.underlying25 (by kernel_rfl) (by kernel_rfl) box_of h1
 obtain⟨v2,hs,e2,s2⟩:=open_row HopR.enc 10 HopR.enc_len (by omega) Tryz.underlying26 (by kernel_rfl) (by kernel_rfl) hop_of h2
 have c0:Tryz.prog.cellsOf 24=1:=by kernel_rfl
 have c1:Tryz.prog.cellsOf 25=1:=by kernel_rfl
 have c2:Tryz.prog.cellsOf 26=1:=by kernel_rfl
 have c3:Tryz.prog.cellsOf 28=3:=by kernel_rfl
 have hl:cs.toList.length=3:=by rw[←c3];exact hlen
 have f0:(cs.toList.drop 0).take 1=[v0]:=by rw[←c0];exact e0
 have f1:(cs.toList.drop 1).take 1=[v1]:=by rw[←c1];exact e1
 have f2:(cs.toList.drop 2).take 1=[v2]:=by rw[←c2];exact e2
 obtain⟨l⟩:=cs
 simp only at hl f0 f1 f2
 match l,hl with
 | [x,y,z],_ =>
  simp at f0 f1 f2
  subst f0 f1 f2
  obtain⟨a0,c0,rfl,q0⟩:=id s0
  obtain⟨a1,c1,rfl,q1⟩:=id s1
  obtain⟨a2,c2,rfl,q2⟩:=id s2
  exact⟨⟨ts,bs,hs,a0,a1,a2,c0,c1,c2⟩,rfl,s0,s1,s2⟩
end Go.Proofs.YtmhghnbgllaihaaGreatDoor
