import Derived.Test.YtmhghnbgllaihaaGreatDoorWholeIP1Z1
import Derived.Test.YtmhghnbgllaihaaGreatDoorWholeMP1Z1
import Derived.Test.YtmhghnbgllaihaaGreatDoorStoBP1Z1

namespace Go.Proofs.YtmhghnbgllaihaaGreatDoor
open Go.RowKit
set_option linter.unusedVariables false
def rowN (n:Int):Int:=(n - 1).tdiv 8+1
theorem rowN_bd {n:Int} (h:1≤n∧n≤32):1≤rowN n∧rowN n≤4:=by
  unfold rowN
  rw[Int.tdiv_eq_ediv_of_nonneg (by omega)];omega
theorem inRow_any (n:Int) (h:1≤n∧n≤32) (w:World) :
    Calls Tryz.prog 237 #[.int .i64 n] w fun e w'=>e=.returned (.int .i64 (rowN n))∧New w w':=by
  have hb:=rowN_bd h
  unfold rowN at hb
  go_enter Tryz.func237,Tryz.ntmps237
  go_wp2
  go_ret
  exact⟨rfl,New.refl _⟩
def lowS (k pad:Int):Int:=max (8*k - pad) 0
def highS (k n pad:Int):Int:=min (8*k+8 - 1+pad) (n - 1)
set_option maxHeartbeats 400000 in
theorem side_any (k n pad:Int) (hk:0≤k∧k≤100) (hn:1≤n∧n≤32) (hp:4≤pad∧pad≤7) (w:World) :
    Calls Tryz.prog 265 #[.int .i64 k,.int .i64 n,.int .i64 pad] w fun e w'=>e=.returned (.tuple #[.int .i64 (lowS k pad),.int .i64 (highS k n pad)])∧New w w':=by
  go_enter Tryz.func265,Tryz.ntmps265
  go_wp2
  refine bodyPost_ret (v:=.tuple #[.int .i64 (max (8*k - pad) 0),.int .i64 (min (8*k+8 - 1+pad) (n - 1))]) (by simp[results,Tryz.results265,go_sem, *]) rfl ?_
  exact⟨rfl,New.refl _⟩
theorem checkB_iff {cl cb ht ri ru wd dp:Int}:checkB cl cb ht ri ru wd dp=true↔(0≤cl∧cl≤3)∧(0≤cb∧cb≤8)∧(cb+1≤ht∧ht≤32)∧(0≤ri∧ri≤100)∧(1≤ru∧ru≤100)∧(1≤wd∧wd≤32)∧(1≤dp∧dp≤32):=by
  unfold checkB;simp only[Bool.and_eq_true,decide_eq_true_eq];omega
theorem checkE_zero {cl cb ht ri ru wd dp:Int} (h:checkB cl cb ht ri ru wd dp=true):checkE cl cb ht ri ru wd dp=0:=by unfold checkE;rw[h];rfl
theorem checkE_bad {cl cb ht ri ru wd dp:Int} (h:checkB cl cb ht ri ru wd dp=false):checkE cl cb ht ri ru wd dp=20:=by unfold checkE;rw[h];rfl
def countN (cl cb ht ri ru wd dp:Int):Int:=if checkB cl cb ht ri ru wd dp then rowN wd*rowN dp else 0
theorem count_bd (cl cb ht ri ru wd dp:Int):0≤countN cl cb ht ri ru wd dp∧countN cl cb ht ri ru wd dp≤16:=by
  unfold countN
  split
  · rename_i h
    have h:=checkB_iff.1 h
    have a:=rowN_bd h.2.2.2.2.2.1
    have b:=rowN_bd h.2.2.2.2.2.2
    constructor
    · exact Int.mul_nonneg (by omega) (by omega)
    · exact Int.le_trans (Int.mul_le_mul (b:=rowN dp) (c:=4) (d:=4) a.2 b.2 (by omega) (by omega)) (by omega)
  · omega
set_option maxHeartbeats 400000 in
theorem Count_any (cl cb ht ri ru wd dp:Int) (w:World) :
    Calls Tryz.prog 207 #[.agg #[.int .i64 cl,.int .i64 cb,.int .i64 ht,.int .i64 ri,.int .i64 ru,.int .i64 wd,.int .i64 dp]] w fun e w'=>e=.returned (.int .i64 (countN cl cb ht ri ru wd dp))∧New w w':=by
  cases hok:checkB cl cb ht ri ru wd dp with
  | false =>
    have e0:=checkE_bad hok
    have e1:countN cl cb ht ri ru wd dp=0:=by unfold countN;rw[hok];rfl
    rw[e1]
    have C0:∀ W,Calls Tryz.prog 30 #[.agg #[.int .i64 cl,.int .i64 cb,.int .i64 ht,.int .i64 ri,.int .i64 ru,.int .i64 wd,.int .i64 dp]] W fun e w'=>e=.returned (.int .i64 20)∧New W w':=fun W=>(check_any cl cb ht ri ru wd dp W).mono fun e w' h=>⟨by rw[h.1,e0],h.2.1⟩
    have CC:=Lib.hid C0
    clear C0
    clear hok e0 e1
    go_enter Tryz.func207,Tryz.ntmps207
    go_wp2_with fail
    refine(CC.out _).mono ?_
    rintro e w' ⟨rfl,n1⟩
    go_wp2_with fail
    go_ret
    exact⟨rfl,New.trans (by exact nw) n1⟩
  | true =>
    have e0:=checkE_zero hok
    have e1:countN cl cb ht ri ru wd dp=rowN wd*rowN dp:=by unfold countN;rw[hok];rfl
    have hb:=count_bd cl cb ht ri ru wd dp
    rw[e1]at hb
    rw[e1]
    have hk:=checkB_iff.1 hok
    have IW:=Lib.hid (fun W=>inRow_any wd hk.2.2.2.2.2.1 W)
    have ID:=Lib.hid (fun W=>inRow_any dp hk.2.2.2.2.2.2 W)
    have C0:∀ W,Calls Tryz.prog 30 #[.agg #[.int .i64 cl,.int .i64 cb,.int .i64 ht,.int .i64 ri,.int .i64 ru,.int .i64 wd,.int .i64 dp]] W fun e w'=>e=.returned (.int .i64 0)∧New W w':=fun W=>(check_any cl cb ht ri ru wd dp W).mono fun e w' h=>⟨by rw[h.1,e0],h.2.1⟩
    have CC:=Lib.hid C0
    clear C0
    clear hok e0 e1 hk
    go_enter Tryz.func207,Tryz.ntmps207
    go_wp2_with fail
    refine(CC.out _).mono ?_
    rintro e w1 ⟨rfl,n1⟩
    go_wp2_with fail
    have c5:w1.cell? ⟨w.heap.size,5,none⟩=some (.int .i64 wd):=n1.keep (by go_simp)
    have c6:w1.cell? ⟨w.heap.size,6,none⟩=some (.int .i64 dp):=n1.keep (by go_simp)
    replace n1:New w w1:=New.trans (by exact nw) n1
    (refine wp_region_hat (by kernel_rfl) (by kernel_rfl) ?_;intro hatc hatf;(repeat(go_big_quiet_step ((go_at_call 237;first|(with_reducible exact Calls.hat (IW.out _))|(with_reducible exact Calls.hat (ID.out _))))));refine wpQuiet_nil ?_;rintro _ ⟨x,rfl⟩)
    go_wp2_with fail
    go_ret
    exact⟨rfl,New.trans n1 x.h⟩
abbrev strV (x0 z0 x1 z1:Int):Value:=.agg #[.int .i64 x0,.int .i64 z0,.int .i64 x1,.int .i64 z1]
def padX0 (cl wd k:Int):Int:=lowS (k % rowN wd) (cl+4)
def padX1 (cl wd k:Int):Int:=highS (k % rowN wd) wd (cl+4)
def padZ0 (cl wd k:Int):Int:=lowS (k / rowN wd) (cl+4)
def padZ1 (cl wd dp k:Int):Int:=highS (k / rowN wd) dp (cl+4)
set_option maxHeartbeats 1000000 in
theorem padded_any (cl cb ht ri ru wd dp k:Int) (hok:checkB cl cb ht ri ru wd dp=true) (h0:0≤k∧k≤16) (w:World) :
    Calls Tryz.prog 239 #[.agg #[.int .i64 cl,.int .i64 cb,.int .i64 ht,.int .i64 ri,.int .i64 ru,.int .i64 wd,.int .i64 dp],.int .i64 k] w fun e w'=>e=.returned (strV (padX0 cl wd k) (padZ0 cl wd k) (padX1 cl wd k) (padZ1 cl wd dp k))∧New w w':=by
  have hk:=checkB_iff.1 hok
  have IW:=Lib.hid (fun W=>inRow_any wd hk.2.2.2.2.2.1 W)
  have hr:=rowN_bd hk.2.2.2.2.2.1
  have hz:rowN wd≠0:=by omega
  have hm:0≤k % rowN wd∧k % rowN wd≤4:=by
    have:=Int.emod_lt_of_pos k (b:=rowN wd) (by omega)
    have:=Int.emod_nonneg k hz
    omega
  have hd:0≤k / rowN wd∧k / rowN wd≤16 :=
    ⟨Int.ediv_nonneg (by omega) (by omega),Int.le_trans (Int.ediv_le_self _ (by omega)) (by omega)⟩
  have CX:=Lib.hid (fun W=>side_any (k % rowN wd) wd (cl+4) (by omega) hk.2.2.2.2.2.1 (by omega) W)
  have CZ:=Lib.hid (fun W=>side_any (k / rowN wd) dp (cl+4) (by omega) hk.2.2.2.2.2.2 (by omega) W)
  have hcl:0≤cl∧cl≤3:=hk.1
  unfold padX0 padX1 padZ0 padZ1
  clear hok hk
  go_enter Tryz.func239,Tryz.ntmps239
  go_wp2_with fail
  refine(IW.out _).mono ?_
  rintro e w1 ⟨rfl,n1⟩
  have c0:w1.cell? ⟨w.heap.size,0,none⟩=some (.int .i64 cl):=n1.keep (by go_simp)
  have c5:w1.cell? ⟨w.heap.size,5,none⟩=some (.int .i64 wd):=n1.keep (by go_simp)
  have c6:w1.cell? ⟨w.heap.size,6,none⟩=some (.int .i64 dp):=n1.keep (by go_simp)
  have d0:w1.cell? ⟨w.heap.size+1,0,none⟩=some (.int .i64 0):=n1.keep (by go_simp)
  have f0:w1.frozen? ⟨w.heap.size+1,0,none⟩=false:=n1.keepF (v:=.int .i64 0) (by go_simp) (by go_simp)
  have d1:w1.cell? ⟨w.heap.size+1,1,none⟩=some (.int .i64 0):=n1.keep (by go_simp)
  have f1:w1.frozen? ⟨w.heap.size+1,1,none⟩=false:=n1.keepF (v:=.int .i64 0) (by go_simp) (by go_simp)
  have d2:w1.cell? ⟨w.heap.size+1,2,none⟩=some (.int .i64 0):=n1.keep (by go_simp)
  have f2:w1.frozen? ⟨w.heap.size+1,2,none⟩=false:=n1.keepF (v:=.int .i64 0) (by go_simp) (by go_simp)
  have d3:w1.cell? ⟨w.heap.size+1,3,none⟩=some (.int .i64 0):=n1.keep (by go_simp)
  have f3:w1.frozen? ⟨w.heap.size+1,3,none⟩=false:=n1.keepF (v:=.int .i64 0) (by go_simp) (by go_simp)
  replace n1:New w w1:=New.trans (by exact nw) n1
  go_wp2_with fail
  (refine wp_region_hat (by kernel_rfl) (by kernel_rfl) ?_;intro hatc hatf;(repeat(go_big_quiet_step ((go_at_call 265;(with_reducible exact Calls.hat (CX.out _))))));refine wpQuiet_nil ?_;rintro _ ⟨x,rfl⟩)
  replace c0:=New.keep x.h c0
  replace c6:=New.keep x.h c6
  replace f0:=New.keepF x.h d0 f0
  replace d0:=New.keep x.h d0
  replace f1:=New.keepF x.h d1 f1
  replace d1:=New.keep x.h d1
  replace f2:=New.keepF x.h d2 f2
  replace d2:=New.keep x.h d2
  replace f3:=New.keepF x.h d3 f3
  replace d3:=New.keep x.h d3
  replace n1:=New.trans n1 x.h
  clear c5
  generalize x.w=w2 at *
  clear x
  go_wp2_with fail
  (refine wp_region_hat (by kernel_rfl) (by kernel_rfl) ?_;intro hatc hatf;(repeat(go_big_quiet_step ((go_at_call 265;(with_reducible exact Calls.hat (CZ.out _))))));refine wpQuiet_nil ?_;rintro _ ⟨x,rfl⟩)
  replace f0:=New.keepF x.h d0 f0
  replace d0:=New.keep x.h d0
  replace f1:=New.keepF x.h d1 f1
  replace d1:=New.keep x.h d1
  replace f2:=New.keepF x.h d2 f2
  replace d2:=New.keep x.h d2
  replace f3:=New.keepF x.h d3 f3
  replace d3:=New.keep x.h d3
  replace n1:=New.trans n1 x.h
  clear c0 c6
  generalize x.w=w3 at *
  clear x
  have hz1:w.heap.size+1<w3.heap.size:=World.block_lt_of_cell? _ _ d0
  go_wp2_with fail
  refine bodyPost_ret (v:=strV (lowS (k % rowN wd) (cl+4)) (lowS (k / rowN wd) (cl+4)) (highS (k % rowN wd) wd (cl+4)) (highS (k / rowN wd) dp (cl+4))) (by simp[results,Tryz.results239,go_sem, *]) rfl ?_
  exact⟨rfl,by exact nw⟩
set_option maxHeartbeats 1000000 in
theorem common_any (x0 z0 x1 z1 y0 t0 y1 t1:Int) (w:World) (hl:Nowhere w) :
    Calls Tryz.prog 238 #[strV x0 z0 x1 z1,strV y0 t0 y1 t1] w fun e w'=>e=.returned (if max x0 y0≤min x1 y1∧max z0 t0≤min z1 t1 then strV (max x0 y0) (max z0 t0) (min x1 y1) (min z1 t1)else strV 0 0 (-1) (-1))∧New w w':=by
  obtain⟨l0,l1,l2,l3⟩:=hl
  have hz:0<w.heap.size:=World.block_lt_of_cell? _ _ l0
  by_cases hx:max x0 y0≤min x1 y1
  · have bx:decide (min x1 y1<max x0 y0)=false:=decide_eq_false (by omega)
    by_cases hy:max z0 t0≤min z1 t1
    · have by':decide (min z1 t1<max z0 t0)=false:=decide_eq_false (by omega)
      rw[if_pos ⟨hx,hy⟩]
      clear hx hy
      go_enter Tryz.func238,Tryz.ntmps238
      go_wp2
      refine bodyPost_ret (v:=strV (max x0 y0) (max z0 t0) (min x1 y1) (min z1 t1)) (by simp[results,Tryz.results238,go_sem, *]) rfl ?_
      exact⟨rfl,by exact nw⟩
    · have by':decide (min z1 t1<max z0 t0)=true:=decide_eq_true (by omega)
      rw[if_neg (fun h=>hy h.2)]
      clear hx hy
      go_enter Tryz.func238,Tryz.ntmps238
      go_wp2
      refine bodyPost_ret (v:=strV 0 0 (-1) (-1)) (by simp[results,Tryz.results238,go_sem, *]) rfl ?_
      exact⟨rfl,by exact nw⟩
  · have bx:decide (min x1 y1<max x0 y0)=true:=decide_eq_true (by omega)
    rw[if_neg (fun h=>hx h.1)]
    clear hx
    go_enter Tryz.func238,Tryz.ntmps238
    go_wp2
    refine bodyPost_ret (v:=strV 0 0 (-1) (-1)) (by simp[results,Tryz.results238,go_sem, *]) rfl ?_
    exact⟨rfl,by exact nw⟩
end Go.Proofs.YtmhghnbgllaihaaGreatDoor

namespace Go.Proofs.YtmhghnbgllaihaaGreatDoor
open Go.RowKit
set_option linter.unusedVariables false
def strEq (a b c d a' b' c' d':Int):Bool:=a==a'&&(b==b'&&(c==c'&&d==d'))
theorem str_neq (w:World) (a b c d a' b' c' d':Int):(binOp .neq 302 (strV a b c d) (strV a' b' c' d')).run Tryz.prog w=.ok (.bool (!strEq a b c d a' b' c' d')) w:=by
  unfold strEq
  cases h1:(a==a') <;> cases h2:(b==b') <;> cases h3:(c==c') <;> cases h4:(d==d') <;> (go_simp)
def touchB (cl cb ht ri ru wd dp k x0 z0 x1 z1:Int):Bool :=
  decide (0≤k∧k<countN cl cb ht ri ru wd dp)&&decide (x0≤x1∧z0≤z1)&&decide (x0≤padX1 cl wd k∧padX0 cl wd k≤x1∧z0≤padZ1 cl wd dp k∧padZ0 cl wd k≤z1)
theorem pad_facts {cl cb ht ri ru wd dp k:Int} (hok:checkB cl cb ht ri ru wd dp=true) (h:0≤k∧k<countN cl cb ht ri ru wd dp) :
    0≤padX0 cl wd k∧padX0 cl wd k≤padX1 cl wd k∧0≤padZ0 cl wd k∧padZ0 cl wd k≤padZ1 cl wd dp k:=by
  have hk:=checkB_iff.1 hok
  obtain⟨hcl,-,-,-,-,hw,hd⟩:=hk
  have hr:=rowN_bd hw
  have hs:=rowN_bd hd
  have e1:countN cl cb ht ri ru wd dp=rowN wd*rowN dp:=by unfold countN;rw[hok];rfl
  rw[e1]at h
  have hz:rowN wd≠0:=by omega
  have hm1:=Int.emod_lt_of_pos k (b:=rowN wd) (by omega)
  have hm0:=Int.emod_nonneg k hz
  have hd0:0≤k / rowN wd:=Int.ediv_nonneg (by omega) (by omega)
  have hd1:k / rowN wd<rowN dp:=Int.ediv_lt_of_lt_mul (by omega) (by rw[Int.mul_comm];exact h.2)
  unfold padX0 padX1 padZ0 padZ1 lowS highS
  generalize k % rowN wd=a at *
  generalize k / rowN wd=b at *
  have rw8:rowN wd=(wd - 1) / 8+1:=by unfold rowN;rw[Int.tdiv_eq_ediv_of_nonneg (by omega)]
  have rd8:rowN dp=(dp - 1) / 8+1:=by unfold rowN;rw[Int.tdiv_eq_ediv_of_nonneg (by omega)]
  clear h e1 hok
  omega
theorem touchB_meet {cl cb ht ri ru wd dp k x0 z0 x1 z1:Int} (hok:checkB cl cb ht ri ru wd dp=true) (h:0≤k∧k<countN cl cb ht ri ru wd dp) :
    touchB cl cb ht ri ru wd dp k x0 z0 x1 z1=decide (max x0 (padX0 cl wd k)≤min x1 (padX1 cl wd k)∧max z0 (padZ0 cl wd k)≤min z1 (padZ1 cl wd dp k)):=by
  have hp:=pad_facts hok h
  unfold touchB
  rw[decide_eq_true h,Bool.true_and,←Bool.decide_and,decide_eq_decide]
  omega
set_option maxHeartbeats 1000000 in
theorem Touch_any (cl cb ht ri ru wd dp k x0 z0 x1 z1:Int) (w:World) (hl:Nowhere w) :
    Calls Tryz.prog 208 #[.agg #[.int .i64 cl,.int .i64 cb,.int .i64 ht,.int .i64 ri,.int .i64 ru,.int .i64 wd,.int .i64 dp],.int .i64 k,.int .i64 x0,.int .i64 z0,.int .i64 x1,.int .i64 z1] w fun e w'=>e=.returned (.bool (touchB cl cb ht ri ru wd dp k x0 z0 x1 z1))∧New w w':=by
  by_cases h0:k<0
  · have e:touchB cl cb ht ri ru wd dp k x0 z0 x1 z1=false:=by unfold touchB;rw[decide_eq_false (by omega)];rfl
    rw[e]
    have b0:decide (k<0)=true:=decide_eq_true h0
    clear e h0 hl
    go_enter Tryz.func208,Tryz.ntmps208
    go_wp2_with fail
    go_ret
    exact⟨rfl,by exact nw⟩
  have b0:decide (k<0)=false:=decide_eq_false h0
  have CC:=Lib.hid (fun W=>Count_any cl cb ht ri ru wd dp W)
  by_cases h1:k<countN cl cb ht ri ru wd dp
  · have hok:checkB cl cb ht ri ru wd dp=true:=by
      cases hh:checkB cl cb ht ri ru wd dp with
      | true=>rfl
      | false=>unfold countN at h1;rw[hh]at h1;simp at h1;omega
    have hT:=touchB_meet (x0:=x0) (z0:=z0) (x1:=x1) (z1:=z1) hok ⟨by omega,h1⟩
    have hp:=pad_facts hok ⟨by omega,h1⟩
    have hb:=count_bd cl cb ht ri ru wd dp
    have b1:decide (countN cl cb ht ri ru wd dp≤k)=false:=decide_eq_false (by omega)
    have PP:=Lib.hid (fun W=>padded_any cl cb ht ri ru wd dp k hok (by omega) W)
    generalize padX0 cl wd k=a0 at *
    generalize padX1 cl wd k=a1 at *
    generalize padZ0 cl wd k=c0 at *
    generalize padZ1 cl wd dp k=c1 at *
    have HH:=fun W hl=>common_any x0 z0 x1 z1 a0 c0 a1 c1 W hl
    by_cases hm:max x0 a0≤min x1 a1∧max z0 c0≤min z1 c1
    · rw[decide_eq_true hm]at hT
      rw[hT]
      simp only[if_pos hm]at HH
      have m0:strEq (max x0 a0) (max z0 c0) (min x1 a1) (min z1 c1) 0 0 (-1) (-1)=false:=by
        unfold strEq
        have:(min x1 a1 == -1)=false:=by rw[beq_eq_false_iff_ne];omega
        rw[this];simp
      generalize max x0 a0=m1 at *
      generalize max z0 c0=m2 at *
      generalize min x1 a1=m3 at *
      generalize min z1 c1=m4 at *
      generalize countN cl cb ht ri ru wd dp=n at *
      have H2:=Lib.hid HH
      have SN:=str_neq
      clear HH hok h1 hb h0 hT hm hp
      go_enter Tryz.func208,Tryz.ntmps208
      go_wp2_with fail
      refine(CC.out _).mono ?_
      rintro e w1 ⟨rfl,n1⟩
      go_wp2_with fail
      have k0:w1.cell? ⟨w.heap.size,0,none⟩=some (.int .i64 cl):=n1.keep (by go_simp)
      have k1:w1.cell? ⟨w.heap.size,1,none⟩=some (.int .i64 cb):=n1.keep (by go_simp)
      have k2:w1.cell? ⟨w.heap.size,2,none⟩=some (.int .i64 ht):=n1.keep (by go_simp)
      have k3:w1.cell? ⟨w.heap.size,3,none⟩=some (.int .i64 ri):=n1.keep (by go_simp)
      have k4:w1.cell? ⟨w.heap.size,4,none⟩=some (.int .i64 ru):=n1.keep (by go_simp)
      have k5:w1.cell? ⟨w.heap.size,5,none⟩=some (.int .i64 wd):=n1.keep (by go_simp)
      have k6:w1.cell? ⟨w.heap.size,6,none⟩=some (.int .i64 dp):=n1.keep (by go_simp)
      replace n1:New w w1:=New.trans (by exact nw) n1
      have hl1:=hl.new n1
      obtain⟨l0,l1,l2,l3⟩:=id hl1
      have H3:=Lib.hid (fun x:Hat w1=>H2.out x.w (hl1.new x.h))
      clear H2 hl1 hl
      refine wp_region_hat (by kernel_rfl) (by kernel_rfl) ?_
      intro hatc hatf
      (repeat(go_big_quiet_step ((first|(go_at_call 239;(with_reducible exact Calls.hat (PP.out _)))|(go_at_call 238;(with_reducible exact Calls.hat (H3.out _)))))))
      refine wpQuiet_nil ?_
      rintro _ ⟨x,rfl⟩
      go_wp2_with fail
      go_ret
      exact⟨rfl,New.trans n1 x.h⟩
    · rw[decide_eq_false hm]at hT
      rw[hT]
      simp only[if_neg hm]at HH
      have m0:strEq 0 0 (-1) (-1) 0 0 (-1) (-1)=true:=by decide
      generalize countN cl cb ht ri ru wd dp=n at *
      have H2:=Lib.hid HH
      have SN:=str_neq
      clear HH hok h1 hb h0 hT hm hp
      go_enter Tryz.func208,Tryz.ntmps208
      go_wp2_with fail
      refine(CC.out _).mono ?_
      rintro e w1 ⟨rfl,n1⟩
      go_wp2_with fail
      have k0:w1.cell? ⟨w.heap.size,0,none⟩=some (.int .i64 cl):=n1.keep (by go_simp)
      have k1:w1.cell? ⟨w.heap.size,1,none⟩=some (.int .i64 cb):=n1.keep (by go_simp)
      have k2:w1.cell? ⟨w.heap.size,2,none⟩=some (.int .i64 ht):=n1.keep (by go_simp)
      have k3:w1.cell? ⟨w.heap.size,3,none⟩=some (.int .i64 ri):=n1.keep (by go_simp)
      have k4:w1.cell? ⟨w.heap.size,4,none⟩=some (.int .i64 ru):=n1.keep (by go_simp)
      have k5:w1.cell? ⟨w.heap.size,5,none⟩=some (.int .i64 wd):=n1.keep (by go_simp)
      have k6:w1.cell? ⟨w.heap.size,6,none⟩=some (.int .i64 dp):=n1.keep (by go_simp)
      replace n1:New w w1:=New.trans (by exact nw) n1
      have hl1:=hl.new n1
      obtain⟨l0,l1,l2,l3⟩:=id hl1
      have H3:=Lib.hid (fun x:Hat w1=>H2.out x.w (hl1.new x.h))
      clear H2 hl1 hl
      refine wp_region_hat (by kernel_rfl) (by kernel_rfl) ?_
      intro hatc hatf
      (repeat(go_big_quiet_step ((first|(go_at_call 239;(with_reducible exact Calls.hat (PP.out _)))|(go_at_call 238;(with_reducible exact Calls.hat (H3.out _)))))))
      refine wpQuiet_nil ?_
      rintro _ ⟨x,rfl⟩
      go_wp2_with fail
      go_ret
      exact⟨rfl,New.trans n1 x.h⟩
  · have e:touchB cl cb ht ri ru wd dp k x0 z0 x1 z1=false:=by unfold touchB;rw[decide_eq_false (by omega)];rfl
    rw[e]
    have b1:decide (countN cl cb ht ri ru wd dp≤k)=true:=decide_eq_true (by omega)
    generalize countN cl cb ht ri ru wd dp=n at *
    clear e h0 h1 hl
    go_enter Tryz.func208,Tryz.ntmps208
    go_wp2_with fail
    refine(CC.out _).mono ?_
    rintro e w1 ⟨rfl,n1⟩
    go_wp2_with fail
    go_ret
    exact⟨rfl,New.trans (by exact nw) n1⟩
end Go.Proofs.YtmhghnbgllaihaaGreatDoor
