import Derived.Test.YtmhghnbgllaihaaGreatDoorCrC0P2Z2
import Derived.Test.YtmhghnbgllaihaaGreatDoorWholeMP2Z2
import Derived.Test.YtmhghnbgllaihaaGreatDoorWholeJP2Z2
set_option linter.unusedVariables false
set_option maxHeartbeats 16000000
set_option maxRecDepth 100000

namespace Go.Proofs.YtmhghnbgllaihaaGreatDoor
open Go.RowKit
theorem cr_within (n lo hi:Int) (w:World):Calls Tryz.prog 49 #[.int .i64 n,.int .i64 lo,.int .i64 hi] w fun e w'=>e=.returned (.bool (wiB n lo hi))∧w=w':=by
 unfold wiB
 cases h1:decide (lo≤n)
 ·go_enter Tryz.func49,Tryz.ntmps49
  go_wp2_with fail
  go_ret
  exact⟨rfl,rfl⟩
 ·go_enter Tryz.func49,Tryz.ntmps49
  go_wp2_with fail
  go_ret
  exact⟨rfl,rfl⟩
theorem cr_inRow (n:Int) (hn:1≤n∧n≤32) (w:World):Calls Tryz.prog 31 #[.int .i64 n] w fun e w'=>e=.returned (.int .i64 (tlR n))∧w=w':=by
 have h0:=tlR_is hn.1
 have h1:IntKind.i64.wrap (n - 1)=n - 1:=IntWalk.i64_in _ (by omega)
 have e:Int.tdiv (n - 1) 8=(n - 1) / 8:=Int.tdiv_eq_ediv_of_nonneg (by omega)
 have h2:IntKind.i64.wrap ((n - 1) / 8)=(n - 1) / 8:=IntWalk.i64_in _ (by omega)
 have h3:IntKind.i64.wrap ((n - 1) / 8+1)=(n - 1) / 8+1:=IntWalk.i64_in _ (by omega)
 rw[h0]
 clear h0
 go_enter Tryz.func31,Tryz.ntmps31
 go_wp2_with fail
 go_ret
 exact⟨by first|rfl|(simp only[e,h2,h3]),rfl⟩
theorem cr_Tiles (C:CfgR) (w:World):Calls Tryz.prog 10 #[.agg #[.int .i64 C.cl,.int .i64 C.cb,.int .i64 C.ht,.int .i64 C.ri,.int .i64 C.ru,.int .i64 C.wd,.int .i64 C.dp]] w fun e w'=>e=.returned (.tuple #[.int .i64 (tlW C),.int .i64 (tlD C)])∧New w w':=by
 have KC:Hid (∀ W,Calls Tryz.prog 30 #[.agg #[.int .i64 C.cl,.int .i64 C.cb,.int .i64 C.ht,.int .i64 C.ri,.int .i64 C.ru,.int .i64 C.wd,.int .i64 C.dp]] W fun e w'=>e=.returned (.int .i64 C.err)∧New W w'):=Lib.hid (fun W=>(check_any C.cl C.cb C.ht C.ri C.ru C.wd C.dp W).mono fun e w' h=>⟨h.1,h.2.1⟩)
 have h1:=err_or C
 obtain⟨a,ha⟩:∃ a,a=tlW C:=⟨_,rfl⟩
 obtain⟨b,hb⟩:∃ a,a=tlD C:=⟨_,rfl⟩
 rw[←ha,←hb]
 unfold tlW at ha
 unfold tlD at hb
 have KW:Hid (C.err=0→∀ W,Calls Tryz.prog 31 #[.int .i64 C.wd] W fun e w'=>e=.returned (.int .i64 a)∧New W w'):=Lib.hid (fun h W=>(cr_inRow C.wd (cfg_in h).2.1 W).mono fun e w' q=>⟨by rw[ha,if_pos h];exact q.1,q.2▸New.refl _⟩)
 have KD:Hid (C.err=0→∀ W,Calls Tryz.prog 31 #[.int .i64 C.dp] W fun e w'=>e=.returned (.int .i64 b)∧New W w'):=Lib.hid (fun h W=>(cr_inRow C.dp (cfg_in h).2.2 W).mono fun e w' q=>⟨by rw[hb,if_pos h];exact q.1,q.2▸New.refl _⟩)
 have HA:Hid (C.err≠0→a=0∧b=0):=Lib.hid (fun h=>⟨by rw[ha,if_neg h],by rw[hb,if_neg h]⟩)
 clear ha hb
 generalize C.err=ce at *
 go_enter Tryz.func10,Tryz.ntmps10
 go_upto_region 1 with fail
 refine Code.at (fun W0 hW=>?_)
 have n0:New w W0:=by subst hW;exact nw
 have hc:CellsAt W0 w.heap.size 0 C.enc:=by subst hW;exact cells_new _ _ _
 clear hW
 have HC:=Lib.hid (fun W (q:New W0 W)=>CfgR.at (hc.keep q))
 obtain⟨c0,c1,c2,c3,c4,c5,c6⟩:=CfgR.at hc
 go_wp2_with fail
 refine(KC.out _).mono ?_
 rintro e w1 ⟨rfl,n1⟩
 have N1:=Lib.hid (n0.trans n1)
 obtain⟨d0,d1,d2,d3,d4,d5,d6⟩:=HC.out _ n1
 clear c0 c1 c2 c3 c4 c5 c6 n0 n1 KC hc
 rcases h1 with rfl|rfl
 ·have K1':=Lib.hid (KW.out rfl)
  have K2':=Lib.hid (KD.out rfl)
  clear KW KD HA
  go_upto_region 3 with fail
  (refine wp_region_hat (by kernel_rfl) (by kernel_rfl) ?_;intro hatc hatf;(repeat(go_big_quiet_step ((first|(go_at_call 31;exact Calls.hat (K1'.out _))|(go_at_call 31;exact Calls.hat (K2'.out _))))));refine wpQuiet_nil ?_;rintro _ ⟨x,rfl⟩)
  go_wp2_with fail
  go_ret2
  exact⟨rfl,N1.out.trans x.h⟩
 ·obtain⟨rfl,rfl⟩:=HA.out (by omega)
  go_wp2_with fail
  go_ret2
  exact⟨rfl,N1.out⟩
theorem cr_tile (C:CfgR) (tx tz:Int) (w:World):Calls Tryz.prog 32 #[.agg #[.int .i64 C.cl,.int .i64 C.cb,.int .i64 C.ht,.int .i64 C.ri,.int .i64 C.ru,.int .i64 C.wd,.int .i64 C.dp],.int .i64 tx,.int .i64 tz] w fun e w'=>e=.returned (.tuple #[.agg #[.int .i64 (tilB C tx tz).x,.int .i64 (tilB C tx tz).z,.int .i64 (tilB C tx tz).w,.int .i64 (tilB C tx tz).d],.bool (tilOk C tx tz)])∧New w w':=by
 have KT:=Lib.hid (fun W=>cr_Tiles C W)
 have KW:=Lib.hid (fun n hi W=>cr_within n 0 hi W)
 have hT:(0≤tlW C∧tlW C≤4)∧0≤tlD C∧tlD C≤4:=by
  unfold tlW tlD
  by_cases hC:C.err=0
  ·obtain⟨h1,h2,h3⟩:=cfg_in hC
   rw[if_pos hC,if_pos hC,tlR_is (by omega),tlR_is (by omega)]
   omega
  ·rw[if_neg hC,if_neg hC]
   omega
 have hOK:tilOk C tx tz=(wiB tx 0 (tlW C - 1)&&wiB tz 0 (tlD C - 1)):=rfl
 have HG:=Lib.hid (fun h=>(til_ok (C:=C) (tx:=tx) (tz:=tz) h))
 have HZ:Hid (tilOk C tx tz=false→tilB C tx tz=Bd.zero):=Lib.hid (fun h=>by unfold tilB;rw[if_neg (by rw[h];simp)])
 obtain⟨B,hB⟩:∃ B,B=tilB C tx tz:=⟨_,rfl⟩
 obtain⟨ok,hok⟩:∃ o,o=tilOk C tx tz:=⟨_,rfl⟩
 rw[←hB,←hok]
 have HB:=Lib.hid hB
 have HOK:=Lib.hid hok
 clear hB hok
 generalize tlW C=a at *
 generalize tlD C=d at *
 have ha:IntKind.i64.wrap (a - 1)=a - 1:=IntWalk.i64_in _ (by omega)
 have hd:IntKind.i64.wrap (d - 1)=d - 1:=IntWalk.i64_in _ (by omega)
 clear hT
 go_enter Tryz.func32,Tryz.ntmps32
 go_upto_region 1 with fail
 refine Code.at (fun W0 hW=>?_)
 have n0:New w W0:=by subst hW;exact nw
 have hc:CellsAt W0 w.heap.size 0 C.enc:=by subst hW;exact(cells_new w _ _).keep (by exact nw)
 have r0:W0.heap[w.heap.size+1]? = some (.cells #[.int .i64 0,.int .i64 0,.int .i64 0,.int .i64 0] 70 (0,0)):=by
  subst hW
  have h:=World.alloc_heap_new (w.alloc (.cells #[.int .i64 C.cl,.int .i64 C.cb,.int .i64 C.ht,.int .i64 C.ri,.int .i64 C.ru,.int .i64 C.wd,.int .i64 C.dp] 23)) (.cells #[.int .i64 0,.int .i64 0,.int .i64 0,.int .i64 0] 70)
  rw[World.size_alloc]at h
  exact h
 clear hW
 have HC:=Lib.hid (fun W (q:New W0 W)=>CfgR.at (hc.keep q))
 have HR0:=Lib.hid (fun W (q:New W0 W)=>(q.block _ (Array.getElem?_eq_some_iff.1 r0).1).trans r0)
 have N0:=Lib.hid n0
 obtain⟨c0,c1,c2,c3,c4,c5,c6⟩:=CfgR.at hc
 go_wp2_with fail
 refine(KT.out _).mono ?_
 rintro e w1 ⟨rfl,n1⟩
 clear c0 c1 c2 c3 c4 c5 c6 hc r0 n0
 obtain⟨c0,c1,c2,c3,c4,c5,c6⟩:=HC.out _ n1
 have q0:=HR0.out _ n1
 have y0:w1.cell? ⟨w.heap.size+1,0,none⟩=some (.int .i64 0):=cell_of_heap q0 rfl
 have y1:w1.cell? ⟨w.heap.size+1,1,none⟩=some (.int .i64 0):=cell_of_heap q0 rfl
 have y2:w1.cell? ⟨w.heap.size+1,2,none⟩=some (.int .i64 0):=cell_of_heap q0 rfl
 have y3:w1.cell? ⟨w.heap.size+1,3,none⟩=some (.int .i64 0):=cell_of_heap q0 rfl
 have f0:w1.frozen? ⟨w.heap.size+1,0,none⟩=false:=by simp[World.frozen?,q0]
 have f1:w1.frozen? ⟨w.heap.size+1,1,none⟩=false:=by simp[World.frozen?,q0]
 have f2:w1.frozen? ⟨w.heap.size+1,2,none⟩=false:=by simp[World.frozen?,q0]
 have f3:w1.frozen? ⟨w.heap.size+1,3,none⟩=false:=by simp[World.frozen?,q0]
 have nn:=N0.out.trans n1
 clear q0 n1 KT HC HR0 N0
 have K1:=fun W=>KW.out tx (a - 1) W
 have K2:=fun W=>KW.out tz (d - 1) W
 clear KW
 cases h1:wiB tx 0 (a - 1)
 ·have h0:tilOk C tx tz=false:=by rw[hOK,h1];rfl
  have hz:=HZ.out h0
  obtain rfl:ok=false:=HOK.out.trans h0
  obtain rfl:B=Bd.zero:=HB.out.trans hz
  rw[h1]at K1
  clear h0 hz hOK h1 HG HZ HB HOK
  go_wp2_with fail
  refine(K1 _).mono ?_
  rintro e w2 ⟨rfl,rfl⟩
  go_wp2_with fail
  generalize hW5:World.setCell _ _ _=W5
  have n5:New w W5:=by subst hW5;exact nw
  have k0:W5.cell? ⟨w.heap.size+1,0,none⟩=some (.int .i64 0):=by subst hW5;go_simp
  have k1:W5.cell? ⟨w.heap.size+1,1,none⟩=some (.int .i64 0):=by subst hW5;go_simp
  have k2:W5.cell? ⟨w.heap.size+1,2,none⟩=some (.int .i64 0):=by subst hW5;go_simp
  have k3:W5.cell? ⟨w.heap.size+1,3,none⟩=some (.int .i64 0):=by subst hW5;go_simp
  clear hW5 y0 y1 y2 y3 f0 f1 f2 f3
  refine bodyPost_ret (v:=.tuple #[.agg #[.int .i64 0,.int .i64 0,.int .i64 0,.int .i64 0],.bool false]) (by simp[results,Tryz.results32,go_sem, *]) rfl ?_
  exact⟨rfl,n5⟩
 cases h2:wiB tz 0 (d - 1)
 ·have h0:tilOk C tx tz=false:=by rw[hOK,h1,h2];rfl
  have hz:=HZ.out h0
  obtain rfl:ok=false:=HOK.out.trans h0
  obtain rfl:B=Bd.zero:=HB.out.trans hz
  rw[h1]at K1
  rw[h2]at K2
  clear h0 hz hOK h1 h2 HG HZ HB HOK
  go_wp2_with fail
  refine(K1 _).mono ?_
  rintro e w2 ⟨rfl,rfl⟩
  go_wp2_with fail
  refine(K2 _).mono ?_
  rintro e w2 ⟨rfl,rfl⟩
  go_wp2_with fail
  generalize hW5:World.setCell _ _ _=W5
  have n5:New w W5:=by subst hW5;exact nw
  have k0:W5.cell? ⟨w.heap.size+1,0,none⟩=some (.int .i64 0):=by subst hW5;go_simp
  have k1:W5.cell? ⟨w.heap.size+1,1,none⟩=some (.int .i64 0):=by subst hW5;go_simp
  have k2:W5.cell? ⟨w.heap.size+1,2,none⟩=some (.int .i64 0):=by subst hW5;go_simp
  have k3:W5.cell? ⟨w.heap.size+1,3,none⟩=some (.int .i64 0):=by subst hW5;go_simp
  clear hW5 y0 y1 y2 y3 f0 f1 f2 f3
  refine bodyPost_ret (v:=.tuple #[.agg #[.int .i64 0,.int .i64 0,.int .i64 0,.int .i64 0],.bool false]) (by simp[results,Tryz.results32,go_sem, *]) rfl ?_
  exact⟨rfl,n5⟩
 have h0:tilOk C tx tz=true:=by rw[hOK,h1,h2];rfl
 obtain⟨g1,g2,g3,g4⟩:=HG.out h0
 obtain rfl:ok=true:=HOK.out.trans h0
 obtain rfl:=HB.out.trans g2
 rw[h1]at K1
 rw[h2]at K2
 obtain⟨-,q2,q3⟩:=cfg_in g1.e
 have m1:IntKind.i64.wrap (8*tx)=8*tx:=IntWalk.i64_in _ (by omega)
 have m2:IntKind.i64.wrap (8*tz)=8*tz:=IntWalk.i64_in _ (by omega)
 have m3:IntKind.i64.wrap (C.wd - 8*tx)=C.wd - 8*tx:=IntWalk.i64_in _ (by omega)
 have m4:IntKind.i64.wrap (C.dp - 8*tz)=C.dp - 8*tz:=IntWalk.i64_in _ (by omega)
 clear h0 hOK h1 h2 HG HZ g1 g2 g3 g4 q2 q3 HB HOK
 go_wp2_with fail
 refine(K1 _).mono ?_
 rintro e w2 ⟨rfl,rfl⟩
 go_wp2_with fail
 refine(K2 _).mono ?_
 rintro e w2 ⟨rfl,rfl⟩
 go_wp2_with fail
 generalize hW5:World.setCell _ _ _=W5
 have n5:New w W5:=by subst hW5;exact nw
 have k0:W5.cell? ⟨w.heap.size+1,0,none⟩=some (.int .i64 (8*tx)):=by subst hW5;go_simp
 have k1:W5.cell? ⟨w.heap.size+1,1,none⟩=some (.int .i64 (8*tz)):=by subst hW5;go_simp
 have k2:W5.cell? ⟨w.heap.size+1,2,none⟩=some (.int .i64 (min 8 (C.wd - 8*tx))):=by subst hW5;go_simp
 have k3:W5.cell? ⟨w.heap.size+1,3,none⟩=some (.int .i64 (min 8 (C.dp - 8*tz))):=by subst hW5;go_simp
 clear hW5 y0 y1 y2 y3 f0 f1 f2 f3
 refine bodyPost_ret (v:=.tuple #[.agg #[.int .i64 (8*tx),.int .i64 (8*tz),.int .i64 (min 8 (C.wd - 8*tx)),.int .i64 (min 8 (C.dp - 8*tz))],.bool true]) (by simp[results,Tryz.results32,go_sem, *]) rfl ?_
 exact⟨rfl,n5⟩
theorem cr_padded (C:CfgR) (b:Bd) (hb:Til C b) (w:World):Calls Tryz.prog 33 #[.agg #[.int .i64 b.x,.int .i64 b.z,.int .i64 b.w,.int .i64 b.d],.agg #[.int .i64 C.cl,.int .i64 C.cb,.int .i64 C.ht,.int .i64 C.ri,.int .i64 C.ru,.int .i64 C.wd,.int .i64 C.dp]] w fun e w'=>e=.returned (.agg #[.int .i64 (padB C b).x,.int .i64 (padB C b).z,.int .i64 (padB C b).w,.int .i64 (padB C b).d])∧New w w':=by
 obtain⟨q1,q2,q3⟩:=cfg_in hb.e
 obtain⟨-,b1,b2,b3,b4,-,-⟩:=hb
 have m0:IntKind.i64.wrap (C.cl+4)=C.cl+4:=IntWalk.i64_in _ (by omega)
 have m1:IntKind.i64.wrap (b.x - (C.cl+4))=b.x - (C.cl+4):=IntWalk.i64_in _ (by omega)
 have m2:IntKind.i64.wrap (b.z - (C.cl+4))=b.z - (C.cl+4):=IntWalk.i64_in _ (by omega)
 have m3:IntKind.i64.wrap (2*(C.cl+4))=2*(C.cl+4):=IntWalk.i64_in _ (by omega)
 have m4:IntKind.i64.wrap (b.w+2*(C.cl+4))=b.w+2*(C.cl+4):=IntWalk.i64_in _ (by omega)
 have m5:IntKind.i64.wrap (b.d+2*(C.cl+4))=b.d+2*(C.cl+4):=IntWalk.i64_in _ (by omega)
 clear q1 q2 q3 b1 b2 b3 b4
 unfold padB
 dsimp only
 go_enter Tryz.func33,Tryz.ntmps33
 go_wp2_with fail
 refine bodyPost_ret (v:=.agg #[.int .i64 (b.x - (C.cl+4)),.int .i64 (b.z - (C.cl+4)),.int .i64 (b.w+2*(C.cl+4)),.int .i64 (b.d+2*(C.cl+4))]) (by simp[results,Tryz.results33,go_sem, *]) rfl ?_
 exact⟨rfl,by exact nw⟩
theorem cr_has (b:Bd) (hb:Box4 b) (x z:Int) (w:World):Calls Tryz.prog 40 #[.agg #[.int .i64 b.x,.int .i64 b.z,.int .i64 b.w,.int .i64 b.d],.int .i64 x,.int .i64 z] w fun e w'=>e=.returned (.bool (b.has x z))∧New w w':=by
 obtain⟨b1,b2,b3,b4⟩:=hb
 have K1:=fun W=>cr_within x b.x (b.x+b.w - 1) W
 have K2:=fun W=>cr_within z b.z (b.z+b.d - 1) W
 have m1:IntKind.i64.wrap (b.x+b.w)=b.x+b.w:=IntWalk.i64_in _ (by omega)
 have m2:IntKind.i64.wrap (b.x+b.w - 1)=b.x+b.w - 1:=IntWalk.i64_in _ (by omega)
 have m3:IntKind.i64.wrap (b.z+b.d)=b.z+b.d:=IntWalk.i64_in _ (by omega)
 have m4:IntKind.i64.wrap (b.z+b.d - 1)=b.z+b.d - 1:=IntWalk.i64_in _ (by omega)
 clear b1 b2 b3 b4
 unfold Bd.has
 generalize wiB x b.x (b.x+b.w - 1)=r1 at *
 generalize wiB z b.z (b.z+b.d - 1)=r2 at *
 cases r1
 ·go_enter Tryz.func40,Tryz.ntmps40
  go_wp2_with fail
  refine(K1 _).mono ?_
  rintro e w2 ⟨rfl,rfl⟩
  go_wp2_with fail
  go_ret
  exact⟨rfl,by exact nw⟩
 ·go_enter Tryz.func40,Tryz.ntmps40
  go_wp2_with fail
  refine(K1 _).mono ?_
  rintro e w2 ⟨rfl,rfl⟩
  go_wp2_with fail
  refine(K2 _).mono ?_
  rintro e w2 ⟨rfl,rfl⟩
  go_wp2_with fail
  go_ret
  exact⟨rfl,by exact nw⟩
theorem cr_column (b:Bd) (hb:Box4 b) (i:Nat) (hi:i<b.d.toNat*b.w.toNat) (w:World):Calls Tryz.prog 43 #[.agg #[.int .i64 b.x,.int .i64 b.z,.int .i64 b.w,.int .i64 b.d],.int .i64 (i:Nat)] w fun e w'=>e=.returned (.tuple #[.int .i64 (b.x+((i % b.w.toNat:Nat):Int)),.int .i64 (b.z+((i / b.w.toNat:Nat):Int))])∧New w w':=by
 obtain⟨n,m,e1,e2,w1,w2,d1,d2,e3,e4⟩:=hb.nat
 obtain⟨b1,b2,b3,b4⟩:=hb
 rw[e3,e4]at hi
 rw[e3]
 have hd:i / n<m:=(Nat.div_lt_iff_lt_mul (by omega)).2 hi
 have hm:i % n<n:=Nat.mod_lt _ (by omega)
 have t1:Int.tmod (i:Int) b.w=((i % n:Nat):Int):=by rw[e1,Int.tmod_eq_emod_of_nonneg (by omega),Int.natCast_emod]
 have t2:Int.tdiv (i:Int) b.w=((i / n:Nat):Int):=by rw[e1,Int.tdiv_eq_ediv_of_nonneg (by omega),Int.natCast_ediv]
 have t3:(b.w==0)=false:=by rw[beq_eq_false_iff_ne];omega
 have t4:¬ b.w=0:=by omega
 generalize i % n=p at *
 generalize i / n=q at *
 have m1:IntKind.i64.wrap ((p:Nat):Int)=(p:Nat):=IntWalk.i64_in _ (by omega)
 have m2:IntKind.i64.wrap ((q:Nat):Int)=(q:Nat):=IntWalk.i64_in _ (by omega)
 have m3:IntKind.i64.wrap (b.x+((p:Nat):Int))=b.x+((p:Nat):Int):=IntWalk.i64_in _ (by omega)
 have m4:IntKind.i64.wrap (b.z+((q:Nat):Int))=b.z+((q:Nat):Int):=IntWalk.i64_in _ (by omega)
 clear b1 b2 b3 b4 e1 e2 w1 w2 d1 d2 e3 e4 hi hd hm
 go_enter Tryz.func43,Tryz.ntmps43
 go_upto_region 1 with fail
 refine Code.at (fun W0 hW=>?_)
 have n0:New w W0:=by subst hW;exact nw
 have c0:W0.cell? ⟨w.heap.size,0,none⟩=some (.int .i64 b.x):=by subst hW;go_simp
 have c1:W0.cell? ⟨w.heap.size,1,none⟩=some (.int .i64 b.z):=by subst hW;go_simp
 have c2:W0.cell? ⟨w.heap.size,2,none⟩=some (.int .i64 b.w):=by subst hW;go_simp
 clear hW
 (refine wp_region_hat (by kernel_rfl) (by kernel_rfl) ?_;intro hatc hatf;(repeat(go_big_quiet_step ((fail))));refine wpQuiet_nil ?_;rintro _ ⟨x,rfl⟩)
 go_wp2_with fail
 go_ret2
 exact⟨rfl,n0.trans x.h⟩
theorem cr_grid (b:Bd) (v:Value) (hv:∃ a n c,v=.slice a n c) (w:World):Calls Tryz.prog 36 #[.agg #[.int .i64 b.x,.int .i64 b.z,.int .i64 b.w,.int .i64 b.d],v] w fun e w'=>e=.returned (.agg #[.int .i64 b.x,.int .i64 b.z,.int .i64 b.w,.int .i64 b.d,v])∧New w w':=by
 obtain⟨a,n,c,rfl⟩:=hv
 go_enter Tryz.func36,Tryz.ntmps36
 go_wp2_with fail
 refine bodyPost_ret (v:=.agg #[.int .i64 b.x,.int .i64 b.z,.int .i64 b.w,.int .i64 b.d,.slice a n c]) (by simp[results,Tryz.results36,go_sem, *]) rfl ?_
 exact⟨rfl,by exact nw⟩
theorem cq_Tiles (C:CfgR) (w:World):Calls Tryz.prog 11 #[.agg #[.int .i64 C.cl,.int .i64 C.cb,.int .i64 C.ht,.int .i64 C.ri,.int .i64 C.ru,.int .i64 C.wd,.int .i64 C.dp]] w fun e w'=>e=.returned (.tuple #[.int .i64 (tlW C),.int .i64 (tlD C)])∧New w w':=by
 have KC:Hid (∀ W,Calls Tryz.prog 22 #[.agg #[.int .i64 C.cl,.int .i64 C.cb,.int .i64 C.ht,.int .i64 C.ri,.int .i64 C.ru,.int .i64 C.wd,.int .i64 C.dp]] W fun e w'=>e=.returned (.int .i64 C.err)∧New W w'):=Lib.hid (fun W=>(rcheck_any C.cl C.cb C.ht C.ri C.ru C.wd C.dp W).mono fun e w' h=>⟨h.1,h.2.1⟩)
 have h1:=err_or C
 obtain⟨a,ha⟩:∃ a,a=tlW C:=⟨_,rfl⟩
 obtain⟨b,hb⟩:∃ a,a=tlD C:=⟨_,rfl⟩
 rw[←ha,←hb]
 unfold tlW at ha
 unfold tlD at hb
 have HA:Hid (C.err≠0→a=0∧b=0):=Lib.hid (fun h=>⟨by rw[ha,if_neg h],by rw[hb,if_neg h]⟩)
 have HW:Hid (C.err=0→(1≤C.wd∧C.wd≤32)∧(1≤C.dp∧C.dp≤32)∧Int.tdiv (C.wd - 1) 8+1=a∧Int.tdiv (C.dp - 1) 8+1=b):=Lib.hid (fun h=>⟨(cfg_in h).2.1,(cfg_in h).2.2,by rw[ha,if_pos h];rfl,by rw[hb,if_pos h];rfl⟩)
 clear ha hb
 generalize C.err=ce at *
 go_enter Tryz.func11,Tryz.ntmps11
 go_upto_region 1 with fail
 refine Code.at (fun W0 hW=>?_)
 have n0:New w W0:=by subst hW;exact nw
 have hc:CellsAt W0 w.heap.size 0 C.enc:=by subst hW;exact cells_new _ _ _
 clear hW
 have HC:=Lib.hid (fun W (q:New W0 W)=>CfgR.at (hc.keep q))
 obtain⟨c0,c1,c2,c3,c4,c5,c6⟩:=CfgR.at hc
 go_wp2_with fail
 refine(KC.out _).mono ?_
 rintro e w1 ⟨rfl,n1⟩
 have N1:=Lib.hid (n0.trans n1)
 obtain⟨d0,d1,d2,d3,d4,d5,d6⟩:=HC.out _ n1
 clear c0 c1 c2 c3 c4 c5 c6 n0 n1 KC hc
 rcases h1 with rfl|rfl
 ·obtain⟨b1,b2,e1,e2⟩:=HW.out rfl
  have m1:IntKind.i64.wrap (C.wd - 1)=C.wd - 1:=IntWalk.i64_in _ (by omega)
  have m2:IntKind.i64.wrap (C.dp - 1)=C.dp - 1:=IntWalk.i64_in _ (by omega)
  have t1:Int.tdiv (C.wd - 1) 8=(C.wd - 1) / 8:=Int.tdiv_eq_ediv_of_nonneg (by omega)
  have t2:Int.tdiv (C.dp - 1) 8=(C.dp - 1) / 8:=Int.tdiv_eq_ediv_of_nonneg (by omega)
  have m3:IntKind.i64.wrap (Int.tdiv (C.wd - 1) 8)=Int.tdiv (C.wd - 1) 8:=IntWalk.i64_in _ (by omega)
  have m4:IntKind.i64.wrap (Int.tdiv (C.dp - 1) 8)=Int.tdiv (C.dp - 1) 8:=IntWalk.i64_in _ (by omega)
  have m5:IntKind.i64.wrap (Int.tdiv (C.wd - 1) 8+1)=a:=by rw[IntWalk.i64_in _ (by omega)];exact e1
  have m6:IntKind.i64.wrap (Int.tdiv (C.dp - 1) 8+1)=b:=by rw[IntWalk.i64_in _ (by omega)];exact e2
  clear HA HW e1 e2 t1 t2 b1 b2
  go_upto_region 3 with fail
  (refine wp_region_hat (by kernel_rfl) (by kernel_rfl) ?_;intro hatc hatf;(repeat(go_big_quiet_step ((fail))));refine wpQuiet_nil ?_;rintro _ ⟨x,rfl⟩)
  go_wp2_with fail
  go_ret2
  exact⟨rfl,N1.out.trans x.h⟩
 ·obtain⟨rfl,rfl⟩:=HA.out (by omega)
  go_wp2_with fail
  go_ret2
  exact⟨rfl,N1.out⟩
theorem cq_Columns (C:CfgR) (tx tz:Int) (w:World):Calls Tryz.prog 13 #[.agg #[.int .i64 C.cl,.int .i64 C.cb,.int .i64 C.ht,.int .i64 C.ri,.int .i64 C.ru,.int .i64 C.wd,.int .i64 C.dp],.int .i64 tx,.int .i64 tz] w fun e w'=>e=.returned (.tuple #[.int .i64 (tilB C tx tz).x,.int .i64 (tilB C tx tz).z,.int .i64 (tilB C tx tz).w,.int .i64 (tilB C tx tz).d,.bool (tilOk C tx tz)])∧New w w':=by
 have KT:=Lib.hid (fun W=>cq_Tiles C W)
 have hOK:tilOk C tx tz=(wiB tx 0 (tlW C - 1)&&wiB tz 0 (tlD C - 1)):=rfl
 have HG:=Lib.hid (fun h=>(til_ok (C:=C) (tx:=tx) (tz:=tz) h))
 have HZ:Hid (tilOk C tx tz=false→tilB C tx tz=Bd.zero):=Lib.hid (fun h=>by unfold tilB;rw[if_neg (by rw[h];simp)])
 obtain⟨B,hB⟩:∃ B,B=tilB C tx tz:=⟨_,rfl⟩
 obtain⟨ok,hok⟩:∃ o,o=tilOk C tx tz:=⟨_,rfl⟩
 rw[←hB,←hok]
 have HB:=Lib.hid hB
 have HOK:=Lib.hid hok
 clear hB hok
 generalize tlW C=a at *
 generalize tlD C=d at *
 have HBAD:Hid ((tx<0∨a≤tx∨tz<0∨d≤tz)→ok=false∧B=Bd.zero):=Lib.hid (fun h=>by
  have:tilOk C tx tz=false:=by
   rw[hOK,Bool.and_eq_false_iff,wiB_not,wiB_not]
   omega
  exact⟨HOK.out.trans this,HB.out.trans (HZ.out this)⟩)
 have HGOOD:Hid (¬ (tx<0∨a≤tx∨tz<0∨d≤tz)→ok=true∧B=⟨8*tx,8*tz,min 8 (C.wd - 8*tx),min 8 (C.dp - 8*tz)⟩∧(0≤tx∧tx≤3)∧(0≤tz∧tz≤3)∧(1≤C.wd∧C.wd≤32)∧(1≤C.dp∧C.dp≤32)):=Lib.hid (fun h=>by
  have:tilOk C tx tz=true:=by
   rw[hOK,Bool.and_eq_true,wiB_iff,wiB_iff]
   omega
  obtain⟨g1,g2,g3,g4⟩:=HG.out this
  exact⟨HOK.out.trans this,HB.out.trans g2,g3,g4,(cfg_in g1.e).2.1,(cfg_in g1.e).2.2⟩)
 clear hOK HG HZ HB HOK
 go_enter Tryz.func13,Tryz.ntmps13
 go_upto_region 1 with fail
 refine Code.at (fun W0 hW=>?_)
 have n0:New w W0:=by subst hW;exact nw
 have hc:CellsAt W0 w.heap.size 0 C.enc:=by subst hW;exact cells_new _ _ _
 clear hW
 have HC:=Lib.hid (fun W (q:New W0 W)=>CfgR.at (hc.keep q))
 obtain⟨c0,c1,c2,c3,c4,c5,c6⟩:=CfgR.at hc
 go_wp2_with fail
 refine(KT.out _).mono ?_
 rintro e w1 ⟨rfl,n1⟩
 have N1:=Lib.hid (n0.trans n1)
 obtain⟨d0,d1,d2,d3,d4,d5,d6⟩:=HC.out _ n1
 clear c0 c1 c2 c3 c4 c5 c6 n0 n1 KT hc HC
 by_cases q1:tx<0
 ·obtain⟨rfl,rfl⟩:=HBAD.out (.inl q1)
  have t1:decide (tx<0)=true:=decide_eq_true q1
  clear q1 HBAD HGOOD
  go_wp2_with fail
  refine bodyPost_ret (v:=.tuple #[.int .i64 0,.int .i64 0,.int .i64 0,.int .i64 0,.bool false]) (by simp[results,Tryz.results13,go_sem, *]) rfl ?_
  exact⟨rfl,N1.out⟩
 have t1:decide (tx<0)=false:=decide_eq_false q1
 by_cases q2:a≤tx
 ·obtain⟨rfl,rfl⟩:=HBAD.out (.inr (.inl q2))
  have t2:decide (a≤tx)=true:=decide_eq_true q2
  clear q1 q2 HBAD HGOOD
  go_wp2_with fail
  refine bodyPost_ret (v:=.tuple #[.int .i64 0,.int .i64 0,.int .i64 0,.int .i64 0,.bool false]) (by simp[results,Tryz.results13,go_sem, *]) rfl ?_
  exact⟨rfl,N1.out⟩
 have t2:decide (a≤tx)=false:=decide_eq_false q2
 by_cases q3:tz<0
 ·obtain⟨rfl,rfl⟩:=HBAD.out (.inr (.inr (.inl q3)))
  have t3:decide (tz<0)=true:=decide_eq_true q3
  clear q1 q2 q3 HBAD HGOOD
  go_wp2_with fail
  refine bodyPost_ret (v:=.tuple #[.int .i64 0,.int .i64 0,.int .i64 0,.int .i64 0,.bool false]) (by simp[results,Tryz.results13,go_sem, *]) rfl ?_
  exact⟨rfl,N1.out⟩
 have t3:decide (tz<0)=false:=decide_eq_false q3
 by_cases q4:d≤tz
 ·obtain⟨rfl,rfl⟩:=HBAD.out (.inr (.inr (.inr q4)))
  have t4:decide (d≤tz)=true:=decide_eq_true q4
  clear q1 q2 q3 q4 HBAD HGOOD
  go_wp2_with fail
  refine bodyPost_ret (v:=.tuple #[.int .i64 0,.int .i64 0,.int .i64 0,.int .i64 0,.bool false]) (by simp[results,Tryz.results13,go_sem, *]) rfl ?_
  exact⟨rfl,N1.out⟩
 have t4:decide (d≤tz)=false:=decide_eq_false q4
 obtain⟨rfl,rfl,b1,b2,b3,b4⟩:=HGOOD.out (by omega)
 have c1:tx*8=8*tx:=Int.mul_comm _ _
 have c2:tz*8=8*tz:=Int.mul_comm _ _
 have m1:IntKind.i64.wrap (tx*8)=8*tx:=by rw[c1,IntWalk.i64_in _ (by omega)]
 have m2:IntKind.i64.wrap (tz*8)=8*tz:=by rw[c2,IntWalk.i64_in _ (by omega)]
 have m3:IntKind.i64.wrap (C.wd - 8*tx)=C.wd - 8*tx:=IntWalk.i64_in _ (by omega)
 have m4:IntKind.i64.wrap (C.dp - 8*tz)=C.dp - 8*tz:=IntWalk.i64_in _ (by omega)
 clear q1 q2 q3 q4 HBAD HGOOD b1 b2 b3 b4 c1 c2
 go_upto_region 5 with fail
 (refine wp_region_hat (by kernel_rfl) (by kernel_rfl) ?_;intro hatc hatf;(repeat(go_big_quiet_step ((fail))));refine wpQuiet_nil ?_;rintro _ ⟨x,rfl⟩)
 go_wp2_with fail
 refine bodyPost_ret (v:=.tuple #[.int .i64 (8*tx),.int .i64 (8*tz),.int .i64 (min 8 (C.wd - 8*tx)),.int .i64 (min 8 (C.dp - 8*tz)),.bool true]) (by simp[results,Tryz.results13,go_sem, *]) rfl ?_
 exact⟨rfl,N1.out.trans x.h⟩
theorem cq_Padded (C:CfgR) (tx tz:Int) (w:World):Calls Tryz.prog 15 #[.agg #[.int .i64 C.cl,.int .i64 C.cb,.int .i64 C.ht,.int .i64 C.ri,.int .i64 C.ru,.int .i64 C.wd,.int .i64 C.dp],.int .i64 tx,.int .i64 tz] w fun e w'=>e=.returned (.tuple #[.int .i64 (padT C tx tz).x,.int .i64 (padT C tx tz).z,.int .i64 (padT C tx tz).w,.int .i64 (padT C tx tz).d,.bool (tilOk C tx tz)])∧New w w':=by
 have KT:=Lib.hid (fun W=>cq_Columns C tx tz W)
 obtain⟨p,hp⟩:∃ p,p=padT C tx tz:=⟨_,rfl⟩
 rw[←hp]
 have HG:Hid (tilOk C tx tz=true→Til C (tilB C tx tz)∧p=padB C (tilB C tx tz)):=Lib.hid (fun h=>⟨(til_ok h).1,by rw[hp];unfold padT;rw[if_pos h]⟩)
 have HZ:Hid (tilOk C tx tz=false→p=Bd.zero):=Lib.hid (fun h=>by rw[hp];unfold padT;rw[if_neg (by rw[h];simp)])
 clear hp
 generalize tilB C tx tz=b at *
 generalize tilOk C tx tz=ok at *
 go_enter Tryz.func15,Tryz.ntmps15
 go_upto_region 1 with fail
 refine Code.at (fun W0 hW=>?_)
 have n0:New w W0:=by subst hW;exact nw
 have hc:CellsAt W0 w.heap.size 0 C.enc:=by subst hW;exact cells_new _ _ _
 clear hW
 have HC:=Lib.hid (fun W (q:New W0 W)=>CfgR.at (hc.keep q))
 obtain⟨c0,c1,c2,c3,c4,c5,c6⟩:=CfgR.at hc
 go_wp2_with fail
 refine(KT.out _).mono ?_
 rintro e w1 ⟨rfl,n1⟩
 have N1:=Lib.hid (n0.trans n1)
 obtain⟨d0,d1,d2,d3,d4,d5,d6⟩:=HC.out _ n1
 clear c0 c1 c2 c3 c4 c5 c6 n0 n1 KT hc HC
 cases ok
 ·obtain rfl:=HZ.out rfl
  clear HG HZ
  go_wp2_with fail
  refine bodyPost_ret (v:=.tuple #[.int .i64 0,.int .i64 0,.int .i64 0,.int .i64 0,.bool false]) (by simp[results,Tryz.results15,go_sem, *]) rfl ?_
  exact⟨rfl,N1.out⟩
 obtain⟨hb,rfl⟩:=HG.out rfl
 obtain⟨q1,q2,q3⟩:=cfg_in hb.e
 obtain⟨-,b1,b2,b3,b4,-,-⟩:=hb
 have m0:IntKind.i64.wrap (C.cl+4)=C.cl+4:=IntWalk.i64_in _ (by omega)
 have m1:IntKind.i64.wrap (b.x - (C.cl+4))=b.x - (C.cl+4):=IntWalk.i64_in _ (by omega)
 have m2:IntKind.i64.wrap (b.z - (C.cl+4))=b.z - (C.cl+4):=IntWalk.i64_in _ (by omega)
 have m3:IntKind.i64.wrap (2*(C.cl+4))=2*(C.cl+4):=IntWalk.i64_in _ (by omega)
 have m4:IntKind.i64.wrap (b.w+2*(C.cl+4))=b.w+2*(C.cl+4):=IntWalk.i64_in _ (by omega)
 have m5:IntKind.i64.wrap (b.d+2*(C.cl+4))=b.d+2*(C.cl+4):=IntWalk.i64_in _ (by omega)
 clear q1 q2 q3 b1 b2 b3 b4 HG HZ
 go_wp2_with fail
 refine bodyPost_ret (v:=.tuple #[.int .i64 (b.x - (C.cl+4)),.int .i64 (b.z - (C.cl+4)),.int .i64 (b.w+2*(C.cl+4)),.int .i64 (b.d+2*(C.cl+4)),.bool true]) (by simp[results,Tryz.results15,go_sem, *]) rfl ?_
 exact⟨rfl,N1.out⟩
end Go.Proofs.YtmhghnbgllaihaaGreatDoor
