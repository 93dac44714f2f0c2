import Derived.Test.YtmhghnbgllaihaaGreatDoorCrC0P1Z1
import Derived.Test.YtmhghnbgllaihaaGreatDoorSpPP1Z1
import Derived.Test.YtmhghnbgllaihaaGreatDoorSoSP1Z1
import Derived.Test.YtmhghnbgllaihaaGreatDoorOgWP1Z1
import Derived.Test.YtmhghnbgllaihaaGreatDoorRaQP1Z1

namespace Go.Proofs.YtmhghnbgllaihaaGreatDoor
open Go.RowKit
set_option linter.unusedVariables false
theorem cr_within (n lo hi:Int) (w:World):Calls Tryz.prog 49 #[.int .i64 n,.int .i64 lo,.int .i64 hi] w fun e w'=>e=.returned (.bool (wiB n lo hi))∧w=w':=by
  unfold wiB
  cases h1:decide (lo≤n)
  · go_enter Tryz.func49,Tryz.ntmps49
    go_wp2_with fail
    go_ret
    exact⟨rfl,rfl⟩
  · go_enter Tryz.func49,Tryz.ntmps49
    go_wp2_with fail
    go_ret
    exact⟨rfl,rfl⟩
set_option maxHeartbeats 1000000 in
theorem cr_inRow (n:Int) (hn:1≤n∧n≤32) (w:World):Calls Tryz.prog 31 #[.int .i64 n] w fun e w'=>e=.returned (.int .i64 (tlR n))∧w=w':=by
  have h0:=tlR_is hn.1
  have h1:IntKind.i64.wrap (n - 1)=n - 1:=IntWalk.i64_in _ (by omega)
  have e:Int.tdiv (n - 1) 8=(n - 1) / 8:=Int.tdiv_eq_ediv_of_nonneg (by omega)
  have h2:IntKind.i64.wrap ((n - 1) / 8)=(n - 1) / 8:=IntWalk.i64_in _ (by omega)
  have h3:IntKind.i64.wrap ((n - 1) / 8+1)=(n - 1) / 8+1:=IntWalk.i64_in _ (by omega)
  rw[h0]
  clear h0
  go_enter Tryz.func31,Tryz.ntmps31
  go_wp2_with fail
  go_ret
  exact⟨by first|rfl|(simp only[e,h2,h3]),rfl⟩
set_option maxHeartbeats 4000000 in
set_option maxRecDepth 100000 in
theorem cr_Tiles (C:CfgR) (w:World):Calls Tryz.prog 10 #[.agg #[.int .i64 C.cl,.int .i64 C.cb,.int .i64 C.ht,.int .i64 C.ri,.int .i64 C.ru,.int .i64 C.wd,.int .i64 C.dp]] w fun e w'=>e=.returned (.tuple #[.int .i64 (tlW C),.int .i64 (tlD C)])∧New w w':=by
  have KC:Hid (∀ W,Calls Tryz.prog 30 #[.agg #[.int .i64 C.cl,.int .i64 C.cb,.int .i64 C.ht,.int .i64 C.ri,.int .i64 C.ru,.int .i64 C.wd,.int .i64 C.dp]] W fun e w'=>e=.returned (.int .i64 C.err)∧New W w'):=Lib.hid (fun W=>(check_any C.cl C.cb C.ht C.ri C.ru C.wd C.dp W).mono fun e w' h=>⟨h.1,h.2.1⟩)
  have h1:=err_or C
  obtain⟨a,ha⟩:∃ a,a=tlW C:=⟨_,rfl⟩
  obtain⟨b,hb⟩:∃ a,a=tlD C:=⟨_,rfl⟩
  rw[←ha,←hb]
  unfold tlW at ha
  unfold tlD at hb
  have KW:Hid (C.err=0→∀ W,Calls Tryz.prog 31 #[.int .i64 C.wd] W fun e w'=>e=.returned (.int .i64 a)∧New W w'):=Lib.hid (fun h W=>(cr_inRow C.wd (cfg_in h).2.1 W).mono fun e w' q=>⟨by rw[ha,if_pos h];exact q.1,q.2▸New.refl _⟩)
  have KD:Hid (C.err=0→∀ W,Calls Tryz.prog 31 #[.int .i64 C.dp] W fun e w'=>e=.returned (.int .i64 b)∧New W w'):=Lib.hid (fun h W=>(cr_inRow C.dp (cfg_in h).2.2 W).mono fun e w' q=>⟨by rw[hb,if_pos h];exact q.1,q.2▸New.refl _⟩)
  have HA:Hid (C.err≠0→a=0∧b=0):=Lib.hid (fun h=>⟨by rw[ha,if_neg h],by rw[hb,if_neg h]⟩)
  clear ha hb
  generalize C.err=ce at *
  go_enter Tryz.func10,Tryz.ntmps10
  go_upto_region 1 with fail
  refine Code.at (fun W0 hW=>?_)
  have n0:New w W0:=by subst hW;exact nw
  have hc:CellsAt W0 w.heap.size 0 C.enc:=by subst hW;exact cells_new _ _ _
  clear hW
  have HC:=Lib.hid (fun W (q:New W0 W)=>CfgR.at (hc.keep q))
  obtain⟨c0,c1,c2,c3,c4,c5,c6⟩:=CfgR.at hc
  go_wp2_with fail
  refine(KC.out _).mono ?_
  rintro e w1 ⟨rfl,n1⟩
  have N1:=Lib.hid (n0.trans n1)
  obtain⟨d0,d1,d2,d3,d4,d5,d6⟩:=HC.out _ n1
  clear c0 c1 c2 c3 c4 c5 c6 n0 n1 KC hc
  rcases h1 with rfl|rfl
  · have K1':=Lib.hid (KW.out rfl)
    have K2':=Lib.hid (KD.out rfl)
    clear KW KD HA
    go_upto_region 3 with fail
    (refine wp_region_hat (by kernel_rfl) (by kernel_rfl) ?_;intro hatc hatf;(repeat(go_big_quiet_step ((first|(go_at_call 31;exact Calls.hat (K1'.out _))|(go_at_call 31;exact Calls.hat (K2'.out _))))));refine wpQuiet_nil ?_;rintro _ ⟨x,rfl⟩)
    go_wp2_with fail
    go_ret2
    exact⟨rfl,N1.out.trans x.h⟩
  · obtain⟨rfl,rfl⟩:=HA.out (by omega)
    go_wp2_with fail
    go_ret2
    exact⟨rfl,N1.out⟩
set_option maxHeartbeats 4000000 in
set_option maxRecDepth 100000 in
theorem cr_tile (C:CfgR) (tx tz:Int) (w:World):Calls Tryz.prog 32 #[.agg #[.int .i64 C.cl,.int .i64 C.cb,.int .i64 C.ht,.int .i64 C.ri,.int .i64 C.ru,.int .i64 C.wd,.int .i64 C.dp],.int .i64 tx,.int .i64 tz] w fun e w'=>e=.returned (.tuple #[.agg #[.int .i64 (tilB C tx tz).x,.int .i64 (tilB C tx tz).z,.int .i64 (tilB C tx tz).w,.int .i64 (tilB C tx tz).d],.bool (tilOk C tx tz)])∧New w w':=by
  have KT:=Lib.hid (fun W=>cr_Tiles C W)
  have KW:=Lib.hid (fun n hi W=>cr_within n 0 hi W)
  have hT:(0≤tlW C∧tlW C≤4)∧0≤tlD C∧tlD C≤4:=by
    unfold tlW tlD
    by_cases hC:C.err=0
    · obtain⟨h1,h2,h3⟩:=cfg_in hC
      rw[if_pos hC,if_pos hC,tlR_is (by omega),tlR_is (by omega)]
      omega
    · rw[if_neg hC,if_neg hC]
      omega
  have hOK:tilOk C tx tz=(wiB tx 0 (tlW C - 1)&&wiB tz 0 (tlD C - 1)):=rfl
  have HG:=Lib.hid (fun h=>(til_ok (C:=C) (tx:=tx) (tz:=tz) h))
  have HZ:Hid (tilOk C tx tz=false→tilB C tx tz=Bd.zero):=Lib.hid (fun h=>by unfold tilB;rw[if_neg (by rw[h];simp)])
  obtain⟨B,hB⟩:∃ B,B=tilB C tx tz:=⟨_,rfl⟩
  obtain⟨ok,hok⟩:∃ o,o=tilOk C tx tz:=⟨_,rfl⟩
  rw[←hB,←hok]
  have HB:=Lib.hid hB
  have HOK:=Lib.hid hok
  clear hB hok
  generalize tlW C=a at *
  generalize tlD C=d at *
  have ha:IntKind.i64.wrap (a - 1)=a - 1:=IntWalk.i64_in _ (by omega)
  have hd:IntKind.i64.wrap (d - 1)=d - 1:=IntWalk.i64_in _ (by omega)
  clear hT
  go_enter Tryz.func32,Tryz.ntmps32
  go_upto_region 1 with fail
  refine Code.at (fun W0 hW=>?_)
  have n0:New w W0:=by subst hW;exact nw
  have hc:CellsAt W0 w.heap.size 0 C.enc:=by subst hW;exact(cells_new w _ _).keep (by exact nw)
  have r0:W0.heap[w.heap.size+1]? = some (.cells #[.int .i64 0,.int .i64 0,.int .i64 0,.int .i64 0] 70 (0,0)):=by
    subst hW
    have h:=World.alloc_heap_new (w.alloc (.cells #[.int .i64 C.cl,.int .i64 C.cb,.int .i64 C.ht,.int .i64 C.ri,.int .i64 C.ru,.int .i64 C.wd,.int .i64 C.dp] 23)) (.cells #[.int .i64 0,.int .i64 0,.int .i64 0,.int .i64 0] 70)
    rw[World.size_alloc]at h
    exact h
  clear hW
  have HC:=Lib.hid (fun W (q:New W0 W)=>CfgR.at (hc.keep q))
  have HR0:=Lib.hid (fun W (q:New W0 W)=>(q.block _ (Array.getElem?_eq_some_iff.1 r0).1).trans r0)
  have N0:=Lib.hid n0
  obtain⟨c0,c1,c2,c3,c4,c5,c6⟩:=CfgR.at hc
  go_wp2_with fail
  refine(KT.out _).mono ?_
  rintro e w1 ⟨rfl,n1⟩
  clear c0 c1 c2 c3 c4 c5 c6 hc r0 n0
  obtain⟨c0,c1,c2,c3,c4,c5,c6⟩:=HC.out _ n1
  have q0:=HR0.out _ n1
  have y0:w1.cell? ⟨w.heap.size+1,0,none⟩=some (.int .i64 0):=cell_of_heap q0 rfl
  have y1:w1.cell? ⟨w.heap.size+1,1,none⟩=some (.int .i64 0):=cell_of_heap q0 rfl
  have y2:w1.cell? ⟨w.heap.size+1,2,none⟩=some (.int .i64 0):=cell_of_heap q0 rfl
  have y3:w1.cell? ⟨w.heap.size+1,3,none⟩=some (.int .i64 0):=cell_of_heap q0 rfl
  have f0:w1.frozen? ⟨w.heap.size+1,0,none⟩=false:=by simp[World.frozen?,q0]
  have f1:w1.frozen? ⟨w.heap.size+1,1,none⟩=false:=by simp[World.frozen?,q0]
  have f2:w1.frozen? ⟨w.heap.size+1,2,none⟩=false:=by simp[World.frozen?,q0]
  have f3:w1.frozen? ⟨w.heap.size+1,3,none⟩=false:=by simp[World.frozen?,q0]
  have nn:=N0.out.trans n1
  clear q0 n1 KT HC HR0 N0
  have K1:=fun W=>KW.out tx (a - 1) W
  have K2:=fun W=>KW.out tz (d - 1) W
  clear KW
  cases h1:wiB tx 0 (a - 1)
  · have h0:tilOk C tx tz=false:=by rw[hOK,h1];rfl
    have hz:=HZ.out h0
    obtain rfl:ok=false:=HOK.out.trans h0
    obtain rfl:B=Bd.zero:=HB.out.trans hz
    rw[h1]at K1
    clear h0 hz hOK h1 HG HZ HB HOK
    go_wp2_with fail
    refine(K1 _).mono ?_
    rintro e w2 ⟨rfl,rfl⟩
    go_wp2_with fail
    generalize hW5:World.setCell _ _ _=W5
    have n5:New w W5:=by subst hW5;exact nw
    have k0:W5.cell? ⟨w.heap.size+1,0,none⟩=some (.int .i64 0):=by subst hW5;go_simp
    have k1:W5.cell? ⟨w.heap.size+1,1,none⟩=some (.int .i64 0):=by subst hW5;go_simp
    have k2:W5.cell? ⟨w.heap.size+1,2,none⟩=some (.int .i64 0):=by subst hW5;go_simp
    have k3:W5.cell? ⟨w.heap.size+1,3,none⟩=some (.int .i64 0):=by subst hW5;go_simp
    clear hW5 y0 y1 y2 y3 f0 f1 f2 f3
    refine bodyPost_ret (v:=.tuple #[.agg #[.int .i64 0,.int .i64 0,.int .i64 0,.int .i64 0],.bool false]) (by simp[results,Tryz.results32,go_sem, *]) rfl ?_
    exact⟨rfl,n5⟩
  cases h2:wiB tz 0 (d - 1)
  · have h0:tilOk C tx tz=false:=by rw[hOK,h1,h2];rfl
    have hz:=HZ.out h0
    obtain rfl:ok=false:=HOK.out.trans h0
    obtain rfl:B=Bd.zero:=HB.out.trans hz
    rw[h1]at K1
    rw[h2]at K2
    clear h0 hz hOK h1 h2 HG HZ HB HOK
    go_wp2_with fail
    refine(K1 _).mono ?_
    rintro e w2 ⟨rfl,rfl⟩
    go_wp2_with fail
    refine(K2 _).mono ?_
    rintro e w2 ⟨rfl,rfl⟩
    go_wp2_with fail
    generalize hW5:World.setCell _ _ _=W5
    have n5:New w W5:=by subst hW5;exact nw
    have k0:W5.cell? ⟨w.heap.size+1,0,none⟩=some (.int .i64 0):=by subst hW5;go_simp
    have k1:W5.cell? ⟨w.heap.size+1,1,none⟩=some (.int .i64 0):=by subst hW5;go_simp
    have k2:W5.cell? ⟨w.heap.size+1,2,none⟩=some (.int .i64 0):=by subst hW5;go_simp
    have k3:W5.cell? ⟨w.heap.size+1,3,none⟩=some (.int .i64 0):=by subst hW5;go_simp
    clear hW5 y0 y1 y2 y3 f0 f1 f2 f3
    refine bodyPost_ret (v:=.tuple #[.agg #[.int .i64 0,.int .i64 0,.int .i64 0,.int .i64 0],.bool false]) (by simp[results,Tryz.results32,go_sem, *]) rfl ?_
    exact⟨rfl,n5⟩
  have h0:tilOk C tx tz=true:=by rw[hOK,h1,h2];rfl
  obtain⟨g1,g2,g3,g4⟩:=HG.out h0
  obtain rfl:ok=true:=HOK.out.trans h0
  obtain rfl:=HB.out.trans g2
  rw[h1]at K1
  rw[h2]at K2
  obtain⟨-,q2,q3⟩:=cfg_in g1.e
  have m1:IntKind.i64.wrap (8*tx)=8*tx:=IntWalk.i64_in _ (by omega)
  have m2:IntKind.i64.wrap (8*tz)=8*tz:=IntWalk.i64_in _ (by omega)
  have m3:IntKind.i64.wrap (C.wd - 8*tx)=C.wd - 8*tx:=IntWalk.i64_in _ (by omega)
  have m4:IntKind.i64.wrap (C.dp - 8*tz)=C.dp - 8*tz:=IntWalk.i64_in _ (by omega)
  clear h0 hOK h1 h2 HG HZ g1 g2 g3 g4 q2 q3 HB HOK
  go_wp2_with fail
  refine(K1 _).mono ?_
  rintro e w2 ⟨rfl,rfl⟩
  go_wp2_with fail
  refine(K2 _).mono ?_
  rintro e w2 ⟨rfl,rfl⟩
  go_wp2_with fail
  generalize hW5:World.setCell _ _ _=W5
  have n5:New w W5:=by subst hW5;exact nw
  have k0:W5.cell? ⟨w.heap.size+1,0,none⟩=some (.int .i64 (8*tx)):=by subst hW5;go_simp
  have k1:W5.cell? ⟨w.heap.size+1,1,none⟩=some (.int .i64 (8*tz)):=by subst hW5;go_simp
  have k2:W5.cell? ⟨w.heap.size+1,2,none⟩=some (.int .i64 (min 8 (C.wd - 8*tx))):=by subst hW5;go_simp
  have k3:W5.cell? ⟨w.heap.size+1,3,none⟩=some (.int .i64 (min 8 (C.dp - 8*tz))):=by subst hW5;go_simp
  clear hW5 y0 y1 y2 y3 f0 f1 f2 f3
  refine bodyPost_ret (v:=.tuple #[.agg #[.int .i64 (8*tx),.int .i64 (8*tz),.int .i64 (min 8 (C.wd - 8*tx)),.int .i64 (min 8 (C.dp - 8*tz))],.bool true]) (by simp[results,Tryz.results32,go_sem, *]) rfl ?_
  exact⟨rfl,n5⟩
set_option maxHeartbeats 4000000 in
set_option maxRecDepth 100000 in
theorem cr_padded (C:CfgR) (b:Bd) (hb:Til C b) (w:World):Calls Tryz.prog 33 #[.agg #[.int .i64 b.x,.int .i64 b.z,.int .i64 b.w,.int .i64 b.d],.agg #[.int .i64 C.cl,.int .i64 C.cb,.int .i64 C.ht,.int .i64 C.ri,.int .i64 C.ru,.int .i64 C.wd,.int .i64 C.dp]] w fun e w'=>e=.returned (.agg #[.int .i64 (padB C b).x,.int .i64 (padB C b).z,.int .i64 (padB C b).w,.int .i64 (padB C b).d])∧New w w':=by
  obtain⟨q1,q2,q3⟩:=cfg_in hb.e
  obtain⟨-,b1,b2,b3,b4,-,-⟩:=hb
  have m0:IntKind.i64.wrap (C.cl+4)=C.cl+4:=IntWalk.i64_in _ (by omega)
  have m1:IntKind.i64.wrap (b.x - (C.cl+4))=b.x - (C.cl+4):=IntWalk.i64_in _ (by omega)
  have m2:IntKind.i64.wrap (b.z - (C.cl+4))=b.z - (C.cl+4):=IntWalk.i64_in _ (by omega)
  have m3:IntKind.i64.wrap (2*(C.cl+4))=2*(C.cl+4):=IntWalk.i64_in _ (by omega)
  have m4:IntKind.i64.wrap (b.w+2*(C.cl+4))=b.w+2*(C.cl+4):=IntWalk.i64_in _ (by omega)
  have m5:IntKind.i64.wrap (b.d+2*(C.cl+4))=b.d+2*(C.cl+4):=IntWalk.i64_in _ (by omega)
  clear q1 q2 q3 b1 b2 b3 b4
  unfold padB
  dsimp only
  go_enter Tryz.func33,Tryz.ntmps33
  go_wp2_with fail
  refine bodyPost_ret (v:=.agg #[.int .i64 (b.x - (C.cl+4)),.int .i64 (b.z - (C.cl+4)),.int .i64 (b.w+2*(C.cl+4)),.int .i64 (b.d+2*(C.cl+4))]) (by simp[results,Tryz.results33,go_sem, *]) rfl ?_
  exact⟨rfl,by exact nw⟩
set_option maxHeartbeats 4000000 in
set_option maxRecDepth 100000 in
theorem cr_has (b:Bd) (hb:Box4 b) (x z:Int) (w:World):Calls Tryz.prog 40 #[.agg #[.int .i64 b.x,.int .i64 b.z,.int .i64 b.w,.int .i64 b.d],.int .i64 x,.int .i64 z] w fun e w'=>e=.returned (.bool (b.has x z))∧New w w':=by
  obtain⟨b1,b2,b3,b4⟩:=hb
  have K1:=fun W=>cr_within x b.x (b.x+b.w - 1) W
  have K2:=fun W=>cr_within z b.z (b.z+b.d - 1) W
  have m1:IntKind.i64.wrap (b.x+b.w)=b.x+b.w:=IntWalk.i64_in _ (by omega)
  have m2:IntKind.i64.wrap (b.x+b.w - 1)=b.x+b.w - 1:=IntWalk.i64_in _ (by omega)
  have m3:IntKind.i64.wrap (b.z+b.d)=b.z+b.d:=IntWalk.i64_in _ (by omega)
  have m4:IntKind.i64.wrap (b.z+b.d - 1)=b.z+b.d - 1:=IntWalk.i64_in _ (by omega)
  clear b1 b2 b3 b4
  unfold Bd.has
  generalize wiB x b.x (b.x+b.w - 1)=r1 at *
  generalize wiB z b.z (b.z+b.d - 1)=r2 at *
  cases r1
  · go_enter Tryz.func40,Tryz.ntmps40
    go_wp2_with fail
    refine(K1 _).mono ?_
    rintro e w2 ⟨rfl,rfl⟩
    go_wp2_with fail
    go_ret
    exact⟨rfl,by exact nw⟩
  · go_enter Tryz.func40,Tryz.ntmps40
    go_wp2_with fail
    refine(K1 _).mono ?_
    rintro e w2 ⟨rfl,rfl⟩
    go_wp2_with fail
    refine(K2 _).mono ?_
    rintro e w2 ⟨rfl,rfl⟩
    go_wp2_with fail
    go_ret
    exact⟨rfl,by exact nw⟩
set_option maxHeartbeats 4000000 in
set_option maxRecDepth 100000 in
theorem cr_column (b:Bd) (hb:Box4 b) (i:Nat) (hi:i<b.d.toNat*b.w.toNat) (w:World):Calls Tryz.prog 43 #[.agg #[.int .i64 b.x,.int .i64 b.z,.int .i64 b.w,.int .i64 b.d],.int .i64 (i:Nat)] w fun e w'=>e=.returned (.tuple #[.int .i64 (b.x+((i % b.w.toNat:Nat):Int)),.int .i64 (b.z+((i / b.w.toNat:Nat):Int))])∧New w w':=by
  obtain⟨n,m,e1,e2,w1,w2,d1,d2,e3,e4⟩:=hb.nat
  obtain⟨b1,b2,b3,b4⟩:=hb
  rw[e3,e4]at hi
  rw[e3]
  have hd:i / n<m:=(Nat.div_lt_iff_lt_mul (by omega)).2 hi
  have hm:i % n<n:=Nat.mod_lt _ (by omega)
  have t1:Int.tmod (i:Int) b.w=((i % n:Nat):Int):=by rw[e1,Int.tmod_eq_emod_of_nonneg (by omega),Int.natCast_emod]
  have t2:Int.tdiv (i:Int) b.w=((i / n:Nat):Int):=by rw[e1,Int.tdiv_eq_ediv_of_nonneg (by omega),Int.natCast_ediv]
  have t3:(b.w==0)=false:=by rw[beq_eq_false_iff_ne];omega
  have t4:¬ b.w=0:=by omega
  generalize i % n=p at *
  generalize i / n=q at *
  have m1:IntKind.i64.wrap ((p:Nat):Int)=(p:Nat):=IntWalk.i64_in _ (by omega)
  have m2:IntKind.i64.wrap ((q:Nat):Int)=(q:Nat):=IntWalk.i64_in _ (by omega)
  have m3:IntKind.i64.wrap (b.x+((p:Nat):Int))=b.x+((p:Nat):Int):=IntWalk.i64_in _ (by omega)
  have m4:IntKind.i64.wrap (b.z+((q:Nat):Int))=b.z+((q:Nat):Int):=IntWalk.i64_in _ (by omega)
  clear b1 b2 b3 b4 e1 e2 w1 w2 d1 d2 e3 e4 hi hd hm
  go_enter Tryz.func43,Tryz.ntmps43
  go_upto_region 1 with fail
  refine Code.at (fun W0 hW=>?_)
  have n0:New w W0:=by subst hW;exact nw
  have c0:W0.cell? ⟨w.heap.size,0,none⟩=some (.int .i64 b.x):=by subst hW;go_simp
  have c1:W0.cell? ⟨w.heap.size,1,none⟩=some (.int .i64 b.z):=by subst hW;go_simp
  have c2:W0.cell? ⟨w.heap.size,2,none⟩=some (.int .i64 b.w):=by subst hW;go_simp
  clear hW
  (refine wp_region_hat (by kernel_rfl) (by kernel_rfl) ?_;intro hatc hatf;(repeat(go_big_quiet_step ((fail))));refine wpQuiet_nil ?_;rintro _ ⟨x,rfl⟩)
  go_wp2_with fail
  go_ret2
  exact⟨rfl,n0.trans x.h⟩
set_option maxHeartbeats 4000000 in
set_option maxRecDepth 100000 in
theorem cr_grid (b:Bd) (v:Value) (hv:∃ a n c,v=.slice a n c) (w:World):Calls Tryz.prog 36 #[.agg #[.int .i64 b.x,.int .i64 b.z,.int .i64 b.w,.int .i64 b.d],v] w fun e w'=>e=.returned (.agg #[.int .i64 b.x,.int .i64 b.z,.int .i64 b.w,.int .i64 b.d,v])∧New w w':=by
  obtain⟨a,n,c,rfl⟩:=hv
  go_enter Tryz.func36,Tryz.ntmps36
  go_wp2_with fail
  refine bodyPost_ret (v:=.agg #[.int .i64 b.x,.int .i64 b.z,.int .i64 b.w,.int .i64 b.d,.slice a n c]) (by simp[results,Tryz.results36,go_sem, *]) rfl ?_
  exact⟨rfl,by exact nw⟩
end Go.Proofs.YtmhghnbgllaihaaGreatDoor

namespace Go.Proofs.YtmhghnbgllaihaaGreatDoor
open Go.RowKit
set_option linter.unusedVariables false
theorem kf_info:(Tryz.prog.info? 56).map (fun i=>(i.zero,i.size,i.bytes))=some (some (.agg #[.int .i64 0,.int .i64 0,.int .i64 0]),3,24):=by kernel_rfl
theorem kr_info:(Tryz.prog.info? 54).map (fun i=>(i.zero,i.size,i.bytes))=some (some (.slice none 0 0),1,24):=by kernel_rfl
theorem kf_sl (w:World) (f:Fl) (t:TypeId):Sl Fl.enc 3 (w.alloc (.cells #[.int .i64 f.y,.int .i64 f.top,.int .i64 f.area] t)) (.slice (some ⟨w.heap.size,0,none⟩) 1 1) [f] :=
  ⟨_,_,rfl,Nat.le_refl _,by unfold maxLen;omega,fun h=>(by cases h),fun _=>⟨w.heap.size,0,rfl,fun j hj i hi=>by
    have hj':j=0:=by simpa using hj
    subst hj'
    have hi':i<3:=hi
    have hz:=World.alloc_heap_new w (.cells #[.int .i64 f.y,.int .i64 f.top,.int .i64 f.area] t)
    rcases(show i=0∨i=1∨i=2 by omega)with rfl|rfl|rfl <;> exact cell_of_heap hz rfl⟩⟩
set_option maxHeartbeats 4000000 in
set_option maxRecDepth 100000 in
theorem cr_keepF (at0:Option Addr) (l:List Fl) (cap:Nat) (hl:l.length≤8) (B1 B2:Nat) (p:Nat→Bool) (w:World) (H:RowIn Fl.enc 3 w at0 l)
    (K:∀ k:Nat,k<l.length→∀ W,New w W→Calls Tryz.prog 61 #[.int .i64 (k:Nat),.pointer (some ⟨B1,0,none⟩),.pointer (some ⟨B2,0,none⟩)] W fun e w'=>e=.returned (.bool (p k))∧New W w') :
    Calls Tryz.prog 60 #[.slice at0 l.length cap,.func (.func 61) #[] #[.pointer (some ⟨B1,0,none⟩),.pointer (some ⟨B2,0,none⟩)]] w fun e w'=>∃ v,e=.returned v∧w'.ownsRow w.heap.size 56 3 v (keepL l p).length ((keepL l p).flatMap Fl.enc)∧New w w':=by
  obtain⟨i0,hi0,hz0,hz1,hz2⟩:=info_parts kf_info
  have HH:=Lib.hid H
  have HK:=Lib.hid K
  have HT0:Hid (keepT l p 0=[]):=Lib.hid rfl
  have HTY:Hid (∀ i (h:i<l.length),p i=true→keepT l p (i+1)=keepT l p i++[l[i]]):=Lib.hid (fun i h c=>keepT_yes h c)
  have HTN:Hid (∀ i,p i=false→keepT l p (i+1)=keepT l p i):=Lib.hid (fun i c=>keepT_no c)
  have HTL:=Lib.hid (fun i=>keepT_len l p i)
  unfold keepL
  obtain⟨n,hn⟩:∃ q,q=l.length:=⟨_,rfl⟩
  rw[←hn]at hl ⊢
  have HN:=Lib.hid hn
  generalize keepT l p=T at *
  clear hn H K
  go_enter Tryz.func60,Tryz.ntmps60
  go_wp2_with fail
  go_loopg [10,5] n (fun gk s10 s5 wr=>∃ (i:Nat) (ra:Option Addr) (rn rc:Nat),s10=.int .i64 i∧s5=.slice ra rn rc∧i≤n∧n - i≤gk∧Hid (wr.ownsRow w.heap.size 56 3 (.slice ra rn rc) (T i).length ((T i).flatMap Fl.enc))∧Hid (New w wr))
  case atStart=>exact⟨0,none,0,0,rfl,rfl,by omega,by omega,Lib.hid (by rw[HT0.out];exact World.ownsRow_nil _ _ _ _),Lib.hid (New.refl _)⟩
  case round =>
    obtain⟨i,ra,rn,rc,rfl,rfl,hi,hgk,HO,HNW⟩:=hrel
    by_cases hlt:i<n
    · have hil:i<l.length:=by rw[←HN.out];exact hlt
      obtain⟨b,off,rfl,hA⟩:=HH.out (by omega)
      obtain⟨c0,c1,c2⟩:=Fl.cells (hA.keep HNW.out) i hil
      have hy:=fun c=>HTY.out i hil c
      have hno:=fun c=>HTN.out i c
      have htl:=HTL.out i
      obtain⟨f,hf⟩:∃ f,f=l[i]:=⟨_,rfl⟩
      rw[←hf]at c0 c1 c2 hy
      have HY:=Lib.hid hy
      have HNO:=Lib.hid hno
      clear hA hf hy hno
      go_upto_region 5 with fail
      refine Code.at (fun W5 hW=>?_)
      have n5:New wr W5:=by subst hW;exact nw
      have d0:W5.cell? ⟨wr.heap.size,0,none⟩=some (.int .i64 f.y):=by subst hW;go_simp
      have d1:W5.cell? ⟨wr.heap.size,1,none⟩=some (.int .i64 f.top):=by subst hW;go_simp
      have d2:W5.cell? ⟨wr.heap.size,2,none⟩=some (.int .i64 f.area):=by subst hW;go_simp
      clear hW c0 c1 c2
      have HD:=Lib.hid (fun W (q:New W5 W)=>And.intro (q.keep d0) (And.intro (q.keep d1) (q.keep d2)))
      have N5:=Lib.hid (HNW.out.trans n5)
      have HO5:=Lib.hid (own_new HO.out n5)
      have hwb:wr.heap.size<W5.heap.size:=World.block_lt_of_cell? _ _ d0
      clear d0 d1 d2 n5 HO
      have K5:=HK.out i hil W5 N5.out
      have hbz:w.heap.size≤W5.heap.size:=N5.out.size
      cases hp:p i
      · rw[hp]at K5
        have e1:=HNO.out hp
        go_wp2_with fail
        refine K5.mono ?_
        rintro e w6 ⟨rfl,n6⟩
        have HO6:=Lib.hid (own_new HO5.out n6)
        have N6:=Lib.hid (N5.out.trans n6)
        clear n6 HO5
        go_wp2_with fail
        go_roundg (n - (i+1))
        case measure=>omega
        case rel=>exact⟨i+1,ra,rn,rc,by go_num,rfl,by omega,by omega,Lib.hid (by rw[e1];exact HO6.out),N6⟩
      · rw[hp]at K5
        have e1:=HY.out hp
        go_wp2_with fail
        refine K5.mono ?_
        rintro e w6 ⟨rfl,n6⟩
        have HO6:=Lib.hid (own_new HO5.out n6)
        have N6:=Lib.hid (N5.out.trans n6)
        have hb6:=N6.out.size
        obtain⟨d0,d1,d2⟩:=HD.out _ n6
        clear n6 HO5
        generalize T i=l0 at *
        have HE1:=Lib.hid e1
        clear e1
        go_wp2_with (at_builtin;refine wpList_append_sl rfl _ _ 54 rfl Fl.enc_len Fl.enc_one w.heap.size 56 i0 _ 24 Tryz.underlying54 hi0 hz0 hz1 hz2 rfl (by decide) _ l0 rfl (own_new HO6.out ((New.refl _).alloc _)) _ [f] rfl (kf_sl _ f _) (by unfold maxLen;simp;omega) (by simp;omega) (by simp;omega) ?_;intro v' w1 hown' hnew _;obtain⟨a',d',N',hN',rfl⟩:=own_shape2 hown';clear hN';have nw1:=hnew w (N6.out.trans ((New.refl _).alloc _)) (Nat.le_refl _))
        go_roundg (n - (i+1))
        case measure=>omega
        case rel=>exact⟨i+1,a',N',d',by go_num,rfl,by omega,by omega,Lib.hid (by rw[HE1.out];exact hown'),Lib.hid nw1⟩
    · obtain rfl:i=n:=by omega
      go_wp2_with fail
      go_ret
      exact⟨_,rfl,HO.out,HNW.out⟩
set_option maxRecDepth 100000 in
theorem wpList_app_col {ops:Array Oper} {rest:List Oper} {o:Oper} {a:Act} {w:World} {Q:Exit→Act→World→Prop} (hgd:o.guard=none) (s x:Operand) (ho:o.op=.call { callee:=.builtin .append,args:=#[s,x],argTypes:=#[35,35] })
    (base:Nat) (v:Value) (us:List Value) (hs:a.eval s=v) (hown:w.ownsRow base 54 1 v us.length us) (p:Nat) (u:Value) (hx:a.eval x=.slice (some ⟨p,0,none⟩) 1 1)
    (hp:w.cell? ⟨p,0,none⟩=some u) (h1:u.oneCell'=true) (hl:us.length≤100000) (hbase:base≤w.heap.size)
    (h:∀ v' w',w'.ownsRow base 54 1 v' (us++[u]).length (us++[u])→(∀ a0,New a0 w→a0.heap.size≤base→New a0 w')→wpList Tryz.prog ops Q rest (a.put o.dst v') w'):wpList Tryz.prog ops Q (o::rest) a w:=by
  obtain⟨i0,hi0,hz0,hz1,hz2⟩:=info_parts kr_info
  refine wpList_append_own_at w hgd s x 35 ho base 54 i0 (.slice none 0 0) 1 24 Tryz.underlying35 hi0 hz0 hz1 hz2 rfl (by decide) v us.length us hs hown ⟨p,0,none⟩ 1 1 [u] hx rfl ?_ ?_ (by unfold maxLen;omega) (by omega) hbase ?_
  · intro j t hj
    match j,hj with
    | 0,hj =>
      injection hj with hj
      subst hj
      exact hp
    | j+1,hj=>cases hj
  · intro t ht
    rw[List.mem_singleton]at ht
    subst ht
    exact h1
  · intro v' w' h2 h3 _ h5
    exact h v' w' (by simpa using h2) (fun a0 hn hb=>newGrown hn h3 (fun j hj=>by have:=(hown.lt j hj).1;omega))
set_option maxHeartbeats 4000000 in
set_option maxRecDepth 100000 in
theorem cr_keepR (at0:Option Addr) (l:List Value) (cap:Nat) (hl:l.length≤4096) (ho:∀ u∈l,∃ a n c,u=.slice a n c) (B1 B2:Nat) (p:Nat→Bool) (w:World) (H:RowIn oneV 1 w at0 l)
    (K:∀ k:Nat,k<l.length→∀ W,New w W→Calls Tryz.prog 63 #[.int .i64 (k:Nat),.pointer (some ⟨B1,0,none⟩),.pointer (some ⟨B2,0,none⟩)] W fun e w'=>e=.returned (.bool (p k))∧New W w') :
    Calls Tryz.prog 62 #[.slice at0 l.length cap,.func (.func 63) #[] #[.pointer (some ⟨B1,0,none⟩),.pointer (some ⟨B2,0,none⟩)]] w fun e w'=>∃ v,e=.returned v∧w'.ownsRow w.heap.size 54 1 v (keepL l p).length (keepL l p)∧New w w':=by
  obtain⟨i0,hi0,hz0,hz1,hz2⟩:=info_parts kr_info
  have HH:=Lib.hid H
  have HK:=Lib.hid K
  have HU:=Lib.hid ho
  have HT0:Hid (keepT l p 0=[]):=Lib.hid rfl
  have HTY:Hid (∀ i (h:i<l.length),p i=true→keepT l p (i+1)=keepT l p i++[l[i]]):=Lib.hid (fun i h c=>keepT_yes h c)
  have HTN:Hid (∀ i,p i=false→keepT l p (i+1)=keepT l p i):=Lib.hid (fun i c=>keepT_no c)
  have HTL:=Lib.hid (fun i=>keepT_len l p i)
  unfold keepL
  obtain⟨n,hn⟩:∃ q,q=l.length:=⟨_,rfl⟩
  rw[←hn]at hl ⊢
  have HN:=Lib.hid hn
  generalize keepT l p=T at *
  clear hn H K ho
  go_enter Tryz.func62,Tryz.ntmps62
  go_wp2_with fail
  go_loopg [10,5] n (fun gk s10 s5 wr=>∃ (i:Nat) (ra:Option Addr) (rn rc:Nat),s10=.int .i64 i∧s5=.slice ra rn rc∧i≤n∧n - i≤gk∧Hid (wr.ownsRow w.heap.size 54 1 (.slice ra rn rc) (T i).length (T i))∧Hid (New w wr))
  case atStart=>exact⟨0,none,0,0,rfl,rfl,by omega,by omega,Lib.hid (by rw[HT0.out];exact World.ownsRow_nil _ _ _ _),Lib.hid (New.refl _)⟩
  case round =>
    obtain⟨i,ra,rn,rc,rfl,rfl,hi,hgk,HO,HNW⟩:=hrel
    by_cases hlt:i<n
    · have hil:i<l.length:=by rw[←HN.out];exact hlt
      obtain⟨b,off,rfl,hA⟩:=HH.out (by omega)
      have c0:=(hA.keep HNW.out) i hil 0 (by show 0<1;omega)
      rw[Nat.mul_one,Nat.add_zero]at c0
      have hy:=fun c=>HTY.out i hil c
      have hno:=fun c=>HTN.out i c
      have htl:=HTL.out i
      have hus:=HU.out l[i] (List.getElem_mem hil)
      have eu:(oneV l[i])[0]'(by show 0<1;omega)=l[i]:=rfl
      rw[eu]at c0
      clear eu
      obtain⟨u,hu⟩:∃ u,u=l[i]:=⟨_,rfl⟩
      rw[←hu]at c0 hy hus
      have HY:=Lib.hid hy
      have HNO:=Lib.hid hno
      clear hA hu hy hno
      obtain⟨ua,un,uc,rfl⟩:=hus
      have K5:=HK.out i hil wr HNW.out
      have hbz:w.heap.size≤wr.heap.size:=HNW.out.size
      cases hp:p i
      · rw[hp]at K5
        have e1:=HNO.out hp
        go_wp2_with fail
        refine K5.mono ?_
        rintro e w6 ⟨rfl,n6⟩
        have HO6:=Lib.hid (own_new HO.out n6)
        have N6:=Lib.hid (HNW.out.trans n6)
        clear n6 HO
        go_wp2_with fail
        go_roundg (n - (i+1))
        case measure=>omega
        case rel=>exact⟨i+1,ra,rn,rc,by go_num,rfl,by omega,by omega,Lib.hid (by rw[e1];exact HO6.out),N6⟩
      · rw[hp]at K5
        have e1:=HY.out hp
        go_wp2_with fail
        refine K5.mono ?_
        rintro e w6 ⟨rfl,n6⟩
        have HO6:=Lib.hid (own_new HO.out n6)
        have N6:=Lib.hid (HNW.out.trans n6)
        have hb6:=N6.out.size
        clear n6 HO
        generalize T i=l0 at *
        have HE1:=Lib.hid e1
        clear e1
        go_wp2_with (at_builtin;refine wpList_app_col rfl _ _ rfl w.heap.size _ l0 rfl (own_new HO6.out ((New.refl _).alloc _)) w6.heap.size (.slice ua un uc) rfl (cell_of_heap (World.alloc_heap_new _ _) rfl) rfl (by omega) (by simp;omega) ?_;intro v' w1 hown' hnew;obtain⟨a',d',N',hN',rfl⟩:=own_shape2 hown';clear hN';have nw1:=hnew w (N6.out.trans ((New.refl _).alloc _)) (Nat.le_refl _))
        go_roundg (n - (i+1))
        case measure=>omega
        case rel=>exact⟨i+1,a',N',d',by go_num,rfl,by omega,by omega,Lib.hid (by rw[HE1.out];exact hown'),Lib.hid nw1⟩
    · obtain rfl:i=n:=by omega
      go_wp2_with fail
      go_ret
      exact⟨_,rfl,HO.out,HNW.out⟩
end Go.Proofs.YtmhghnbgllaihaaGreatDoor
