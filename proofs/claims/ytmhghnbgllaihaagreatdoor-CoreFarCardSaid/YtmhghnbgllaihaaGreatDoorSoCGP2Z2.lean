import Derived.Test.YtmhghnbgllaihaaGreatDoorSoLSP2Z2
import Derived.Deep.LoopGhost
import Derived.Test.YtmhghnbgllaihaaGreatDoorLooseEP2Z2
import Derived.Test.YtmhghnbgllaihaaGreatDoorSoCEP2Z2
import Derived.Test.YtmhghnbgllaihaaGreatDoorSoYP2Z2
set_option linter.unusedVariables false
set_option linter.unusedSimpArgs false
set_option maxHeartbeats 16000000
set_option maxRecDepth 100000

namespace Go.Proofs.YtmhghnbgllaihaaGreatDoor
open Go.RowKit
theorem t_info:(Tryz.prog.info? 64).map (fun i=>(i.zero,i.size,i.bytes))=some (some (.agg #[.int .i64 TriR.zero.i,.int .i64 TriR.zero.x0,.int .i64 TriR.zero.y0,.int .i64 TriR.zero.z0,.int .i64 TriR.zero.x1,.int .i64 TriR.zero.y1,.int .i64 TriR.zero.z1,.int .i64 TriR.zero.x2,.int .i64 TriR.zero.y2,.int .i64 TriR.zero.z2]),10,80):=by kernel_rfl
theorem h_info:(Tryz.prog.info? 95).map (fun i=>(i.zero,i.size,i.bytes))=some (some (.agg #[.int .i64 HopR.zero.i,.int .i64 HopR.zero.fx,.int .i64 HopR.zero.fz,.int .i64 HopR.zero.fy,.int .i64 HopR.zero.tx,.int .i64 HopR.zero.tz,.int .i64 HopR.zero.ty,.bool HopR.zero.bo,.int .i64 HopR.zero.ar,.int .i64 HopR.zero.co]),10,80):=by kernel_rfl
theorem b_info:(Tryz.prog.info? 66).map (fun i=>(i.zero,i.size,i.bytes))=some (some (.agg #[.int .i64 BoxR.zero.i,.int .i64 BoxR.zero.x0,.int .i64 BoxR.zero.z0,.int .i64 BoxR.zero.x1,.int .i64 BoxR.zero.z1,.int .i64 BoxR.zero.y0,.int .i64 BoxR.zero.y1,.int .i64 BoxR.zero.ar]),8,64):=by kernel_rfl
theorem own_shape {w:World} {base size:Nat} {e:TypeId} {v:Value} {n:Nat} {xs:List Value} (h:w.ownsRow base e size v n xs):∃ a c,v=.slice a n c:=by
 rcases h.2 with ⟨rfl,rfl⟩|⟨g,cap,cur,rfl,_⟩
 ·exact⟨_,_,rfl⟩
 ·exact⟨_,_,rfl⟩
theorem Thr.put {w:World} {b n:Nat} (h:Thr w b n) {a:Addr} (ha:a.block≠b) (u:Value):Thr (w.setCell a u) b n:=fun j hj=>by
 obtain⟨⟨v,hv⟩,hf⟩:=h j hj
 refine⟨⟨v,?_⟩,by rw[World.frozen?_setCell];exact hf⟩
 rw[World.cell?_setCell_other _ _ _ _ (fun e=>ha (by rw[e]))]
 exact hv
theorem cell_put {w:World} {b o:Nat} {v:Value} (h:w.cell? ⟨b,o,none⟩=some v) {a:Addr} (ha:a≠⟨b,o,none⟩) (u:Value):(w.setCell a u).cell? ⟨b,o,none⟩=some v:=by
 rw[World.cell?_setCell_other _ _ _ _ ha];exact h
theorem u_copy (S:SoupV) (fS:S.few) (w:World) (hS:S.ok w) :
  Calls Tryz.prog 28 #[.agg #[.slice S.a0 S.ts.length S.c0,.slice S.a1 S.bs.length S.c1,.slice S.a2 S.hs.length S.c2]] w (SoupIs S.ts S.bs S.hs w):=by
 obtain⟨i0,hi,hz0,hz1,hz2⟩:=info_parts t_info
 obtain⟨i1,hj,hy0,hy1,hy2⟩:=info_parts b_info
 obtain⟨i2,hk,hx0,hx1,hx2⟩:=info_parts h_info
 have H0:=Lib.hid hS.t
 have H1:=Lib.hid hS.b
 have H2:=Lib.hid hS.h
 have g0:=fS.t
 have g1:=fS.b
 have g2:=fS.h
 clear hS fS
 go_enter Tryz.func28,Tryz.ntmps28
 go_upto_region 2 with fail
 refine Code.at (fun W0 hW=>?_)
 have hn:New w W0:=by subst hW;exact nw
 have q0:W0.cell? ⟨w.heap.size,0,none⟩=some (.slice S.a0 S.ts.length S.c0):=by subst hW;go_simp
 have q1:W0.cell? ⟨w.heap.size,1,none⟩=some (.slice S.a1 S.bs.length S.c1):=by subst hW;go_simp
 have q2:W0.cell? ⟨w.heap.size,2,none⟩=some (.slice S.a2 S.hs.length S.c2):=by subst hW;go_simp
 have o0:W0.cell? ⟨w.heap.size+1+1,0,none⟩=some (.slice none 0 0):=by subst hW;go_simp
 have o1:W0.cell? ⟨w.heap.size+1+1,1,none⟩=some (.slice none 0 0):=by subst hW;go_simp
 have o2:W0.cell? ⟨w.heap.size+1+1,2,none⟩=some (.slice none 0 0):=by subst hW;go_simp
 have z0:W0.frozen? ⟨w.heap.size+1+1,0,none⟩=false:=by subst hW;go_simp
 have z1:W0.frozen? ⟨w.heap.size+1+1,1,none⟩=false:=by subst hW;go_simp
 have z2:W0.frozen? ⟨w.heap.size+1+1,2,none⟩=false:=by subst hW;go_simp
 have fz:Thr W0 (w.heap.size+1) 3:=by
  subst hW
  exact(Thr.new _ #[.slice none 0 0,.slice none 0 0,.slice none 0 0] _ (w.heap.size+1) (by simp)).keep ((New.refl _).alloc _)
 have sz0:w.heap.size+1+1<W0.heap.size:=World.block_lt_of_cell? _ _ o0
 clear hW
 go_upto_region 3 with (at_builtin;refine wpList_append_sl rfl _ _ 24 rfl TriR.enc_len TriR.enc_one W0.heap.size 64 i0 (.agg #[.int .i64 TriR.zero.i,.int .i64 TriR.zero.x0,.int .i64 TriR.zero.y0,.int .i64 TriR.zero.z0,.int .i64 TriR.zero.x1,.int .i64 TriR.zero.y1,.int .i64 TriR.zero.z1,.int .i64 TriR.zero.x2,.int .i64 TriR.zero.y2,.int .i64 TriR.zero.z2]) 80 Tryz.underlying24 hi hz0 hz1 hz2 rfl (by decide) _ ([]:List TriR) rfl (World.ownsRow_nil _ _ _ _) _ S.ts rfl (H0.out.keep hn) (by unfold maxLen;simp;omega) (by simp;omega) (Nat.le_refl _) ?_;intro v0 V0 hown hnew _;have n1:New W0 V0:=hnew _ (New.refl _) (Nat.le_refl _);rw[List.nil_append]at hown;have OW0:=Lib.hid hown;obtain⟨b0,k0,rfl⟩:=own_shape OW0.out;clear hown hnew;replace z0:=n1.keepF o0 z0;replace z1:=n1.keepF o1 z1;replace z2:=n1.keepF o2 z2;replace q0:=n1.keep q0;replace q1:=n1.keep q1;replace q2:=n1.keep q2;replace o0:=n1.keep o0;replace o1:=n1.keep o1;replace o2:=n1.keep o2)
 refine Code.at (fun W1 hW=>?_)
 replace hn:New w W1:=by subst hW;exact New.setB (by show w.heap.size≤w.heap.size+1+1;omega) (hn.trans n1) _
 replace OW0:Hid (W1.ownsRow W0.heap.size 64 10 (.slice b0 S.ts.length k0) S.ts.length (S.ts.flatMap TriR.enc)):=Lib.hid (by subst hW;exact ownsRow_setCell_below OW0.out (by show w.heap.size+1+1<W0.heap.size;omega) _)
 replace q0:W1.cell? ⟨w.heap.size,0,none⟩=some (.slice S.a0 S.ts.length S.c0):=by subst hW;exact cell_put q0 (by intro e;injection e with e1;omega) _
 replace q1:W1.cell? ⟨w.heap.size,1,none⟩=some (.slice S.a1 S.bs.length S.c1):=by subst hW;exact cell_put q1 (by intro e;injection e with e1;omega) _
 replace q2:W1.cell? ⟨w.heap.size,2,none⟩=some (.slice S.a2 S.hs.length S.c2):=by subst hW;exact cell_put q2 (by intro e;injection e with e1;omega) _
 replace o0:W1.cell? ⟨w.heap.size+1+1,0,none⟩=some (.slice b0 S.ts.length k0):=by subst hW;exact World.cell?_setCell_same _ _ _ o0
 replace o1:W1.cell? ⟨w.heap.size+1+1,1,none⟩=some (.slice none 0 0):=by subst hW;exact cell_put o1 (by intro e;injection e with e1 e2;omega) _
 replace o2:W1.cell? ⟨w.heap.size+1+1,2,none⟩=some (.slice none 0 0):=by subst hW;exact cell_put o2 (by intro e;injection e with e1 e2;omega) _
 replace z0:W1.frozen? ⟨w.heap.size+1+1,0,none⟩=false:=by subst hW;rw[World.frozen?_setCell];exact z0
 replace z1:W1.frozen? ⟨w.heap.size+1+1,1,none⟩=false:=by subst hW;rw[World.frozen?_setCell];exact z1
 replace z2:W1.frozen? ⟨w.heap.size+1+1,2,none⟩=false:=by subst hW;rw[World.frozen?_setCell];exact z2
 replace fz:Thr W1 (w.heap.size+1) 3:=by subst hW;exact(fz.keep n1).put (by show w.heap.size+1+1≠w.heap.size+1;omega) _
 have sz1:W0.heap.size≤W1.heap.size:=by subst hW;rw[World.size_setCell];exact n1.size
 clear hW n1
 go_upto_region 4 with (at_builtin;refine wpList_append_sl rfl _ _ 25 rfl BoxR.enc_len BoxR.enc_one W1.heap.size 66 i1 (.agg #[.int .i64 BoxR.zero.i,.int .i64 BoxR.zero.x0,.int .i64 BoxR.zero.z0,.int .i64 BoxR.zero.x1,.int .i64 BoxR.zero.z1,.int .i64 BoxR.zero.y0,.int .i64 BoxR.zero.y1,.int .i64 BoxR.zero.ar]) 64 Tryz.underlying25 hj hy0 hy1 hy2 rfl (by decide) _ ([]:List BoxR) rfl (World.ownsRow_nil _ _ _ _) _ S.bs rfl (H1.out.keep hn) (by unfold maxLen;simp;omega) (by simp;omega) (Nat.le_refl _) ?_;intro v1 V1 hown hnew _;have n1:New W1 V1:=hnew _ (New.refl _) (Nat.le_refl _);rw[List.nil_append]at hown;have OW1:=Lib.hid hown;obtain⟨b1,k1,rfl⟩:=own_shape OW1.out;clear hown hnew;replace z0:=n1.keepF o0 z0;replace z1:=n1.keepF o1 z1;replace z2:=n1.keepF o2 z2;replace q0:=n1.keep q0;replace q1:=n1.keep q1;replace q2:=n1.keep q2;replace o0:=n1.keep o0;replace o1:=n1.keep o1;replace o2:=n1.keep o2)
 refine Code.at (fun W2 hW=>?_)
 replace hn:New w W2:=by subst hW;exact New.setB (by show w.heap.size≤w.heap.size+1+1;omega) (hn.trans n1) _
 have OW0':=Lib.hid (own_new OW0.out n1)
 replace OW0:Hid (W2.ownsRow W0.heap.size 64 10 (.slice b0 S.ts.length k0) S.ts.length (S.ts.flatMap TriR.enc)):=Lib.hid (by subst hW;exact ownsRow_setCell_below OW0'.out (by show w.heap.size+1+1<W0.heap.size;omega) _)
 replace OW1:Hid (W2.ownsRow W1.heap.size 66 8 (.slice b1 S.bs.length k1) S.bs.length (S.bs.flatMap BoxR.enc)):=Lib.hid (by subst hW;exact ownsRow_setCell_below OW1.out (by show w.heap.size+1+1<W1.heap.size;omega) _)
 replace q0:W2.cell? ⟨w.heap.size,0,none⟩=some (.slice S.a0 S.ts.length S.c0):=by subst hW;exact cell_put q0 (by intro e;injection e with e1;omega) _
 replace q1:W2.cell? ⟨w.heap.size,1,none⟩=some (.slice S.a1 S.bs.length S.c1):=by subst hW;exact cell_put q1 (by intro e;injection e with e1;omega) _
 replace q2:W2.cell? ⟨w.heap.size,2,none⟩=some (.slice S.a2 S.hs.length S.c2):=by subst hW;exact cell_put q2 (by intro e;injection e with e1;omega) _
 replace o0:W2.cell? ⟨w.heap.size+1+1,0,none⟩=some (.slice b0 S.ts.length k0):=by subst hW;exact cell_put o0 (by intro e;injection e with e1 e2;omega) _
 replace o1:W2.cell? ⟨w.heap.size+1+1,1,none⟩=some (.slice b1 S.bs.length k1):=by subst hW;exact World.cell?_setCell_same _ _ _ o1
 replace o2:W2.cell? ⟨w.heap.size+1+1,2,none⟩=some (.slice none 0 0):=by subst hW;exact cell_put o2 (by intro e;injection e with e1 e2;omega) _
 replace z0:W2.frozen? ⟨w.heap.size+1+1,0,none⟩=false:=by subst hW;rw[World.frozen?_setCell];exact z0
 replace z1:W2.frozen? ⟨w.heap.size+1+1,1,none⟩=false:=by subst hW;rw[World.frozen?_setCell];exact z1
 replace z2:W2.frozen? ⟨w.heap.size+1+1,2,none⟩=false:=by subst hW;rw[World.frozen?_setCell];exact z2
 replace fz:Thr W2 (w.heap.size+1) 3:=by subst hW;exact(fz.keep n1).put (by show w.heap.size+1+1≠w.heap.size+1;omega) _
 have sz2:W1.heap.size≤W2.heap.size:=by subst hW;rw[World.size_setCell];exact n1.size
 clear hW n1 OW0'
 go_upto_region 5 with (at_builtin;refine wpList_append_sl rfl _ _ 26 rfl HopR.enc_len HopR.enc_one W2.heap.size 95 i2 (.agg #[.int .i64 HopR.zero.i,.int .i64 HopR.zero.fx,.int .i64 HopR.zero.fz,.int .i64 HopR.zero.fy,.int .i64 HopR.zero.tx,.int .i64 HopR.zero.tz,.int .i64 HopR.zero.ty,.bool HopR.zero.bo,.int .i64 HopR.zero.ar,.int .i64 HopR.zero.co]) 80 Tryz.underlying26 hk hx0 hx1 hx2 rfl (by decide) _ ([]:List HopR) rfl (World.ownsRow_nil _ _ _ _) _ S.hs rfl (H2.out.keep hn) (by unfold maxLen;simp;omega) (by simp;omega) (Nat.le_refl _) ?_;intro v2 V2 hown hnew _;have n1:New W2 V2:=hnew _ (New.refl _) (Nat.le_refl _);rw[List.nil_append]at hown;have OW2:=Lib.hid hown;obtain⟨b2,k2,rfl⟩:=own_shape OW2.out;clear hown hnew;replace z0:=n1.keepF o0 z0;replace z1:=n1.keepF o1 z1;replace z2:=n1.keepF o2 z2;replace q0:=n1.keep q0;replace q1:=n1.keep q1;replace q2:=n1.keep q2;replace o0:=n1.keep o0;replace o1:=n1.keep o1;replace o2:=n1.keep o2)
 refine Code.at (fun W3 hW=>?_)
 replace hn:New w W3:=by subst hW;exact New.setB (by show w.heap.size≤w.heap.size+1+1;omega) (hn.trans n1) _
 have OW0':=Lib.hid (own_new OW0.out n1)
 have OW1':=Lib.hid (own_new OW1.out n1)
 replace OW0:Hid (W3.ownsRow W0.heap.size 64 10 (.slice b0 S.ts.length k0) S.ts.length (S.ts.flatMap TriR.enc)):=Lib.hid (by subst hW;exact ownsRow_setCell_below OW0'.out (by show w.heap.size+1+1<W0.heap.size;omega) _)
 replace OW1:Hid (W3.ownsRow W1.heap.size 66 8 (.slice b1 S.bs.length k1) S.bs.length (S.bs.flatMap BoxR.enc)):=Lib.hid (by subst hW;exact ownsRow_setCell_below OW1'.out (by show w.heap.size+1+1<W1.heap.size;omega) _)
 replace OW2:Hid (W3.ownsRow W2.heap.size 95 10 (.slice b2 S.hs.length k2) S.hs.length (S.hs.flatMap HopR.enc)):=Lib.hid (by subst hW;exact ownsRow_setCell_below OW2.out (by show w.heap.size+1+1<W2.heap.size;omega) _)
 replace q0:W3.cell? ⟨w.heap.size,0,none⟩=some (.slice S.a0 S.ts.length S.c0):=by subst hW;exact cell_put q0 (by intro e;injection e with e1;omega) _
 replace q1:W3.cell? ⟨w.heap.size,1,none⟩=some (.slice S.a1 S.bs.length S.c1):=by subst hW;exact cell_put q1 (by intro e;injection e with e1;omega) _
 replace q2:W3.cell? ⟨w.heap.size,2,none⟩=some (.slice S.a2 S.hs.length S.c2):=by subst hW;exact cell_put q2 (by intro e;injection e with e1;omega) _
 replace o0:W3.cell? ⟨w.heap.size+1+1,0,none⟩=some (.slice b0 S.ts.length k0):=by subst hW;exact cell_put o0 (by intro e;injection e with e1 e2;omega) _
 replace o1:W3.cell? ⟨w.heap.size+1+1,1,none⟩=some (.slice b1 S.bs.length k1):=by subst hW;exact cell_put o1 (by intro e;injection e with e1 e2;omega) _
 replace o2:W3.cell? ⟨w.heap.size+1+1,2,none⟩=some (.slice b2 S.hs.length k2):=by subst hW;exact World.cell?_setCell_same _ _ _ o2
 replace z0:W3.frozen? ⟨w.heap.size+1+1,0,none⟩=false:=by subst hW;rw[World.frozen?_setCell];exact z0
 replace z1:W3.frozen? ⟨w.heap.size+1+1,1,none⟩=false:=by subst hW;rw[World.frozen?_setCell];exact z1
 replace z2:W3.frozen? ⟨w.heap.size+1+1,2,none⟩=false:=by subst hW;rw[World.frozen?_setCell];exact z2
 replace fz:Thr W3 (w.heap.size+1) 3:=by subst hW;exact(fz.keep n1).put (by show w.heap.size+1+1≠w.heap.size+1;omega) _
 have sz3:W2.heap.size≤W3.heap.size:=by subst hW;rw[World.size_setCell];exact n1.size
 clear hW n1 OW0' OW1'
 go_wp2_with (refine wpList_store_row rfl 28 _ _ rfl _ _ rfl rfl fz (by kernel_rfl) (by intro v hv;simp at hv;rcases hv with rfl|rfl|rfl <;> rfl) (fun Y nY kY cY=>?_))
 have nz:=nY w hn (by omega)
 have r0:Y.cell? ⟨w.heap.size+1,0,none⟩=some (.slice b0 S.ts.length k0):=by have:=cY 0 (by simp);simpa using this
 have r1:Y.cell? ⟨w.heap.size+1,1,none⟩=some (.slice b1 S.bs.length k1):=by have:=cY 1 (by simp);simpa using this
 have r2:Y.cell? ⟨w.heap.size+1,2,none⟩=some (.slice b2 S.hs.length k2):=by have:=cY 2 (by simp);simpa using this
 have OKS:SoupV.ok ⟨S.ts,S.bs,S.hs,b0,b1,b2,k0,k1,k2⟩ W3:=⟨own_sl TriR.enc_len OW0.out,own_sl BoxR.enc_len OW1.out,own_sl HopR.enc_len OW2.out⟩
 have OWN:SoupV.own ⟨S.ts,S.bs,S.hs,b0,b1,b2,k0,k1,k2⟩ W0.heap.size:=⟨own_block OW0.out,fun j hj=>Nat.le_trans (by omega) (own_block OW1.out j hj),fun j hj=>Nat.le_trans (by omega) (own_block OW2.out j hj)⟩
 have OKY:=SoupV.ok_but OKS OWN (by omega:w.heap.size+1<W0.heap.size) kY
 refine bodyPost_ret (v:=.agg #[.slice b0 S.ts.length k0,.slice b1 S.bs.length k1,.slice b2 S.hs.length k2]) (by simp[results,Tryz.results28,go_sem,r0,r1,r2]) rfl ?_
 exact⟨⟨S.ts,S.bs,S.hs,b0,b1,b2,k0,k1,k2⟩,rfl,OKY,rfl,rfl,rfl,OWN.mono (by omega),nz⟩
end Go.Proofs.YtmhghnbgllaihaaGreatDoor
