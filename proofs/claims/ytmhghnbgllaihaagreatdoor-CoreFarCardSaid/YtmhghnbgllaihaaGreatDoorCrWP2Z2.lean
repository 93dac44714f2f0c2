import Derived.Test.YtmhghnbgllaihaaGreatDoorRaCP2Z2
import Derived.Test.YtmhghnbgllaihaaGreatDoorRaKP2Z2
import Derived.Test.YtmhghnbgllaihaaGreatDoorLooseEP2Z2
import Derived.Test.YtmhghnbgllaihaaGreatDoorOgX0P2Z2
import Derived.Test.YtmhghnbgllaihaaGreatDoorOgCP2Z2
import Derived.Test.YtmhghnbgllaihaaGreatDoorOgKP2Z2
import Derived.Test.YtmhghnbgllaihaaGreatDoorWholeMP2Z2
import Derived.Maps.AppendAt
import Derived.Test.YtmhghnbgllaihaaGreatDoorCrPP2Z2
import Derived.Test.YtmhghnbgllaihaaGreatDoorOgBP2Z2
import Derived.Test.YtmhghnbgllaihaaGreatDoorSoYP2Z2
import Derived.Test.YtmhghnbgllaihaaGreatDoorSoLSP2Z2
import Derived.Deep.Upon
import Derived.Deep.LoopGhost
import Derived.Deep.DeepCutAuto
import Derived.Test.YtmhghnbgllaihaaGreatDoorSoXFP2Z2
import Derived.Test.YtmhghnbgllaihaaGreatDoorOgIP2Z2
import Derived.Test.YtmhghnbgllaihaaGreatDoorArDP2Z2
import Derived.Test.YtmhghnbgllaihaaGreatDoorCrC0P2Z2
import Derived.Test.YtmhghnbgllaihaaGreatDoorFdJP2Z2
import Derived.Test.YtmhghnbgllaihaaGreatDoorSoCEP2Z2
import Derived.Test.YtmhghnbgllaihaaGreatDoorSoETP2Z2
set_option linter.unusedVariables false
set_option maxHeartbeats 16000000
set_option maxRecDepth 100000

namespace Go.Proofs.YtmhghnbgllaihaaGreatDoor
open Go.RowKit Go.Sort
theorem fE_full (C:CfgR) (l:List TriR) (x z:Int):fE (colL C l x z)=if fullB C l x z then 51 else 0:=by
 unfold fE fullB colQ
 by_cases h:8<(mrg (colL C l x z)).length
 ·rw[if_pos h,decide_eq_true h];rfl
 ·rw[if_neg h,decide_eq_false h];rfl
theorem fR_full (C:CfgR) (l:List TriR) (x z:Int):fR (colL C l x z)=if fullB C l x z then []else colQ C l x z:=by
 unfold fR fullB colQ
 by_cases h:8<(mrg (colL C l x z)).length
 ·rw[if_pos h,decide_eq_true h];rfl
 ·rw[if_neg h,decide_eq_false h];rfl
def bx1 (x z:Int):Bx:=⟨x,z,1,1⟩
theorem any_E (C:CfgR) (l:List TriR) (b:Bx) (n:Nat):anyE (atL C l b) n=anyF C l b.x b.z b.w n:=by
 unfold anyE anyF
 congr 1
 funext k
 unfold atL atF
 rw[fE_full]
 cases fullB C l (plX b.x b.w k) (plZ b.z b.w k) <;> rfl
theorem bld_E (C:CfgR) (l:List TriR) (b:Bx) (n:Nat):bldE (atL C l b) n=if anyF C l b.x b.z b.w n then 51 else 0:=by unfold bldE;rw[any_E]
theorem bld_R {C:CfgR} {l:List TriR} {b:Bx} {n:Nat} (h:anyF C l b.x b.z b.w n=false):bldR (atL C l b) n=rowsL C l b.x b.z b.w n:=by
 have h':=h
 rw[←any_E]at h
 unfold bldR
 rw[h]
 unfold rowsF rowsL
 simp only[Bool.false_eq_true,if_false]
 refine List.map_congr_left fun k hk=>?_
 unfold atL atQ
 rw[fR_full]
 unfold anyF at h'
 rw[List.any_eq_false]at h'
 have:=h' k hk
 unfold atF at this
 rw[if_neg this]
theorem bx_ok {x z w d:Int} (h:boxB x z w d=true):(⟨x,z,w,d⟩:Bx).ok:=by
 have:=boxB_iff.1 h
 refine⟨?_,?_,?_,?_,?_,?_,?_,?_⟩ <;> (dsimp only;(try unfold i64B);omega)
theorem r_bx (C:CfgR) (at0:Option Addr) (l:List TriR) (cap:Nat) (hl:l.length≤maxLen) (x z wi d:Int) (w:World) (H:RowIn TriR.enc 10 w at0 l) :
  Calls Tryz.prog 109 #[.agg #[.int .i64 C.cl,.int .i64 C.cb,.int .i64 C.ht,.int .i64 C.ri,.int .i64 C.ru,.int .i64 C.wd,.int .i64 C.dp],.slice at0 l.length cap,.int .i64 x,.int .i64 z,.int .i64 wi,.int .i64 d] w fun e w' =>
   ∃ v,e=.returned (.tuple #[v,.int .i64 (bE C l x z wi d)])∧RowsV w' v (bR C l x z wi d)∧New w w':=by
 have HC:=Lib.hid (fun W (n:New w W)=>c_check C at0 l cap hl W (H.keep n))
 have KM:=Lib.hid (fun W=>a_may x z wi d W)
 obtain⟨ev,hev⟩:∃ ev,ev=rchk C l:=⟨_,rfl⟩
 rw[←hev]at HC
 by_cases h0:ev=0
 ·have h0':rchk C l=0:=by rw[←hev];exact h0
  subst h0
  obtain⟨k1,k2,k3⟩:=rchk_zero h0'
  cases hb:boxB x z wi d
  ·rw[hb]at KM
   obtain⟨e1,e2⟩:=b_not (x:=x) (z:=z) (w:=wi) (d:=d) h0' hb
   rw[e1,e2]
   clear e1 e2 k1 k2 k3 hb h0'
   go_enter Tryz.func109,Tryz.ntmps109
   go_wp2_with fail
   generalize hW:World.alloc (World.alloc _ _) _=W1
   have n1:New w W1:=by subst hW;exact nw
   have hC1:W1.heap[w.heap.size]? = some (.cells (cfgA C) 23 (0,0)):=by subst hW;exact((New.refl _).alloc _).blk (World.alloc_heap_new w _)
   have hB1:W1.heap[w.heap.size+1]? = some (.cells (boxA ⟨x,z,wi,d⟩) 191 (0,0)):=by
    subst hW
    have h:=World.alloc_heap_new (w.alloc (.cells (cfgA C) 23)) (.cells (boxA ⟨x,z,wi,d⟩) 191)
    rw[World.size_alloc]at h
    exact h
   clear hW
   refine(HC.out _ n1).mono ?_
   rintro e w2 ⟨rfl,n2⟩
   obtain⟨b0,b1,b2,b3⟩:=box_cs (n2.blk hB1)
   go_wp2_with fail
   refine(KM.out _).mono ?_
   rintro e w3 ⟨rfl,n3⟩
   clear b0 b1 b2 b3
   have N3:=Lib.hid (n1.trans (n2.trans n3))
   clear n1 n2 n3 hC1 hB1
   go_wp2_with fail
   refine bodyPost_ret (v:=.tuple #[.slice none 0 0,.int .i64 2]) (by simp[results,Tryz.results109,go_sem, *]) rfl ?_
   exact⟨_,rfl,RowsV.nil,N3.out⟩
  ·rw[hb]at KM
   have KK:=Lib.hid (fun W (n:New w W)=>callsIn_wide.1 (k_columns_ok C (CfgR.fine_of k1) ⟨x,z,wi,d⟩ (bx_ok hb) at0 l cap k2 (fun T hT=>mayT_ok (CfgR.fine_of k1) (k3 T hT)) W (H.keep n)))
   rw[bld_E]at KK
   have hbn:(⟨x,z,wi,d⟩:Bx).n=(wi*d).toNat:=rfl
   have HE:Hid (bE C l x z wi d=(if anyF C l x z wi (⟨x,z,wi,d⟩:Bx).n then 51 else 0)∧bR C l x z wi d=bldR (atL C l ⟨x,z,wi,d⟩) (⟨x,z,wi,d⟩:Bx).n):=Lib.hid (by
    rw[hbn]
    cases hf:anyF C l x z wi (wi*d).toNat
    ·obtain⟨e1,e2⟩:=b_fine h0' hb hf
     rw[e1,e2,bld_R (b:=⟨x,z,wi,d⟩) hf]
     exact⟨rfl,rfl⟩
    ·obtain⟨e1,e2⟩:=b_full h0' hb hf
     rw[e1,e2]
     refine⟨rfl,?_⟩
     unfold bldR
     rw[any_E]
     simp only[hf,if_true])
   rw[HE.out.1,HE.out.2]
   clear hb h0' k1 k2 k3 hbn
   generalize (if anyF C l x z wi (⟨x,z,wi,d⟩:Bx).n then (51:Int)else 0)=ee at *
   generalize bldR (atL C l ⟨x,z,wi,d⟩) (⟨x,z,wi,d⟩:Bx).n=LL at *
   go_enter Tryz.func109,Tryz.ntmps109
   go_wp2_with fail
   generalize hW:World.alloc (World.alloc _ _) _=W1
   have n1:New w W1:=by subst hW;exact nw
   have hC1:W1.heap[w.heap.size]? = some (.cells (cfgA C) 23 (0,0)):=by subst hW;exact((New.refl _).alloc _).blk (World.alloc_heap_new w _)
   have hB1:W1.heap[w.heap.size+1]? = some (.cells (boxA ⟨x,z,wi,d⟩) 191 (0,0)):=by
    subst hW
    have h:=World.alloc_heap_new (w.alloc (.cells (cfgA C) 23)) (.cells (boxA ⟨x,z,wi,d⟩) 191)
    rw[World.size_alloc]at h
    exact h
   clear hW
   refine(HC.out _ n1).mono ?_
   rintro e w2 ⟨rfl,n2⟩
   obtain⟨b0,b1,b2,b3⟩:=box_cs (n2.blk hB1)
   go_wp2_with fail
   refine(KM.out _).mono ?_
   rintro e w3 ⟨rfl,n3⟩
   clear b0 b1 b2 b3
   obtain⟨c0,c1,c2,c3,c4,c5,c6⟩:=cfg_cs (n3.blk (n2.blk hC1))
   obtain⟨b0,b1,b2,b3⟩:=box_cs (n3.blk (n2.blk hB1))
   have N3:=Lib.hid (n1.trans (n2.trans n3))
   clear n1 n2 n3 hC1 hB1
   go_wp2_with fail
   clear b0 b1 b2 b3 c0 c1 c2 c3 c4 c5 c6
   refine(KK.out _ N3.out).mono ?_
   rintro e w4 ⟨v,rfl,hr,n4⟩
   have HR:=Lib.hid hr
   obtain⟨us,-,⟨va,vc,rfl,-⟩,-⟩:=hr
   have N4:=Lib.hid (N3.out.trans n4)
   clear n4
   go_wp2_with fail
   refine bodyPost_ret (v:=.tuple #[.slice va us.length vc,.int .i64 ee]) (by simp[results,Tryz.results109,go_sem, *]) rfl ?_
   exact⟨_,rfl,HR.out,N4.out⟩
 ·have h0':rchk C l≠0:=by rw[←hev];exact h0
  obtain⟨e1,e2⟩:=b_no (x:=x) (z:=z) (w:=wi) (d:=d) h0'
  rw[e1,e2,←hev]
  clear e1 e2 h0' hev
  have hb:(ev==0)=false:=by rw[beq_eq_false_iff_ne];exact h0
  have hb2:(ev != 0)=true:=by rw[bne_iff_ne];exact h0
  go_enter Tryz.func109,Tryz.ntmps109
  go_wp2_with fail
  generalize hW:World.alloc (World.alloc _ _) _=W1
  have n1:New w W1:=by subst hW;exact nw
  have hC1:W1.heap[w.heap.size]? = some (.cells (cfgA C) 23 (0,0)):=by subst hW;exact((New.refl _).alloc _).blk (World.alloc_heap_new w _)
  have hB1:W1.heap[w.heap.size+1]? = some (.cells (boxA ⟨x,z,wi,d⟩) 191 (0,0)):=by
   subst hW
   have h:=World.alloc_heap_new (w.alloc (.cells (cfgA C) 23)) (.cells (boxA ⟨x,z,wi,d⟩) 191)
   rw[World.size_alloc]at h
   exact h
  clear hW
  refine(HC.out _ n1).mono ?_
  rintro e w2 ⟨rfl,n2⟩
  have N3:=Lib.hid (n1.trans n2)
  clear n1 n2 hC1 hB1
  go_wp2_with fail
  refine bodyPost_ret (v:=.tuple #[.slice none 0 0,.int .i64 ev]) (by simp[results,Tryz.results109,go_sem, *]) rfl ?_
  exact⟨_,rfl,RowsV.nil,N3.out⟩
end Go.Proofs.YtmhghnbgllaihaaGreatDoor

namespace Go.Proofs.YtmhghnbgllaihaaGreatDoor
open Go.RowKit
theorem fz_of {W:World} {B:Nat} {cs:Array Value} {t:TypeId} (h:W.heap[B]? = some (.cells cs t (0,0))) (o:Nat):W.frozen? ⟨B,o,none⟩=false:=by simp[World.frozen?,h]
structure GdAt (W:World) (B:Nat) (x z wi d:Int) (v:Value):Prop where
 c0:W.cell? ⟨B,0,none⟩=some (.int .i64 x)
 c1:W.cell? ⟨B,1,none⟩=some (.int .i64 z)
 c2:W.cell? ⟨B,2,none⟩=some (.int .i64 wi)
 c3:W.cell? ⟨B,3,none⟩=some (.int .i64 d)
 c4:W.cell? ⟨B,4,none⟩=some v
 fz:W.frozen? ⟨B,4,none⟩=false
theorem GdAt.new {W W':World} {B:Nat} {x z wi d:Int} {v:Value} (h:GdAt W B x z wi d v) (n:New W W'):GdAt W' B x z wi d v :=
 ⟨n.keep h.c0,n.keep h.c1,n.keep h.c2,n.keep h.c3,n.keep h.c4,n.keepF h.c4 h.fz⟩
theorem GdAt.blk {W W':World} {B:Nat} {x z wi d:Int} {v:Value} (h:GdAt W B x z wi d v) (n:W'.heap[B]? = W.heap[B]?):GdAt W' B x z wi d v :=
 ⟨(World.cell?_of_block (a:=⟨B,0,none⟩) n).trans h.c0,(World.cell?_of_block (a:=⟨B,1,none⟩) n).trans h.c1,(World.cell?_of_block (a:=⟨B,2,none⟩) n).trans h.c2,(World.cell?_of_block (a:=⟨B,3,none⟩) n).trans h.c3,(World.cell?_of_block (a:=⟨B,4,none⟩) n).trans h.c4,frozen_block n h.fz⟩
theorem GdAt.put {W:World} {B:Nat} {x z wi d:Int} {v:Value} (h:GdAt W B x z wi d v) (u:Value):GdAt (W.setCell ⟨B,4,none⟩ u) B x z wi d u:=by
 have o:∀ (i:Nat) (t:Value),i≠4→W.cell? ⟨B,i,none⟩=some t→(W.setCell ⟨B,4,none⟩ u).cell? ⟨B,i,none⟩=some t:=fun i t hi hc=>by
  rw[World.cell?_setCell_other _ _ _ _ (by intro e;injection e with _ e2;omega)];exact hc
 exact⟨o 0 _ (by omega) h.c0,o 1 _ (by omega) h.c1,o 2 _ (by omega) h.c2,o 3 _ (by omega) h.c3,World.cell?_setCell_same _ _ _ h.c4,by rw[World.frozen?_setCell];exact h.fz⟩
theorem rowsf_info:(Tryz.prog.info? 54).map (fun i=>(i.zero,i.size,i.bytes))=some (some (.slice none 0 0),1,24):=by kernel_rfl
theorem og_build (C:CfgR) (at0:Option Addr) (l:List TriR) (cap:Nat) (hl:l.length≤maxLen) (x z wi d:Int) (w:World) (H:RowIn TriR.enc 10 w at0 l) :
  Calls Tryz.prog 68 #[.agg #[.int .i64 C.cl,.int .i64 C.cb,.int .i64 C.ht,.int .i64 C.ri,.int .i64 C.ru,.int .i64 C.wd,.int .i64 C.dp],.slice at0 l.length cap,.int .i64 x,.int .i64 z,.int .i64 wi,.int .i64 d] w (Built (bE C l x z wi d) x z wi d (bF C l x z wi d) w):=by
 obtain⟨i0,hi,hz0,hz1,hz2⟩:=info_parts rowsf_info
 have KB:=Lib.hid (fun W n=>r_bx C at0 l cap hl x z wi d W (H.keep (n:New w W)))
 have KF:=Lib.hid (fun a r c W h=>og_floors C a r c W h)
 have KG:=Lib.hid (fun a r c Bc Bl W h=>og_gather C a r c Bc Bl W h)
 have hRl:=bR_len C l x z wi d
 have HF:Hid (bF C l x z wi d=(bR C l x z wi d).map (flX C)):=Lib.hid rfl
 generalize bF C l x z wi d=F at *
 generalize bR C l x z wi d=R at *
 generalize bE C l x z wi d=er at *
 obtain⟨tn,htn⟩:∃ q,q=l.length:=⟨_,rfl⟩
 rw[←htn]at KB ⊢
 clear htn H hl
 obtain⟨Q,hQ⟩:∃ Q,Q=Built er x z wi d F w:=⟨_,rfl⟩
 rw[←hQ]
 have HQ:=Lib.hid hQ
 clear hQ
 go_enter Tryz.func68,Tryz.ntmps68
 go_upto_region 1 with fail
 refine Code.at (fun W0 hW=>?_)
 have n0:New w W0:=by subst hW;exact nw
 have hc:CellsAt W0 w.heap.size 0 C.enc:=by subst hW;exact(cells_new w _ _).keep (by exact nw)
 have r0:W0.heap[w.heap.size+1]? = some (.cells #[.int .i64 0,.int .i64 0,.int .i64 0,.int .i64 0,.slice none 0 0] 37 (0,0)):=by
  subst hW
  have h:=World.alloc_heap_new (w.alloc (.cells #[.int .i64 C.cl,.int .i64 C.cb,.int .i64 C.ht,.int .i64 C.ri,.int .i64 C.ru,.int .i64 C.wd,.int .i64 C.dp] 23)) (.cells #[.int .i64 0,.int .i64 0,.int .i64 0,.int .i64 0,.slice none 0 0] 37)
  rw[World.size_alloc]at h
  exact h
 have z0:W0.heap.size=w.heap.size+2:=by subst hW;simp
 clear hW
 have HC:=Lib.hid (fun W (q:New W0 W)=>CfgR.at (hc.keep q))
 have HR0:=Lib.hid (fun W (q:New W0 W)=>(q.block _ (Array.getElem?_eq_some_iff.1 r0).1).trans r0)
 have N0:=Lib.hid n0
 obtain⟨c0,c1,c2,c3,c4,c5,c6⟩:=CfgR.at hc
 go_wp2_with fail
 refine(KB.out _ n0).mono ?_
 rintro e W1 ⟨v,rfl,hrows,n1⟩
 clear c0 c1 c2 c3 c4 c5 c6 hc r0 n0
 have hK:RowsK Sn.enc 3 W1 v R:=hrows
 clear hrows
 obtain⟨sa,sc,rfl⟩:=hK.shape
 have HROWS:=Lib.hid hK
 have q0:=HR0.out _ n1
 have N1:=Lib.hid n1
 clear hK n1
 by_cases her:er=0
 rotate_left
 ·have hne:(er != 0)=true:=by rw[bne_iff_ne];exact her
  have HER:=Lib.hid her
  clear her
  have y0:W1.cell? ⟨w.heap.size+1,0,none⟩=some (.int .i64 0):=cell_of_heap q0 rfl
  have y1:W1.cell? ⟨w.heap.size+1,1,none⟩=some (.int .i64 0):=cell_of_heap q0 rfl
  have y2:W1.cell? ⟨w.heap.size+1,2,none⟩=some (.int .i64 0):=cell_of_heap q0 rfl
  have y3:W1.cell? ⟨w.heap.size+1,3,none⟩=some (.int .i64 0):=cell_of_heap q0 rfl
  have y4:W1.cell? ⟨w.heap.size+1,4,none⟩=some (.slice none 0 0):=cell_of_heap q0 rfl
  have f0:W1.frozen? ⟨w.heap.size+1,0,none⟩=false:=by simp[World.frozen?,q0]
  have f1:W1.frozen? ⟨w.heap.size+1,1,none⟩=false:=by simp[World.frozen?,q0]
  have f2:W1.frozen? ⟨w.heap.size+1,2,none⟩=false:=by simp[World.frozen?,q0]
  have f3:W1.frozen? ⟨w.heap.size+1,3,none⟩=false:=by simp[World.frozen?,q0]
  have f4:W1.frozen? ⟨w.heap.size+1,4,none⟩=false:=by simp[World.frozen?,q0]
  have nn:=N0.out.trans N1.out
  clear q0
  go_wp2_with fail
  generalize hW5:World.setCell _ _ _=W5
  have n5:New w W5:=by subst hW5;exact nw
  have k0:W5.cell? ⟨w.heap.size+1,0,none⟩=some (.int .i64 0):=by subst hW5;go_simp
  have k1:W5.cell? ⟨w.heap.size+1,1,none⟩=some (.int .i64 0):=by subst hW5;go_simp
  have k2:W5.cell? ⟨w.heap.size+1,2,none⟩=some (.int .i64 0):=by subst hW5;go_simp
  have k3:W5.cell? ⟨w.heap.size+1,3,none⟩=some (.int .i64 0):=by subst hW5;go_simp
  have k4:W5.cell? ⟨w.heap.size+1,4,none⟩=some (.slice none 0 0):=by subst hW5;go_simp
  clear hW5 y0 y1 y2 y3 y4 f0 f1 f2 f3 f4
  refine bodyPost_ret (v:=.tuple #[.agg #[.int .i64 0,.int .i64 0,.int .i64 0,.int .i64 0,.slice none 0 0],.int .i64 er]) (by simp[results,Tryz.results68,go_sem, *]) rfl ?_
  rw[HQ.out]
  exact⟨Gd.zero,rfl,Gd.zero_ok _,fun h=>absurd h HER.out,fun _=>⟨rfl,rfl,rfl,rfl,rfl⟩,n5⟩
 subst her
 clear q0
 obtain⟨n,hn⟩:∃ q,q=R.length:=⟨_,rfl⟩
 rw[←hn]at hRl HROWS ⊢
 have HN:=Lib.hid hn
 clear hn
 go_upto_region 5 with fail
 refine Code.at (fun W3 hW=>?_)
 have n3:New W1 W3:=by subst hW;exact nw
 have hg3:GdAt W3 W1.heap.size x z wi d (.slice none 0 0):=by
  subst hW
  have hz:=heap_new W1 (.cells #[.int .i64 x,.int .i64 z,.int .i64 wi,.int .i64 d,.slice none 0 0] 37)
  exact⟨cell_of_heap hz rfl,cell_of_heap hz rfl,cell_of_heap hz rfl,cell_of_heap hz rfl,cell_of_heap hz rfl,fz_of hz 4⟩
 have z3:W3.heap.size=W1.heap.size+1:=by subst hW;simp
 clear hW
 obtain⟨P,hP⟩:∃ q,q=W1.heap.size:=⟨_,rfl⟩
 rw[←hP]at hg3 z3 ⊢
 have HP:=Lib.hid hP
 clear hP
 go_wp2_with fail
 go_loopg [40] n (fun gk s40 wr=>∃ (i:Nat) (ra:Option Addr) (rn rc:Nat) (us:List Value),s40=.int .i64 i∧i≤n∧n - i≤gk∧Hid (GdAt wr P x z wi d (.slice ra rn rc))∧Hid (RowsOK Fl.enc 3 54 (P+1) wr (.slice ra rn rc) us ((R.take i).map (flX C)))∧Hid (∀ u∈us,∀ g,u.ownBlock=some g→P+1≤g)∧Hid (P+1≤wr.heap.size)∧Hid (New W1 wr))
 case atStart=>exact⟨0,none,0,0,[],rfl,by omega,by omega,Lib.hid hg3,Lib.hid (by rw[List.take_zero];exact RowsOK.nil),Lib.hid (fun u hu=>by cases hu),Lib.hid (by omega),Lib.hid n3⟩
 case round =>
  clear hg3 n3
  obtain⟨i,ra,rn,rc,us,rfl,hi',hgk,HGD,HRO,HUS,HZ,HNR⟩:=hrel
  by_cases hlt:i<n
  ·have hiR:i<R.length:=by rw[←HN.out];exact hlt
   obtain⟨b,off,la,lc,rfl,hcell,hsl⟩:=(HROWS.out.keep HNR.out).at i hiR
   have htake:(R.take (i+1)).map (flX C)=(R.take i).map (flX C)++[flX C R[i]]:=by rw[List.take_succ_eq_append_getElem hiR,List.map_append];rfl
   obtain⟨r,hr⟩:∃ r,r=R[i]:=⟨_,rfl⟩
   rw[←hr]at hcell hsl htake
   have HT:=Lib.hid htake
   have HSL:=Lib.hid hsl
   clear htake hr hsl
   have hF8:=flX_len8 C r
   go_upto_region 8 with fail
   clear hcell
   obtain⟨c0,c1,c2,c3,c4,c5,c6⟩:=HC.out _ (N1.out.trans HNR.out)
   have g4:=HGD.out.c4
   refine wp_region_loose 7 (fun i' w' v=>match i' with
    | 0=>v=.pointer (some ⟨P,4,none⟩)
    | 1=>v=.slice ra rn rc
    | 2=>v=.agg #[.int .i64 C.cl,.int .i64 C.cb,.int .i64 C.ht,.int .i64 C.ri,.int .i64 C.ru,.int .i64 C.wd,.int .i64 C.dp]
    | 3=>v=.slice la r.length lc
    | 4=>∃ Bc Bl,v=.func (.func 134) #[] #[.pointer (some ⟨Bc,0,none⟩),.pointer (some ⟨Bl,0,none⟩)]∧FloAt w' C Bc Bl la lc r
    | 5=>∃ a c,v=.slice a (flX C r).length c∧Sl Fl.enc 3 w' (.slice a (flX C r).length c) (flX C r)∧∀ g,(Value.slice a (flX C r).length c).ownBlock=some g→wr.heap.size≤g
    | 6=>∃ p a c,v=.slice (some ⟨p,0,none⟩) 1 1∧w'.cell? ⟨p,0,none⟩=some (.slice a (flX C r).length c)∧Sl Fl.enc 3 w' (.slice a (flX C r).length c) (flX C r)∧∀ g,(Value.slice a (flX C r).length c).ownBlock=some g→wr.heap.size≤g
    | _=>True) (by kernel_rfl) (by kernel_rfl) ?_ ?_ ?_
   ·intro i' w1 w2 v h nq
    match i',h with
    | 0,h=>exact h
    | 1,h=>exact h
    | 2,h=>exact h
    | 3,h=>exact h
    | 4,⟨Bc,Bl,e,h⟩=>exact⟨Bc,Bl,e,h.keep (KeepS.new h.lt nq)⟩
    | 5,⟨a,c,e,h1,h2⟩=>exact⟨a,c,e,h1.keep nq,h2⟩
    | 6,⟨p,a,c,e,h1,h2,h3⟩=>exact⟨p,a,c,e,nq.keep h1,h2.keep nq,h3⟩
    | i'+7,_=>trivial
   ·intro i' o hi2 ho a' w' nn hr hd
    rcases(show i'=0∨i'=1∨i'=2∨i'=3∨i'=4∨i'=5∨i'=6 by omega)with rfl|rfl|rfl|rfl|rfl|rfl|rfl <;> obtain rfl:=Option.some.inj ho
    ·have r16:(a'.tmps[16]?).getD undef=.pointer (some ⟨P,0,none⟩):=(eval_get a' 16).symm.trans (hr 16 (by kernel_rfl))
     exact yields_value (.pointer (some ⟨P,4,none⟩)) (by go_simp) ⟨New.refl _,rfl⟩
    ·have r44:(a'.tmps[44]?).getD undef=.pointer (some ⟨P,4,none⟩):=(eval_get a' 44).symm.trans (hd 0 44 (by omega) (by kernel_rfl) (by kernel_rfl))
     replace g4:=nn.keep g4
     exact yields_value (.slice ra rn rc) (by go_simp) ⟨New.refl _,rfl⟩
    ·have r6:(a'.tmps[6]?).getD undef=.pointer (some ⟨w.heap.size,0,none⟩):=(eval_get a' 6).symm.trans (hr 6 (by kernel_rfl))
     obtain⟨c0,c1,c2,c3,c4,c5,c6⟩:=HC.out _ (N1.out.trans (HNR.out.trans nn))
     exact yields_value (.agg #[.int .i64 C.cl,.int .i64 C.cb,.int .i64 C.ht,.int .i64 C.ri,.int .i64 C.ru,.int .i64 C.wd,.int .i64 C.dp]) (by go_simp) ⟨New.refl _,rfl⟩
    ·have r18:(a'.tmps[18]?).getD undef=.slice la r.length lc:=(eval_get a' 18).symm.trans (hr 18 (by kernel_rfl))
     exact yields_value (.slice la r.length lc) (by go_simp) ⟨New.refl _,rfl⟩
    ·have r46:(a'.tmps[46]?).getD undef=.agg #[.int .i64 C.cl,.int .i64 C.cb,.int .i64 C.ht,.int .i64 C.ri,.int .i64 C.ru,.int .i64 C.wd,.int .i64 C.dp]:=(eval_get a' 46).symm.trans (hd 2 46 (by omega) (by kernel_rfl) (by kernel_rfl))
     have r47:(a'.tmps[47]?).getD undef=.slice la r.length lc:=(eval_get a' 47).symm.trans (hd 3 47 (by omega) (by kernel_rfl) (by kernel_rfl))
     exact yields_enter 111 #[.agg #[.int .i64 C.cl,.int .i64 C.cb,.int .i64 C.ht,.int .i64 C.ri,.int .i64 C.ru,.int .i64 C.wd,.int .i64 C.dp],.slice la r.length lc] (by go_simp) ((KF.out la r lc w' (HSL.out.keep nn)).mono fun e w'' ⟨he,hn,hf⟩=>⟨_,he,hn,_,_,rfl,hf⟩)
    ·obtain⟨Bc,Bl,e48,h48⟩:=hd 4 48 (by omega) (by kernel_rfl) (by kernel_rfl)
     have r48:(a'.tmps[48]?).getD undef=_:=(eval_get a' 48).symm.trans e48
     refine yields_enter 110 #[.func (.func 134) #[] #[.pointer (some ⟨Bc,0,none⟩),.pointer (some ⟨Bl,0,none⟩)]] (by go_simp) ((KG.out la r lc Bc Bl w' h48).mono ?_)
     rintro e w'' ⟨v,rfl,ho,hn⟩
     have hs:Sl Fl.enc 3 w'' v (flX C r):=own_sl Fl.enc_len ho
     obtain⟨a,c,rfl,-⟩:=id hs
     exact⟨_,rfl,hn,a,c,rfl,hs,fun g hg=>Nat.le_trans nn.size (own_block ho g hg)⟩
    ·obtain⟨a,c,e49,h49,h50⟩:=hd 5 49 (by omega) (by kernel_rfl) (by kernel_rfl)
     have r49:(a'.tmps[49]?).getD undef=.slice a (flX C r).length c:=(eval_get a' 49).symm.trans e49
     have na:New w' (w'.alloc (.cells #[.slice a (flX C r).length c] 54)):=by exact nw
     exact yields_value (w':=w'.alloc (.cells #[.slice a (flX C r).length c] 54)) (.slice (some ⟨w'.heap.size,0,none⟩) 1 1) (by go_simp) ⟨na,w'.heap.size,a,c,rfl,cell_of_heap (heap_new _ _) rfl,h49.keep na,h50⟩
   ·intro vs w' nn hv
    have e1:vs 1=.slice ra rn rc:=hv 1 (by omega)
    obtain⟨p,a,c,e6,hp,hs6,hb6⟩:=hv 6 (by omega)
    simp only[List.take_succ_cons,List.take_zero,List.drop_succ_cons,List.drop_zero,putL,Act.put,List.setIfInBounds_toArray,List.set_cons_zero,List.set_cons_succ,Nat.reduceAdd,Nat.zero_add]
    rw[e1,e6]
    have hul:us.length=i:=by rw[HRO.out.len,List.length_map,List.length_take];omega
    have HRn:=Lib.hid (HRO.out.new nn)
    have hgd:=HGD.out.new nn
    have hz':P+1≤w'.heap.size:=Nat.le_trans HZ.out nn.size
    have HS6:=Lib.hid (And.intro hs6 hb6)
    have HNN:=Lib.hid (HNR.out.trans nn)
    have hwz:=nn.size
    clear hv e1 e6 nn c0 c1 c2 c3 c4 c5 c6 g4 hs6 hb6
    obtain⟨fn,hfn⟩:∃ q,q=(flX C r).length:=⟨_,rfl⟩
    rw[←hfn]at hp HS6
    have HFN:=Lib.hid hfn
    clear hfn
    have hHR:=HRn.out.own
    go_upto_region 9 with (at_builtin;refine wpList_append_own_at _ rfl _ _ 35 rfl (P+1) 54 i0 (.slice none 0 0) 1 24 Tryz.underlying35 hi hz0 hz1 hz2 rfl (by decide) _ _ _ rfl hHR ⟨p,0,none⟩ 1 1 [.slice a fn c] rfl rfl (by intro j u hj;cases j with|zero=>(simp at hj;subst hj;exact hp)|succ j=>simp at hj) (by intro u hu;rw[List.mem_singleton]at hu;subst hu;rfl) (by unfold maxLen;omega) (by omega) hz' ?_;intro v' w4 hown' hgrow _ hat;obtain⟨a',d',N',hN',rfl⟩:=own_shape2 hown';clear hN';have hgb:=hgd.blk (hgrow.block P (by omega) (fun e=>by have:=(HRn.out.own.lt P e.symm).1;omega));have g4:=hgb.c4;have gf:=hgb.fz)
    refine Code.at (fun W9 hW=>?_)
    have hgrow':w'.grownBy w4 (Value.slice ra rn rc).ownBlock:=hgrow
    have hat':(Value.slice a' N' d').ownBlock=(Value.slice ra rn rc).ownBlock∨(Value.slice a' N' d').ownBlock=some w'.heap.size:=hat
    have hlt1:=fun g h=>(HRO.out.own.lt g h)
    have HP1:=HRn.out.push Fl.enc_len (by omega) (l:=flX C r) (u:=.slice a fn c) HS6.out.1 (fun _ g hg hv=>by
     have q1:=HS6.out.2 g hg
     have q2:=(hlt1 g hv).2
     omega) hown' hgrow' hat'
    have hus2:∀ u∈us++[.slice a fn c],∀ g,u.ownBlock=some g→P+1≤g:=fun u hu g hg=>by
     rcases List.mem_append.1 hu with h|h
     ·exact HUS.out u h g hg
     ·rw[List.mem_singleton]at h
      subst h
      have:=HS6.out.2 g hg
      have:=HZ.out
      omega
    have HP2:=HP1.put Fl.enc_len (by omega) (p:=⟨P,4,none⟩) (show P<P+1 by omega) (fun j _ _ u hu hq=>by
     have:=hus2 u (List.mem_of_getElem? hu) P hq
     omega) (.slice a' N' d')
    have HG9:Hid (GdAt W9 P x z wi d (.slice a' N' d')):=Lib.hid (by subst hW;exact hgb.put _)
    have HR9:Hid (RowsOK Fl.enc 3 54 (P+1) W9 (.slice a' N' d') (us++[.slice a fn c]) ((R.take (i+1)).map (flX C))):=Lib.hid (by subst hW;rw[HT.out];exact HP2)
    have hn4:New W1 w4:=newGrown HNN.out hgrow' (fun j hj=>by have:=(hlt1 j hj).1;have:=HP.out;omega)
    have HN9:Hid (New W1 W9):=Lib.hid (by subst hW;exact New.setB (p:=⟨P,4,none⟩) (by rw[HP.out];exact Nat.le_refl _) hn4 _)
    have HZ9:Hid (P+1≤W9.heap.size):=Lib.hid (by
     have:=hgrow'.size
     subst hW
     simp
     omega)
    have HUS2:=Lib.hid hus2
    clear hW hgrow hgrow' hat hat' hown' hgb g4 gf HP1 HP2 hn4 hp hgd hHR hus2 hlt1
    go_wp2_with fail
    go_roundg (n - (i+1))
    case measure=>omega
    case rel=>exact⟨i+1,a',N',d',us++[.slice a fn c],by go_num,by omega,by omega,HG9,HR9,HUS2,HZ9,HN9⟩
  ·obtain rfl:i=n:=by omega
   have HOK:Hid (RowsK Fl.enc 3 wr (.slice ra rn rc) F):=Lib.hid (by
    have h:=HRO.out.rows
    rw[List.take_of_length_le (by rw[←HN.out];exact Nat.le_refl _),←HF.out]at h
    exact h)
   have hnr:rn=F.length:=by
    obtain⟨a,c,e⟩:=HOK.out.shape
    injection e
   obtain⟨g0,g1,g2,g3,g4,-⟩:=HGD.out
   have q0:=HR0.out _ (N1.out.trans HNR.out)
   have y0:wr.cell? ⟨w.heap.size+1,0,none⟩=some (.int .i64 0):=cell_of_heap q0 rfl
   have y1:wr.cell? ⟨w.heap.size+1,1,none⟩=some (.int .i64 0):=cell_of_heap q0 rfl
   have y2:wr.cell? ⟨w.heap.size+1,2,none⟩=some (.int .i64 0):=cell_of_heap q0 rfl
   have y3:wr.cell? ⟨w.heap.size+1,3,none⟩=some (.int .i64 0):=cell_of_heap q0 rfl
   have y4:wr.cell? ⟨w.heap.size+1,4,none⟩=some (.slice none 0 0):=cell_of_heap q0 rfl
   have f0:=fz_of q0 0
   have f1:=fz_of q0 1
   have f2:=fz_of q0 2
   have f3:=fz_of q0 3
   have f4:=fz_of q0 4
   have nn:=N0.out.trans (N1.out.trans HNR.out)
   have HB0:=Lib.hid (And.intro HOK.out (And.intro hnr q0))
   clear q0 hnr
   go_wp2_with fail
   generalize hW5:World.setCell _ _ _=W5
   have n5:New w W5:=by subst hW5;exact nw
   have k0:W5.cell? ⟨w.heap.size+1,0,none⟩=some (.int .i64 x):=by subst hW5;go_simp
   have k1:W5.cell? ⟨w.heap.size+1,1,none⟩=some (.int .i64 z):=by subst hW5;go_simp
   have k2:W5.cell? ⟨w.heap.size+1,2,none⟩=some (.int .i64 wi):=by subst hW5;go_simp
   have k3:W5.cell? ⟨w.heap.size+1,3,none⟩=some (.int .i64 d):=by subst hW5;go_simp
   have k4:W5.cell? ⟨w.heap.size+1,4,none⟩=some (.slice ra rn rc):=by subst hW5;go_simp
   have hsz1:=N1.out.size
   have hput:∀ (W:World) (o:Nat) (v:Value),RowsOK Fl.enc 3 54 (P+1) W (.slice ra rn rc) us ((R.take i).map (flX C))→RowsOK Fl.enc 3 54 (P+1) (W.setCell ⟨w.heap.size+1,o,none⟩ v) (.slice ra rn rc) us ((R.take i).map (flX C)):=fun W o v h =>
    h.put Fl.enc_len (by omega) (p:=⟨w.heap.size+1,o,none⟩) (show w.heap.size+1<P+1 by have:=HP.out;omega) (fun j _ _ u hu hq=>by
     have:=HUS.out u (List.mem_of_getElem? hu) _ hq
     have:=HP.out
     simp only at *
     omega) v
   have HOK5:Hid (RowsK Fl.enc 3 W5 (.slice ra rn rc) F):=Lib.hid (by
    have h:RowsOK Fl.enc 3 54 (P+1) W5 (.slice ra rn rc) us ((R.take i).map (flX C)):=by
     subst hW5
     exact hput _ 4 _ (hput _ 3 _ (hput _ 2 _ (hput _ 1 _ (hput _ 0 _ HRO.out))))
    have h:=h.rows
    rw[List.take_of_length_le (by rw[←HN.out];exact Nat.le_refl _),←HF.out]at h
    exact h)
   clear hput
   clear hW5 y0 y1 y2 y3 y4 f0 f1 f2 f3 f4 g0 g1 g2 g3 g4
   refine bodyPost_ret (v:=.tuple #[.agg #[.int .i64 x,.int .i64 z,.int .i64 wi,.int .i64 d,.slice ra rn rc],.int .i64 0]) (by simp[results,Tryz.results68,go_sem, *]) rfl ?_
   rw[HQ.out]
   have hnr:=HB0.out.2.1
   subst hnr
   exact⟨⟨x,z,wi,d,F,ra,rc⟩,rfl,HOK5.out,fun _=>⟨rfl,rfl,rfl,rfl,rfl⟩,fun h=>absurd rfl h,n5⟩
theorem kf_info:(Tryz.prog.info? 56).map (fun i=>(i.zero,i.size,i.bytes))=some (some (.agg #[.int .i64 0,.int .i64 0,.int .i64 0]),3,24):=by kernel_rfl
theorem kr_info:(Tryz.prog.info? 54).map (fun i=>(i.zero,i.size,i.bytes))=some (some (.slice none 0 0),1,24):=by kernel_rfl
theorem kf_sl (w:World) (f:Fl) (t:TypeId):Sl Fl.enc 3 (w.alloc (.cells #[.int .i64 f.y,.int .i64 f.top,.int .i64 f.area] t)) (.slice (some ⟨w.heap.size,0,none⟩) 1 1) [f] :=
 ⟨_,_,rfl,Nat.le_refl _,by unfold maxLen;omega,fun h=>(by cases h),fun _=>⟨w.heap.size,0,rfl,fun j hj i hi=>by
  have hj':j=0:=by simpa using hj
  subst hj'
  have hi':i<3:=hi
  have hz:=World.alloc_heap_new w (.cells #[.int .i64 f.y,.int .i64 f.top,.int .i64 f.area] t)
  rcases(show i=0∨i=1∨i=2 by omega)with rfl|rfl|rfl <;> exact cell_of_heap hz rfl⟩⟩
theorem cr_keepF (at0:Option Addr) (l:List Fl) (cap:Nat) (hl:l.length≤8) (B1 B2:Nat) (p:Nat→Bool) (w:World) (H:RowIn Fl.enc 3 w at0 l)
  (K:∀ k:Nat,k<l.length→∀ W,New w W→Calls Tryz.prog 61 #[.int .i64 (k:Nat),.pointer (some ⟨B1,0,none⟩),.pointer (some ⟨B2,0,none⟩)] W fun e w'=>e=.returned (.bool (p k))∧New W w') :
  Calls Tryz.prog 60 #[.slice at0 l.length cap,.func (.func 61) #[] #[.pointer (some ⟨B1,0,none⟩),.pointer (some ⟨B2,0,none⟩)]] w fun e w'=>∃ v,e=.returned v∧w'.ownsRow w.heap.size 56 3 v (keepL l p).length ((keepL l p).flatMap Fl.enc)∧New w w':=by
 obtain⟨i0,hi0,hz0,hz1,hz2⟩:=info_parts kf_info
 have HH:=Lib.hid H
 have HK:=Lib.hid K
 have HT0:Hid (keepT l p 0=[]):=Lib.hid rfl
 have HTY:Hid (∀ i (h:i<l.length),p i=true→keepT l p (i+1)=keepT l p i++[l[i]]):=Lib.hid (fun i h c=>keepT_yes h c)
 have HTN:Hid (∀ i,p i=false→keepT l p (i+1)=keepT l p i):=Lib.hid (fun i c=>keepT_no c)
 have HTL:=Lib.hid (fun i=>keepT_len l p i)
 unfold keepL
 obtain⟨n,hn⟩:∃ q,q=l.length:=⟨_,rfl⟩
 rw[←hn]at hl ⊢
 have HN:=Lib.hid hn
 generalize keepT l p=T at *
 clear hn H K
 go_enter Tryz.func60,Tryz.ntmps60
 go_wp2_with fail
 go_loopg [10,5] n (fun gk s10 s5 wr=>∃ (i:Nat) (ra:Option Addr) (rn rc:Nat),s10=.int .i64 i∧s5=.slice ra rn rc∧i≤n∧n - i≤gk∧Hid (wr.ownsRow w.heap.size 56 3 (.slice ra rn rc) (T i).length ((T i).flatMap Fl.enc))∧Hid (New w wr))
 case atStart=>exact⟨0,none,0,0,rfl,rfl,by omega,by omega,Lib.hid (by rw[HT0.out];exact World.ownsRow_nil _ _ _ _),Lib.hid (New.refl _)⟩
 case round =>
  obtain⟨i,ra,rn,rc,rfl,rfl,hi,hgk,HO,HNW⟩:=hrel
  by_cases hlt:i<n
  ·have hil:i<l.length:=by rw[←HN.out];exact hlt
   obtain⟨b,off,rfl,hA⟩:=HH.out (by omega)
   obtain⟨c0,c1,c2⟩:=Fl.cells (hA.keep HNW.out) i hil
   have hy:=fun c=>HTY.out i hil c
   have hno:=fun c=>HTN.out i c
   have htl:=HTL.out i
   obtain⟨f,hf⟩:∃ f,f=l[i]:=⟨_,rfl⟩
   rw[←hf]at c0 c1 c2 hy
   have HY:=Lib.hid hy
   have HNO:=Lib.hid hno
   clear hA hf hy hno
   go_upto_region 5 with fail
   refine Code.at (fun W5 hW=>?_)
   have n5:New wr W5:=by subst hW;exact nw
   have d0:W5.cell? ⟨wr.heap.size,0,none⟩=some (.int .i64 f.y):=by subst hW;go_simp
   have d1:W5.cell? ⟨wr.heap.size,1,none⟩=some (.int .i64 f.top):=by subst hW;go_simp
   have d2:W5.cell? ⟨wr.heap.size,2,none⟩=some (.int .i64 f.area):=by subst hW;go_simp
   clear hW c0 c1 c2
   have HD:=Lib.hid (fun W (q:New W5 W)=>And.intro (q.keep d0) (And.intro (q.keep d1) (q.keep d2)))
   have N5:=Lib.hid (HNW.out.trans n5)
   have HO5:=Lib.hid (own_new HO.out n5)
   have hwb:wr.heap.size<W5.heap.size:=World.block_lt_of_cell? _ _ d0
   clear d0 d1 d2 n5 HO
   have K5:=HK.out i hil W5 N5.out
   have hbz:w.heap.size≤W5.heap.size:=N5.out.size
   cases hp:p i
   ·rw[hp]at K5
    have e1:=HNO.out hp
    go_wp2_with fail
    refine K5.mono ?_
    rintro e w6 ⟨rfl,n6⟩
    have HO6:=Lib.hid (own_new HO5.out n6)
    have N6:=Lib.hid (N5.out.trans n6)
    clear n6 HO5
    go_wp2_with fail
    go_roundg (n - (i+1))
    case measure=>omega
    case rel=>exact⟨i+1,ra,rn,rc,by go_num,rfl,by omega,by omega,Lib.hid (by rw[e1];exact HO6.out),N6⟩
   ·rw[hp]at K5
    have e1:=HY.out hp
    go_wp2_with fail
    refine K5.mono ?_
    rintro e w6 ⟨rfl,n6⟩
    have HO6:=Lib.hid (own_new HO5.out n6)
    have N6:=Lib.hid (N5.out.trans n6)
    have hb6:=N6.out.size
    obtain⟨d0,d1,d2⟩:=HD.out _ n6
    clear n6 HO5
    generalize T i=l0 at *
    have HE1:=Lib.hid e1
    clear e1
    go_wp2_with (at_builtin;refine wpList_append_sl rfl _ _ 54 rfl Fl.enc_len Fl.enc_one w.heap.size 56 i0 _ 24 Tryz.underlying54 hi0 hz0 hz1 hz2 rfl (by decide) _ l0 rfl (own_new HO6.out ((New.refl _).alloc _)) _ [f] rfl (kf_sl _ f _) (by unfold maxLen;simp;omega) (by simp;omega) (by simp;omega) ?_;intro v' w1 hown' hnew _;obtain⟨a',d',N',hN',rfl⟩:=own_shape2 hown';clear hN';have nw1:=hnew w (N6.out.trans ((New.refl _).alloc _)) (Nat.le_refl _))
    go_roundg (n - (i+1))
    case measure=>omega
    case rel=>exact⟨i+1,a',N',d',by go_num,rfl,by omega,by omega,Lib.hid (by rw[HE1.out];exact hown'),Lib.hid nw1⟩
  ·obtain rfl:i=n:=by omega
   go_wp2_with fail
   go_ret
   exact⟨_,rfl,HO.out,HNW.out⟩
theorem wpList_app_col {ops:Array Oper} {rest:List Oper} {o:Oper} {a:Act} {w:World} {Q:Exit→Act→World→Prop} (hgd:o.guard=none) (s x:Operand) (ho:o.op=.call { callee:=.builtin .append,args:=#[s,x],argTypes:=#[35,35] })
  (base:Nat) (v:Value) (us:List Value) (hs:a.eval s=v) (hown:w.ownsRow base 54 1 v us.length us) (p:Nat) (u:Value) (hx:a.eval x=.slice (some ⟨p,0,none⟩) 1 1)
  (hp:w.cell? ⟨p,0,none⟩=some u) (h1:u.oneCell'=true) (hl:us.length≤100000) (hbase:base≤w.heap.size)
  (h:∀ v' w',w'.ownsRow base 54 1 v' (us++[u]).length (us++[u])→(∀ a0,New a0 w→a0.heap.size≤base→New a0 w')→wpList Tryz.prog ops Q rest (a.put o.dst v') w'):wpList Tryz.prog ops Q (o::rest) a w:=by
 obtain⟨i0,hi0,hz0,hz1,hz2⟩:=info_parts kr_info
 refine wpList_append_own_at w hgd s x 35 ho base 54 i0 (.slice none 0 0) 1 24 Tryz.underlying35 hi0 hz0 hz1 hz2 rfl (by decide) v us.length us hs hown ⟨p,0,none⟩ 1 1 [u] hx rfl ?_ ?_ (by unfold maxLen;omega) (by omega) hbase ?_
 ·intro j t hj
  match j,hj with
  | 0,hj =>
   injection hj with hj
   subst hj
   exact hp
  | j+1,hj=>cases hj
 ·intro t ht
  rw[List.mem_singleton]at ht
  subst ht
  exact h1
 ·intro v' w' h2 h3 _ h5
  exact h v' w' (by simpa using h2) (fun a0 hn hb=>newGrown hn h3 (fun j hj=>by have:=(hown.lt j hj).1;omega))
theorem cr_keepR (at0:Option Addr) (l:List Value) (cap:Nat) (hl:l.length≤4096) (ho:∀ u∈l,∃ a n c,u=.slice a n c) (B1 B2:Nat) (p:Nat→Bool) (w:World) (H:RowIn oneV 1 w at0 l)
  (K:∀ k:Nat,k<l.length→∀ W,New w W→Calls Tryz.prog 63 #[.int .i64 (k:Nat),.pointer (some ⟨B1,0,none⟩),.pointer (some ⟨B2,0,none⟩)] W fun e w'=>e=.returned (.bool (p k))∧New W w') :
  Calls Tryz.prog 62 #[.slice at0 l.length cap,.func (.func 63) #[] #[.pointer (some ⟨B1,0,none⟩),.pointer (some ⟨B2,0,none⟩)]] w fun e w'=>∃ v,e=.returned v∧w'.ownsRow w.heap.size 54 1 v (keepL l p).length (keepL l p)∧New w w':=by
 obtain⟨i0,hi0,hz0,hz1,hz2⟩:=info_parts kr_info
 have HH:=Lib.hid H
 have HK:=Lib.hid K
 have HU:=Lib.hid ho
 have HT0:Hid (keepT l p 0=[]):=Lib.hid rfl
 have HTY:Hid (∀ i (h:i<l.length),p i=true→keepT l p (i+1)=keepT l p i++[l[i]]):=Lib.hid (fun i h c=>keepT_yes h c)
 have HTN:Hid (∀ i,p i=false→keepT l p (i+1)=keepT l p i):=Lib.hid (fun i c=>keepT_no c)
 have HTL:=Lib.hid (fun i=>keepT_len l p i)
 unfold keepL
 obtain⟨n,hn⟩:∃ q,q=l.length:=⟨_,rfl⟩
 rw[←hn]at hl ⊢
 have HN:=Lib.hid hn
 generalize keepT l p=T at *
 clear hn H K ho
 go_enter Tryz.func62,Tryz.ntmps62
 go_wp2_with fail
 go_loopg [10,5] n (fun gk s10 s5 wr=>∃ (i:Nat) (ra:Option Addr) (rn rc:Nat),s10=.int .i64 i∧s5=.slice ra rn rc∧i≤n∧n - i≤gk∧Hid (wr.ownsRow w.heap.size 54 1 (.slice ra rn rc) (T i).length (T i))∧Hid (New w wr))
 case atStart=>exact⟨0,none,0,0,rfl,rfl,by omega,by omega,Lib.hid (by rw[HT0.out];exact World.ownsRow_nil _ _ _ _),Lib.hid (New.refl _)⟩
 case round =>
  obtain⟨i,ra,rn,rc,rfl,rfl,hi,hgk,HO,HNW⟩:=hrel
  by_cases hlt:i<n
  ·have hil:i<l.length:=by rw[←HN.out];exact hlt
   obtain⟨b,off,rfl,hA⟩:=HH.out (by omega)
   have c0:=(hA.keep HNW.out) i hil 0 (by show 0<1;omega)
   rw[Nat.mul_one,Nat.add_zero]at c0
   have hy:=fun c=>HTY.out i hil c
   have hno:=fun c=>HTN.out i c
   have htl:=HTL.out i
   have hus:=HU.out l[i] (List.getElem_mem hil)
   have eu:(oneV l[i])[0]'(by show 0<1;omega)=l[i]:=rfl
   rw[eu]at c0
   clear eu
   obtain⟨u,hu⟩:∃ u,u=l[i]:=⟨_,rfl⟩
   rw[←hu]at c0 hy hus
   have HY:=Lib.hid hy
   have HNO:=Lib.hid hno
   clear hA hu hy hno
   obtain⟨ua,un,uc,rfl⟩:=hus
   have K5:=HK.out i hil wr HNW.out
   have hbz:w.heap.size≤wr.heap.size:=HNW.out.size
   cases hp:p i
   ·rw[hp]at K5
    have e1:=HNO.out hp
    go_wp2_with fail
    refine K5.mono ?_
    rintro e w6 ⟨rfl,n6⟩
    have HO6:=Lib.hid (own_new HO.out n6)
    have N6:=Lib.hid (HNW.out.trans n6)
    clear n6 HO
    go_wp2_with fail
    go_roundg (n - (i+1))
    case measure=>omega
    case rel=>exact⟨i+1,ra,rn,rc,by go_num,rfl,by omega,by omega,Lib.hid (by rw[e1];exact HO6.out),N6⟩
   ·rw[hp]at K5
    have e1:=HY.out hp
    go_wp2_with fail
    refine K5.mono ?_
    rintro e w6 ⟨rfl,n6⟩
    have HO6:=Lib.hid (own_new HO.out n6)
    have N6:=Lib.hid (HNW.out.trans n6)
    have hb6:=N6.out.size
    clear n6 HO
    generalize T i=l0 at *
    have HE1:=Lib.hid e1
    clear e1
    go_wp2_with (at_builtin;refine wpList_app_col rfl _ _ rfl w.heap.size _ l0 rfl (own_new HO6.out ((New.refl _).alloc _)) w6.heap.size (.slice ua un uc) rfl (cell_of_heap (World.alloc_heap_new _ _) rfl) rfl (by omega) (by simp;omega) ?_;intro v' w1 hown' hnew;obtain⟨a',d',N',hN',rfl⟩:=own_shape2 hown';clear hN';have nw1:=hnew w (N6.out.trans ((New.refl _).alloc _)) (Nat.le_refl _))
    go_roundg (n - (i+1))
    case measure=>omega
    case rel=>exact⟨i+1,a',N',d',by go_num,rfl,by omega,by omega,Lib.hid (by rw[HE1.out];exact hown'),Lib.hid nw1⟩
  ·obtain rfl:i=n:=by omega
   go_wp2_with fail
   go_ret
   exact⟨_,rfl,HO.out,HNW.out⟩
theorem opX_sub {C:CfgR} {l:List Sn} {i:Nat} (h:i<(opX C l).length):∃ h2:(opX C l)[i]<l.length,opnB C l (opX C l)[i]=true:=by
 obtain⟨h0,h1⟩:=opX_in h
 have he:opX C l=opL C l:=by unfold opX;rw[if_pos h0]
 have hm:(opX C l)[i]∈opL C l:=by
  have:=List.getElem_mem h
  generalize hx:(opX C l)[i]=x at *
  rw[he]at this
  exact this
 unfold opL at hm
 exact⟨h1,(List.mem_filter.1 hm).2⟩
theorem opX_rise {C:CfgR} {l:List Sn} {i j:Nat} (hij:i<j) (hj:j<(opX C l).length):(opX C l)[i]'(by omega)<(opX C l)[j]:=by
 have hp:(opX C l).Pairwise (·<·):=by
  unfold opX
  split
  ·exact List.Pairwise.filter _ (List.pairwise_lt_range)
  ·exact List.Pairwise.nil
 exact List.pairwise_iff_getElem.1 hp i j (by omega) hj hij
theorem flX_is {C:CfgR} {l:List Sn} {i:Nat} (h:i<(flX C l).length):∃ (k:Nat) (hk:k<l.length),k=(opX C l)[i]'(by rw[←flX_len];exact h)∧l[k].wk=true∧(flX C l)[i]=⟨l[k].hi,roofF l k,1⟩:=by
 have h':i<(opX C l).length:=by rw[←flX_len];exact h
 obtain⟨h2,h3⟩:=opX_sub h'
 refine⟨_,h2,rfl,?_,by rw[flX_at,flOf_at h2]⟩
 rw[opnB_at C h2]at h3
 exact(Bool.and_eq_true _ _▸h3).1
theorem sep_lt {l:List Sn} (h:Sep l) {i j:Nat} (hij:i<j) (hj:j<l.length):(l[i]'(by omega)).hi<l[j].lo:=List.pairwise_iff_getElem.1 h i j (by omega) hj hij
theorem flX_up {C:CfgR} {l:List Sn} (hs:spE l=0) {i:Nat} (h:i+1<(flX C l).length):(flX C l)[i].top≤(flX C l)[i+1].y:=by
 obtain⟨-,hp,hS⟩:=chkE_zero hs
 obtain⟨a,ha,ea,-,e1⟩:=flX_is (show i<(flX C l).length by omega)
 obtain⟨b,hb,eb,-,e2⟩:=flX_is h
 rw[e1,e2]
 have hab:a<b:=by
  rw[ea,eb]
  exact opX_rise (by omega) (by rw[←flX_len];exact h)
 show roofF l a≤l[b].hi
 have hpb:=hp _ (List.getElem_mem hb)
 by_cases e:b=a+1
 ·subst e
  rw[roofF_mid hb]
  omega
 ·have h1:a+1<l.length:=by omega
  rw[roofF_mid h1]
  have h3:=sep_lt hS (show a+1<b by omega) hb
  have hp1:=hp _ (List.getElem_mem h1)
  omega
theorem chk_of {l R:List Sn} (h:IsM l R) (hb:∀ p∈l,-2048≤p.lo∧p.lo≤p.hi∧p.hi≤2048) (h8:R.length≤8):spE R=0:=by
 refine chkE_fine h8 ?_ fun i hi=>List.pairwise_iff_getElem.1 h.sep i (i+1) (by omega) hi (by omega)
 unfold fstB
 rw[List.any_eq_false]
 intro r hr
 rw[(badS_not r).2 ?_]
 ·simp
 ·obtain⟨p,hp,q⟩:=h.low r hr
  have:=hb p hp
  have f:=h.fit r hr
  refine⟨by omega,f,?_⟩
  by_cases e:r.lo<r.hi
  ·obtain⟨u,hu,u1,u2⟩:=h.cov r hr (r.hi - 1) (by omega) (by omega)
   have:=hb u hu
   omega
  ·omega
theorem bE_zero {C:CfgR} {l:List TriR} {x z w d:Int} (h:bE C l x z w d=0):rchk C l=0∧boxB x z w d=true∧anyF C l x z w (w*d).toNat=false:=by
 unfold bE at h
 split at h
 ·rename_i h1;exact absurd h h1
 ·rename_i h1
  have h1':rchk C l=0:=by simpa using h1
  cases hb:boxB x z w d with
  | false=>rw[hb]at h;simp at h
  | true =>
   rw[hb]at h
   cases hf:anyF C l x z w (w*d).toNat with
   | true=>rw[hf]at h;simp at h
   | false=>exact⟨h1',rfl,rfl⟩
theorem bE_of {C:CfgR} {l:List TriR} {x z w d:Int} (h1:rchk C l=0) (h2:boxB x z w d=true) (h3:anyF C l x z w (w*d).toNat=false):bE C l x z w d=0:=(b_fine h1 h2 h3).1
theorem bR_at {C:CfgR} {l:List TriR} {x z w d:Int} (h:bE C l x z w d=0):bR C l x z w d=rowsL C l x z w (w*d).toNat:=by unfold bR;rw[if_pos h]
theorem bF_len {C:CfgR} {l:List TriR} {x z w d:Int} (h:bE C l x z w d=0):((bF C l x z w d).length:Int)=w*d:=by
 have hb:=boxB_iff.1 (bE_zero h).2.1
 have h1:0≤w*d:=Int.mul_nonneg (by omega) (by omega)
 unfold bF
 rw[List.length_map,bR_at h,rowsL_len]
 omega
theorem bF_at {C:CfgR} {l:List TriR} {x z w d:Int} (h:bE C l x z w d=0) {n:Nat} (hn:n<(bF C l x z w d).length):(bF C l x z w d)[n]=flX C (colQ C l (plX x w n) (plZ z w n))∧fullB C l (plX x w n) (plZ z w n)=false:=by
 have hl:n<(w*d).toNat:=by
  unfold bF at hn
  rw[List.length_map,bR_at h,rowsL_len]at hn
  exact hn
 have e:(bF C l x z w d)[n]? = some (flX C (colQ C l (plX x w n) (plZ z w n))):=by
  unfold bF
  rw[bR_at h]
  unfold rowsL
  rw[List.getElem?_map,List.getElem?_map,List.getElem?_range hl]
  rfl
 refine⟨?_,?_⟩
 ·rw[List.getElem?_eq_getElem hn]at e
  exact Option.some.inj e
 ·have h3:=(bE_zero h).2.2
  unfold anyF at h3
  rw[List.any_eq_false]at h3
  have:=h3 n (List.mem_range.2 hl)
  unfold atF at this
  simpa using this
theorem colQ_chk {C:CfgR} {l:List TriR} {x z:Int} (h:fullB C l x z=false):spE (colQ C l x z)=0:=by
 have hb:∀ p∈colL C l x z,-2048≤p.lo∧p.lo≤p.hi∧p.hi≤2048:=fun p hp=>by
  unfold colL at hp
  split at hp
  ·obtain⟨T,-,hT⟩:=List.mem_filterMap.1 hp
   exact(pc_fit hT).1
  ·cases hp
 refine chk_of (l:=colL C l x z) (mrg_is fun p hp=>(hb p hp).2.1) hb ?_
 unfold fullB at h
 have:=of_decide_eq_false h
 show(colQ C l x z).length≤8
 omega
theorem flX_rise {C:CfgR} {r:List Sn} (hs:spE r=0):riseB (flX C r)=true:=by
 refine riseB_all (flX_len8 C r) fun j hj=>?_
 obtain⟨-,hp,hS⟩:=chkE_zero hs
 obtain⟨k,hk,-,-,e⟩:=flX_is hj
 have hpk:=hp _ (List.getElem_mem hk)
 rw[okAt_at hj]
 have hlo:leastAt (flX C r) j≤(flX C r)[j].y:=by
  cases j with
  | zero =>
   show(-2048:Int)≤_
   rw[e]
   exact Int.le_trans hpk.1 hpk.2.1
  | succ i =>
   rw[leastAt_succ (by omega)]
   exact flX_up hs hj
 rw[e]at hlo ⊢
 unfold okF
 have ht:r[k].hi<roofF r k∧roofF r k≤1048576:=by
  by_cases h1:k+1<r.length
  ·rw[roofF_mid h1]
   have h2:=sep_lt hS (show k<k+1 by omega) h1
   have:=hp _ (List.getElem_mem h1)
   omega
  ·rw[roofF_last (by omega)]
   omega
 simp only[Bool.and_eq_true,wiB_iff]
 simp only at hlo
 refine⟨⟨hlo,hpk.2.2⟩,⟨by omega,ht.2⟩,by omega,by omega⟩
theorem built_fine {C:CfgR} {l:List TriR} {x z w d:Int} (h:bE C l x z w d=0) {G:Gd} (h1:G.x=x) (h2:G.z=z) (h3:G.w=w) (h4:G.d=d) (h5:G.L=bF C l x z w d):gE G=0:=by
 have hb:=boxB_iff.1 (bE_zero h).2.1
 refine gd_fine (placeB_iff.2 (by rw[h1,h2,h3,h4];omega)) (by rw[h5,h3,h4];exact bF_len h) fun j hj=>?_
 have hj':j<(bF C l x z w d).length:=by rw[←h5];exact hj
 have e:G.L[j]=(bF C l x z w d)[j]:=by
  have:G.L[j]? = (bF C l x z w d)[j]? := by rw[h5]
  rw[List.getElem?_eq_getElem hj,List.getElem?_eq_getElem hj']at this
  exact Option.some.inj this
 rw[e]
 obtain⟨q1,q2⟩:=bF_at h hj'
 rw[q1]
 exact flX_rise (colQ_chk q2)
theorem may_area {C:CfgR} {X:BoxR} (h:X.may C=true):0≤X.ar∧X.ar≤7:=by
 simp only[BoxR.may,BoxR.tests,ordB,Bool.and_eq_true,decide_eq_true_eq,Bool.and_true]at h
 omega
theorem ofX_area {l:List BoxR} (h:∀ b∈l,0≤b.ar∧b.ar≤7) (x z y:Int):0≤ofX l x z y∧ofX l x z y≤7:=by
 unfold ofX
 cases e:bestX l x z y with
 | none=>simp
 | some b=>exact h b (bestX_some l x z y b e).1
theorem riseB_same {l m:List Fl} (hlen:m.length=l.length) (hm:∀ k (h:k<l.length) (h2:k<m.length),m[k].y=l[k].y∧m[k].top=l[k].top∧0≤m[k].area∧m[k].area≤7) (h:riseB l=true):riseB m=true:=by
 have h8:=riseB_len h
 unfold riseB at h
 simp only[Bool.and_eq_true,List.all_eq_true,decide_eq_true_eq]at h
 refine riseB_all (by omega) fun j hj=>?_
 have hjl:j<l.length:=by omega
 have h1:=h.2 j (List.mem_range.2 hjl)
 obtain⟨e1,e2,e3,e4⟩:=hm j hjl hj
 have el:leastAt m j=leastAt l j:=by
  cases j with
  | zero=>rfl
  | succ j =>
   rw[leastAt_succ (by omega),leastAt_succ (by omega)]
   exact(hm j (by omega) (by omega)).2.1
 rw[okAt_at hjl]at h1
 rw[okAt_at hj,el]
 unfold okF at h1 ⊢
 rw[e1,e2]
 simp only[Bool.and_eq_true,wiB_iff]at h1 ⊢
 exact⟨h1.1,h1.2.1,e3,e4⟩
theorem mkX_is (l:List BoxR) (G:Gd) (i:Nat) (f:Fl):mkX l (stOf G i f)=⟨f.y,f.top,ofX l (G.x+((i % G.w.toNat:Nat):Int)) (G.z+((i / G.w.toNat:Nat):Int)) f.y⟩:=rfl
theorem markC_is (G:Gd) (l:List BoxR) (i:Nat) {k:Nat} (h:k<(markC G l i).length) (h2:k<(gcol G i).length):(markC G l i)[k]=⟨(gcol G i)[k].y,(gcol G i)[k].top,ofX l (G.x+((i % G.w.toNat:Nat):Int)) (G.z+((i / G.w.toNat:Nat):Int)) (gcol G i)[k].y⟩:=by
 rw[markC_at,mkX_is]
structure MadeBy (O G:Gd) (l:List BoxR):Prop where
 x:O.x=G.x
 z:O.z=G.z
 w:O.w=G.w
 d:O.d=G.d
 L:O.L=markL G l
theorem MadeBy.gcol {O G:Gd} {l:List BoxR} (h:MadeBy O G l) (i:Nat):gcol O i=if i<G.L.length then markC G l i else []:=by
 by_cases hi:i<G.L.length
 ·rw[if_pos hi]
  have ho:i<O.L.length:=by rw[h.L,markL_len];exact hi
  have e:Go.Proofs.YtmhghnbgllaihaaGreatDoor.gcol O i=O.L[i]:=gcol_at ho
  rw[e]
  have:=markL_at G l (i:=i) (by rw[markL_len];exact hi)
  rw[←this]
  congr 1
  exact h.L
 ·rw[if_neg hi]
  unfold Go.Proofs.YtmhghnbgllaihaaGreatDoor.gcol
  rw[List.getElem?_eq_none (by rw[h.L,markL_len];omega)]
  rfl
theorem MadeBy.len {O G:Gd} {l:List BoxR} (h:MadeBy O G l):O.L.length=G.L.length:=by rw[h.L,markL_len]
theorem MadeBy.fine {O G:Gd} {l:List BoxR} (h:MadeBy O G l) (hE:gE G=0) (ha:∀ b∈l,0≤b.ar∧b.ar≤7):gE O=0:=by
 obtain⟨h1,h2,h3⟩:=gd_is hE
 refine gd_fine ?_ ?_ fun j hj=>?_
 ·unfold placeB at h1 ⊢
  rw[h.x,h.z,h.w,h.d]
  exact h1
 ·rw[h.len,h.w,h.d];exact h2
 ·have hj2:j<G.L.length:=by rw[←h.len];exact hj
  have e:O.L[j]=markC G l j:=by
   have:=h.gcol j
   rw[if_pos hj2,gcol_at hj]at this
   exact this
  rw[e]
  refine riseB_same (l:=G.L[j]) (by rw[markC_len,gcol_at hj2]) (fun k hk hk2=>?_) (h3 j hj2)
  have hk3:k<(Go.Proofs.YtmhghnbgllaihaaGreatDoor.gcol G j).length:=by rw[gcol_at hj2];exact hk
  rw[markC_is G l j hk2 hk3]
  have e2:(Go.Proofs.YtmhghnbgllaihaaGreatDoor.gcol G j)[k]=G.L[j][k]:=by
   have:=gcol_at hj2
   congr 1
  rw[e2]
  exact⟨rfl,rfl,(ofX_area ha _ _ _).1,(ofX_area ha _ _ _).2⟩
theorem Box4.boxB {b:Bd} (h:Box4 b):boxB b.x b.z b.w b.d=true:=by obtain⟨h1,h2,h3,h4⟩:=h;exact boxB_iff.2 (by omega)
def coA (C:CfgR) (T:List TriR) (B:List BoxR) (x z:Int):List Fl:=(flX C (colQ C T x z)).map fun f=>f.put (ofX B x z f.y)
def coG (A:Int→Int→List Fl) (b:Bd) (ga:Option Addr) (gc:Nat):Gd:=⟨b.x,b.z,b.w,b.d,gridT b.w.toNat b.d.toNat fun i j=>A (b.x+i) (b.z+j),ga,gc⟩
def bxA (A:Int→Int→List Fl) (b:Bd) (x z:Int):List Fl:=if b.has x z=true then A x z else []
theorem coG_col {A:Int→Int→List Fl} {b:Bd} {ga:Option Addr} {gc:Nat} {n:Nat} (h:n<b.d.toNat*b.w.toNat):gcol (coG A b ga gc) n=A (b.x+((n % b.w.toNat:Nat):Int)) (b.z+((n / b.w.toNat:Nat):Int)):=by
 unfold gcol coG
 rw[gridT_get h]
 rfl
theorem coG_at {A:Int→Int→List Fl} {b:Bd} {ga:Option Addr} {gc:Nat} (hE:gE (coG A b ga gc)=0):atG (coG A b ga gc)=bxA A b:=by
 funext x z
 unfold bxA
 have hin:inG (coG A b ga gc) x z=b.has x z:=rfl
 by_cases h:b.has x z=true
 ·rw[if_pos h]
  rw[←hin]at h
  obtain⟨q1,q2,q3,q4⟩:=ixG_is hE h
  have hi:=inG_iff.1 h
  have hP1:(coG A b ga gc).x=b.x:=rfl
  have hP2:(coG A b ga gc).z=b.z:=rfl
  have hP3:(coG A b ga gc).w=b.w:=rfl
  have hP4:(coG A b ga gc).d=b.d:=rfl
  rw[hP1,hP2,hP3,hP4]at hi
  rw[hP1,hP2,hP3]at q3
  have ql:(coG A b ga gc).L.length=b.d.toNat*b.w.toNat:=by unfold coG;dsimp only;exact gridT_len _ _ _
  rw[ql]at q4
  rw[atG_col hE h,coG_col q4]
  obtain⟨i,hi1⟩:∃ i:Nat,x - b.x=i:=⟨(x - b.x).toNat,by omega⟩
  obtain⟨j,hj1⟩:∃ j:Nat,z - b.z=j:=⟨(z - b.z).toNat,by omega⟩
  have hw:b.w=((b.w.toNat:Nat):Int):=by omega
  have hix:ixG (coG A b ga gc) x z=j*b.w.toNat+i:=by
   rw[hi1,hj1,hw]at q3
   have:((ixG (coG A b ga gc) x z:Nat):Int)=((j*b.w.toNat+i:Nat):Int):=by rw[q3,Int.natCast_add,Int.natCast_mul]
   exact Int.ofNat_inj.1 this
  obtain⟨r1,r2⟩:=row_div (j:=j) (w:=b.w.toNat) (i:=i) (by omega)
  rw[hix,r1,r2]
  congr 1 <;> omega
 ·rw[if_neg h]
  exact atG_out (by rw[hin];simpa using h)
theorem made_G {C:CfgR} {T:List TriR} {B:List BoxR} {b:Bd} (hb:Box4 b) (h:bE C T b.x b.z b.w b.d=0) (hB:∀ p∈B,p.may C=true) {G O:Gd} (h1:G.x=b.x) (h2:G.z=b.z) (h3:G.w=b.w) (h4:G.d=b.d) (h5:G.L=bF C T b.x b.z b.w b.d) (h6:O.x=G.x) (h7:O.z=G.z) (h8:O.w=G.w) (h9:O.d=G.d) (h10:O.L=markL G B) :
  gE G=0∧gE O=0∧O=coG (coA C T B) b O.ga O.gc:=by
 have hE:=built_fine h h1 h2 h3 h4 h5
 have hm:MadeBy O G B:=⟨h6,h7,h8,h9,h10⟩
 refine⟨hE,hm.fine hE (fun p hp=>may_area (hB p hp)),?_⟩
 obtain⟨w,d,e1,e2,w1,w2,d1,d2,e3,e4⟩:=hb.nat
 have hlen:(bF C T b.x b.z b.w b.d).length=d*w:=by
  have:=bF_len h
  rw[e1,e2,Int.mul_comm,←Int.natCast_mul]at this
  rw[e1,e2]
  exact Int.ofNat_inj.1 this
 have hL:O.L=gridT w d fun i j=>coA C T B (b.x+i) (b.z+j):=by
  refine List.ext_getElem? fun n=>?_
  by_cases hn:n<d*w
  ·rw[gridT_get hn]
   have hg:n<G.L.length:=by rw[h5,hlen];exact hn
   have ho:n<O.L.length:=by rw[hm.len];exact hg
   have q:=hm.gcol n
   rw[if_pos hg,gcol_at ho]at q
   rw[List.getElem?_eq_getElem ho,q]
   congr 1
   unfold markC
   rw[List.map_map,gcol_at hg]
   have hf:n<(bF C T b.x b.z b.w b.d).length:=by rw[hlen];exact hn
   have e:G.L[n]=flX C (colQ C T (plX b.x b.w n) (plZ b.z b.w n)):=by
    have:G.L[n]? = (bF C T b.x b.z b.w b.d)[n]? := by rw[h5]
    rw[List.getElem?_eq_getElem hg,List.getElem?_eq_getElem hf]at this
    rw[Option.some.inj this]
    exact(bF_at h hf).1
   have px:plX b.x b.w n=b.x+((n % w:Nat):Int):=by unfold plX;rw[e1,←Int.natCast_emod]
   have pz:plZ b.z b.w n=b.z+((n / w:Nat):Int):=by unfold plZ;rw[e1,←Int.natCast_ediv]
   rw[e,px,pz]
   unfold coA
   refine List.map_congr_left fun f hf=>?_
   show mkX B (stOf G n f)=_
   rw[mkX_is,h1,h2,h3,e3]
   rfl
  ·rw[List.getElem?_eq_none (by rw[hm.len,h5,hlen];omega),List.getElem?_eq_none (by rw[gridT_len];omega)]
 obtain⟨ox,oz,ow,od,oL,oa,oc⟩:=O
 dsimp only at h6 h7 h8 h9 hL
 unfold coG
 rw[e3,e4]
 subst hL
 rw[h6,h7,h8,h9,h1,h2,h3,h4]
theorem fdL_row0 (C:CfgR) (G:Gd) {i:Nat} (h:i<(fdL C G).length):(fdL C G)[i]=fdC C G i:=by
 unfold fdL at h ⊢
 rw[List.getElem_map,List.getElem_range]
def farI (C:CfgR) (A:Int→Int→List Fl) (x z:Int):List Int:=(List.range (A x z).length).map fun k:Nat=>((clr (toI C A) (capN C) ⟨x,z,(k:Int)⟩:Nat):Int)
theorem farI_len (C:CfgR) (A:Int→Int→List Fl) (x z:Int):(farI C A x z).length=(A x z).length:=by unfold farI;simp
theorem farI_get {C:CfgR} {A:Int→Int→List Fl} {x z:Int} {k:Nat} (h:k<(A x z).length):(farI C A x z)[k]? = some ((clr (toI C A) (capN C) ⟨x,z,k⟩:Nat):Int):=by
 unfold farI
 rw[List.getElem?_map,List.getElem?_range h]
 rfl
theorem fd_coG {C:CfgR} {A:Int→Int→List Fl} {b:Bd} {ga:Option Addr} {gc:Nat} (hb:Box4 b) (hE:gE (coG A b ga gc)=0):fdL C (coG A b ga gc)=gridT b.w.toNat b.d.toNat fun i j=>farI C (bxA A b) (b.x+i) (b.z+j):=by
 obtain⟨w,d,e1,e2,w1,w2,d1,d2,e3,e4⟩:=hb.nat
 refine List.ext_getElem? fun n=>?_
 have hlen:(coG A b ga gc).L.length=d*w:=by
  have:(coG A b ga gc).L.length=b.d.toNat*b.w.toNat:=by unfold coG;dsimp only;exact gridT_len _ _ _
  rw[this,e3,e4]
 rw[e3,e4]
 by_cases hn:n<d*w
 ·rw[gridT_get hn,List.getElem?_eq_getElem (by rw[fdL_len,hlen];exact hn),fdL_row0]
  congr 1
  have hd:n / w<d:=(Nat.div_lt_iff_lt_mul (by omega)).2 hn
  have hmod:n % w<w:=Nat.mod_lt _ (by omega)
  have hcol:gcol (coG A b ga gc) n=bxA A b (b.x+((n % w:Nat):Int)) (b.z+((n / w:Nat):Int)):=by
   rw[coG_col (by rw[e3,e4];exact hn),e3]
   unfold bxA
   have z1:(0:Int)≤((n / w:Nat):Int):=Int.natCast_nonneg _
   have z2:(0:Int)≤((n % w:Nat):Int):=Int.natCast_nonneg _
   rw[if_pos (Bd.has_iff.2 (by omega))]
  unfold fdC farI
  rw[hcol]
  refine List.map_congr_left fun k hk=>?_
  rw[toS_I,coG_at hE]
  have:sdI (coG A b ga gc) n k=⟨b.x+((n % w:Nat):Int),b.z+((n / w:Nat):Int),k⟩:=by
   unfold sdI
   show(⟨b.x+((n % b.w.toNat:Nat):Int),b.z+((n / b.w.toNat:Nat):Int),k⟩:Sdk)=_
   rw[e3]
  rw[this]
 ·rw[List.getElem?_eq_none (by rw[fdL_len,hlen];omega),List.getElem?_eq_none (by rw[gridT_len];omega)]
def corP (C:CfgR) (A:Int→Int→List Fl) (x z:Int) (k:Nat):Bool:=geB (toI C A) (C.cl+1).toNat ⟨x,z,k⟩
def corI (C:CfgR) (A:Int→Int→List Fl) (x z:Int):List Fl:=keepL (A x z) (corP C A x z)
theorem cor_far {C:CfgR} (hC:C.err=0) {A:Int→Int→List Fl} {x z:Int} {k:Nat} (h:k<(farI C A x z).length):decide (C.cl+1≤(farI C A x z)[k])=corP C A x z k:=by
 have h':k<(A x z).length:=by rw[←farI_len C];exact h
 have e:=farI_get (C:=C) h'
 rw[List.getElem?_eq_getElem h]at e
 rw[Option.some.inj e]
 obtain⟨p1,p2,p3,-⟩:=capN_is hC
 obtain⟨q1,-,-⟩:=cfg_in hC
 have hk:=clr_iff (go:=toI C A) (n:=(C.cl+1).toNat) (m:=capN C) (by omega) ⟨x,z,k⟩
 unfold corP
 rw[Bool.eq_iff_iff,decide_eq_true_eq,←hk]
 omega
theorem box_agree {A:Int→Int→List Fl} {b p:Bd} {n:Nat} {x z:Int} (h:b.has x z=true) (h1:p.x≤b.x - n∧b.x+b.w+n≤p.x+p.w) (h2:p.z≤b.z - n∧b.z+b.d+n≤p.z+p.d):Agree (bxA A p) A n x z:=fun u v hu hv=>by
 have:=Bd.has_iff.1 h
 unfold bxA
 rw[if_pos (Bd.has_iff.2 (by omega))]
theorem pad_agree {C:CfgR} (A:Int→Int→List Fl) {b:Bd} (hb:Til C b) {x z:Int} (h:b.has x z=true):Agree (bxA A (padB C b)) A (C.cl+4).toNat x z:=by
 obtain⟨q1,-,-⟩:=cfg_in hb.e
 refine box_agree h ?_ ?_ <;> unfold padB <;> dsimp only <;> omega
theorem pad_cor {C:CfgR} (A:Int→Int→List Fl) {b:Bd} (hb:Til C b) {x z:Int} (h:b.has x z=true):corI C (bxA A (padB C b)) x z=corI C A x z:=by
 have ha:=pad_agree A hb h
 obtain⟨q1,-,-⟩:=cfg_in hb.e
 have e:bxA A (padB C b) x z=A x z:=ha x z (by omega) (by omega)
 unfold corI
 rw[e]
 refine keepL_congr fun k hk=>?_
 unfold corP
 exact ge_eq (ha.le (by omega))
def corL (C:CfgR) (A:Int→Int→List Fl) (b:Bd):List (List Fl):=gridT b.w.toNat b.d.toNat fun i j=>corI C A (b.x+i) (b.z+j)
theorem soup_zero {C:CfgR} {S:SoupV} (h:S.err C=0):C.err=0∧TriR.listB C S.ts=true∧BoxR.listB C S.bs=true∧HopR.listB C S.hs=true:=by
 unfold SoupV.err at h
 split at h
 ·omega
 ·rename_i h0
  split at h
  ·rename_i h1
   exact⟨by omega,h1⟩
  ·omega
theorem soup_may {C:CfgR} {S:SoupV} (h:S.err C=0):C.err=0∧rchk C S.ts=0∧S.bs.length≤16∧∀ b∈S.bs,b.may C=true:=by
 obtain⟨h0,h1,h2,h3⟩:=soup_zero h
 have hf:=CfgR.fine_of h0
 refine⟨h0,?_,?_,?_⟩
 ·unfold TriR.listB at h1
  simp only[Bool.and_eq_true,decide_eq_true_eq,List.all_eq_true]at h1
  refine rchk_of h0 h1.1 fun T hT=>?_
  obtain⟨j,hj,rfl⟩:=List.getElem_of_mem hT
  have:=h1.2 j (List.mem_range.2 hj)
  have hm:S.ts[j].may C=true:=by
   cases j with
   | zero=>rw[TriR.okAt_zero C _ hj]at this;exact this
   | succ j=>rw[TriR.okAt_succ C _ j hj]at this;exact(Bool.and_eq_true _ _▸this).1
  rw[mayTB_may C hf]at hm
  exact(Bool.and_eq_true _ _▸hm).2
 ·unfold BoxR.listB at h2
  simp only[Bool.and_eq_true,decide_eq_true_eq]at h2
  exact h2.1
 ·unfold BoxR.listB at h2
  simp only[Bool.and_eq_true,decide_eq_true_eq,List.all_eq_true]at h2
  intro B hB
  obtain⟨j,hj,rfl⟩:=List.getElem_of_mem hB
  have:=h2.2 j (List.mem_range.2 hj)
  cases j with
  | zero=>rw[BoxR.okAt_zero C _ hj]at this;exact this
  | succ j=>rw[BoxR.okAt_succ C _ j hj]at this;exact(Bool.and_eq_true _ _▸this).1
def fulE (C:CfgR) (S:SoupV) (b:Bd):Int:=bE C S.ts b.x b.z b.w b.d
theorem ful_two {C:CfgR} {S:SoupV} {b:Bd} (h:S.err C=0) (hb:Box4 b):fulE C S b=0∨fulE C S b=51:=by
 unfold fulE bE
 rw[if_neg (by rw[(soup_may h).2.1];simp),hb.boxB]
 split
 ·rename_i q;simp at q
 ·split
  ·exact .inr rfl
  ·exact .inl rfl
def TriR.Rise (l:List TriR):Prop:=l.Pairwise fun a b=>a.i<b.i
theorem TriR.listB_iff {C:CfgR} {l:List TriR}:TriR.listB C l=true↔l.length≤200∧(∀ x∈l,x.may C=true)∧TriR.Rise l:=by
 unfold TriR.listB
 rw[Bool.and_eq_true,decide_eq_true_eq,List.all_eq_true]
 constructor
 ·rintro⟨h1,h2⟩
  have ok:∀ i (h:i<l.length),TriR.okAt C l i=true:=fun i h=>h2 i (List.mem_range.2 h)
  refine⟨h1,fun x hx=>?_,?_⟩
  ·obtain⟨i,hi,rfl⟩:=List.getElem_of_mem hx
   have:=ok i hi
   unfold TriR.okAt at this
   rw[getElem!_pos l i hi,Bool.and_eq_true]at this
   exact this.1
  ·unfold TriR.Rise
   rw[List.pairwise_iff_getElem]
   intro i j hi hj hij
   have step:∀ d i,(h:i+d+1<l.length)→(l[i]'(by omega)).i<(l[i+d+1]'h).i:=by
    intro d
    induction d with
    | zero =>
     intro i h
     have:=ok (i+1) h
     rw[TriR.okAt_succ C l i h,Bool.and_eq_true,decide_eq_true_eq]at this
     exact this.2
    | succ d ih =>
     intro i h
     have h3:=ih i (by omega)
     have:=ok (i+d+1+1) h
     rw[TriR.okAt_succ C l (i+d+1) h,Bool.and_eq_true,decide_eq_true_eq]at this
     exact Int.lt_trans h3 this.2
   have:=step (j - i - 1) i (by omega)
   simp only[show i+(j - i - 1)+1=j by omega]at this
   exact this
 ·rintro⟨h1,h2,h3⟩
  refine⟨h1,fun i hi=>?_⟩
  have hi':=List.mem_range.1 hi
  unfold TriR.Rise at h3
  rw[List.pairwise_iff_getElem]at h3
  cases i with
  | zero=>rw[TriR.okAt_zero C l hi'];exact h2 _ (List.getElem_mem hi')
  | succ i =>
   rw[TriR.okAt_succ C l i hi',Bool.and_eq_true,decide_eq_true_eq]
   exact⟨h2 _ (List.getElem_mem hi'),h3 i (i+1) (by omega) hi' (by omega)⟩
def BoxR.Rise (l:List BoxR):Prop:=l.Pairwise fun a b=>a.i<b.i
theorem BoxR.listB_iff {C:CfgR} {l:List BoxR}:BoxR.listB C l=true↔l.length≤16∧(∀ x∈l,x.may C=true)∧BoxR.Rise l:=by
 unfold BoxR.listB
 rw[Bool.and_eq_true,decide_eq_true_eq,List.all_eq_true]
 constructor
 ·rintro⟨h1,h2⟩
  have ok:∀ i (h:i<l.length),BoxR.okAt C l i=true:=fun i h=>h2 i (List.mem_range.2 h)
  refine⟨h1,fun x hx=>?_,?_⟩
  ·obtain⟨i,hi,rfl⟩:=List.getElem_of_mem hx
   have:=ok i hi
   unfold BoxR.okAt at this
   rw[getElem!_pos l i hi,Bool.and_eq_true]at this
   exact this.1
  ·unfold BoxR.Rise
   rw[List.pairwise_iff_getElem]
   intro i j hi hj hij
   have step:∀ d i,(h:i+d+1<l.length)→(l[i]'(by omega)).i<(l[i+d+1]'h).i:=by
    intro d
    induction d with
    | zero =>
     intro i h
     have:=ok (i+1) h
     rw[BoxR.okAt_succ C l i h,Bool.and_eq_true,decide_eq_true_eq]at this
     exact this.2
    | succ d ih =>
     intro i h
     have h3:=ih i (by omega)
     have:=ok (i+d+1+1) h
     rw[BoxR.okAt_succ C l (i+d+1) h,Bool.and_eq_true,decide_eq_true_eq]at this
     exact Int.lt_trans h3 this.2
   have:=step (j - i - 1) i (by omega)
   simp only[show i+(j - i - 1)+1=j by omega]at this
   exact this
 ·rintro⟨h1,h2,h3⟩
  refine⟨h1,fun i hi=>?_⟩
  have hi':=List.mem_range.1 hi
  unfold BoxR.Rise at h3
  rw[List.pairwise_iff_getElem]at h3
  cases i with
  | zero=>rw[BoxR.okAt_zero C l hi'];exact h2 _ (List.getElem_mem hi')
  | succ i =>
   rw[BoxR.okAt_succ C l i hi',Bool.and_eq_true,decide_eq_true_eq]
   exact⟨h2 _ (List.getElem_mem hi'),h3 i (i+1) (by omega) hi' (by omega)⟩
theorem bxA_congr {A B:Int→Int→List Fl} {p:Bd} (h:∀ x z,p.has x z=true→A x z=B x z):bxA A p=bxA B p:=by
 funext x z
 unfold bxA
 by_cases c:p.has x z=true
 ·rw[if_pos c,if_pos c,h x z c]
 ·rw[if_neg c,if_neg c]
theorem corL_near {C:CfgR} {A B:Int→Int→List Fl} {b:Bd} (hb:Til C b) (h:∀ x z,(padB C b).has x z=true→A x z=B x z):corL C A b=corL C B b:=by
 unfold corL
 refine gridT_congr (by have:=hb.w;omega) fun i j hi hj=>?_
 have hh:b.has (b.x+(i:Int)) (b.z+(j:Int))=true:=Bd.has_iff.2 (by have:=hb.w;have:=hb.d;omega)
 rw[←pad_cor A hb hh,←pad_cor B hb hh,bxA_congr h]
theorem filterMap_drop {α β:Type} {f:α→Option β} {l:List α} {k:Nat} (hk:k<l.length) (h:f l[k]=none):l.filterMap f=(l.take k++l.drop (k+1)).filterMap f:=by
 conv=>lhs;rw[←List.take_append_drop k l,List.drop_eq_getElem_cons hk]
 rw[List.filterMap_append,List.filterMap_append,List.filterMap_cons_none h]
theorem col_far {C:CfgR} {T:List TriR} {k:Nat} (hk:k<T.length) {x z:Int} (h:ovB T[k] x z=false):colQ C (T.take k++T.drop (k+1)) x z=colQ C T x z:=by
 unfold colQ colL
 split
 ·rw[←filterMap_drop hk]
  unfold pcO
  rw[h]
  rfl
 ·rfl
theorem coA_box {C:CfgR} {T:List TriR} {B:List BoxR} {k:Nat} (hk:k<B.length) {x z:Int} (h:∀ y,inX B[k] x z y=false):coA C T (B.take k++B.drop (k+1)) x z=coA C T B x z:=by
 unfold coA
 refine List.map_congr_left fun f hf=>?_
 rw[←ofX_drop hk x z f.y (h _)]
def farT (T:TriR) (p:Bd):Bool:=decide (max (max T.x0 T.x1) T.x2<p.x)||(decide (p.x+p.w<min (min T.x0 T.x1) T.x2)||(decide (max (max T.z0 T.z1) T.z2<p.z)||decide (p.z+p.d<min (min T.z0 T.z1) T.z2)))
theorem farT_ov {T:TriR} {p:Bd} (h:farT T p=true) {x z:Int} (hp:p.has x z=true):ovB T x z=false:=by
 cases q:ovB T x z with
 | false=>rfl
 | true =>
  exfalso
  obtain⟨-,-,-,h1,h2⟩:=ov_between q
  have:=Bd.has_iff.1 hp
  unfold farT at h
  simp only[Bool.or_eq_true,decide_eq_true_eq]at h
  unfold minI maxI at h1 h2
  omega
def farX (X:BoxR) (p:Bd):Bool:=decide (X.x1<p.x)||(decide (p.x+p.w≤X.x0)||(decide (X.z1<p.z)||decide (p.z+p.d≤X.z0)))
theorem farX_in {X:BoxR} {p:Bd} (h:farX X p=true) {x z:Int} (hp:p.has x z=true) (y:Int):inX X x z y=false:=by
 cases q:inX X x z y with
 | false=>rfl
 | true =>
  exfalso
  unfold inX at q
  simp only[Bool.and_eq_true,wiB_iff]at q
  have:=Bd.has_iff.1 hp
  unfold farX at h
  simp only[Bool.or_eq_true,decide_eq_true_eq]at h
  omega
def dropK {α:Type} (l:List α) (k:Nat) (c:Bool):List α:=if c=true then l.take k++l.drop (k+1)else l
theorem dropK_sub {α:Type} (l:List α) (k:Nat) (c:Bool):(dropK l k c).Sublist l:=by
 unfold dropK
 split
 ·conv=>rhs;rw[←List.take_append_drop k l]
  refine List.Sublist.append (List.Sublist.refl _) ?_
  rw[←List.drop_drop]
  exact List.drop_sublist _ _
 ·exact List.Sublist.refl _
theorem coA_near {C:CfgR} {T:List TriR} {B:List BoxR} {k:Nat} {p:Bd} {c d:Bool} (hc:c=true→∃ h:k<T.length,farT T[k] p=true) (hd:d=true→∃ h:k<B.length,farX B[k] p=true) {x z:Int} (h:p.has x z=true):coA C (dropK T k c) (dropK B k d) x z=coA C T B x z∧colQ C (dropK T k c) x z=colQ C T x z:=by
 have e1:colQ C (dropK T k c) x z=colQ C T x z:=by
  unfold dropK
  split
  ·rename_i q
   obtain⟨q1,q2⟩:=hc q
   exact col_far q1 (farT_ov q2 h)
  ·rfl
 refine⟨?_,e1⟩
 have e2:coA C T (dropK B k d) x z=coA C T B x z:=by
  unfold dropK
  split
  ·rename_i q
   obtain⟨q1,q2⟩:=hd q
   exact coA_box q1 (fun y=>farX_in q2 h y)
  ·rfl
 rw[←e2]
 unfold coA
 rw[e1]
theorem drop_may {C:CfgR} {S S':SoupV} {k:Nat} {c d:Bool} (h:S.err C=0) (h1:S'.ts=dropK S.ts k c) (h2:S'.bs=dropK S.bs k d) (h3:S'.hs=S.hs):S'.err C=0:=by
 obtain⟨e0,e1,e2,e3⟩:=soup_zero h
 obtain⟨a1,a2,a3⟩:=TriR.listB_iff.1 e1
 obtain⟨b1,b2,b3⟩:=BoxR.listB_iff.1 e2
 have t1:=dropK_sub S.ts k c
 have t2:=dropK_sub S.bs k d
 have f1:TriR.listB C S'.ts=true:=by
  rw[h1]
  exact TriR.listB_iff.2 ⟨Nat.le_trans t1.length_le a1,fun x hx=>a2 x (t1.mem hx),a3.sublist t1⟩
 have f2:BoxR.listB C S'.bs=true:=by
  rw[h2]
  exact BoxR.listB_iff.2 ⟨Nat.le_trans t2.length_le b1,fun x hx=>b2 x (t2.mem hx),b3.sublist t2⟩
 unfold SoupV.err
 rw[if_neg (by omega),if_pos ⟨f1,f2,by rw[h3];exact e3⟩]
theorem ful_of {C:CfgR} {S S':SoupV} {p:Bd} (hS:S.err C=0) (hS':S'.err C=0) (hb:Box4 p) (h:∀ x z,p.has x z=true→colQ C S'.ts x z=colQ C S.ts x z) (h0:fulE C S p=0):fulE C S' p=0:=by
 unfold fulE at h0 ⊢
 obtain⟨-,-,h3⟩:=bE_zero h0
 refine bE_of (soup_may hS').2.1 hb.boxB ?_
 obtain⟨w,d,e1,e2,w1,w2,d1,d2,e3,e4⟩:=hb.nat
 unfold anyF at h3 ⊢
 rw[List.any_eq_false]at h3 ⊢
 intro n hn
 have:=h3 n hn
 have hn':=List.mem_range.1 hn
 have hnw:n<d*w:=by
  have:(p.w*p.d).toNat=d*w:=by rw[e1,e2,Int.mul_comm,←Int.natCast_mul];rfl
  omega
 unfold atF fullB at this ⊢
 have hd:n / w<d:=(Nat.div_lt_iff_lt_mul (by omega)).2 hnw
 have hm:n % w<w:=Nat.mod_lt _ (by omega)
 rw[h _ _ (Bd.has_iff.2 (by
  unfold plX plZ
  rw[e1,e2,←Int.natCast_emod,←Int.natCast_ediv]
  have z1:(0:Int)≤((n / w:Nat):Int):=Int.natCast_nonneg _
  have z2:(0:Int)≤((n % w:Nat):Int):=Int.natCast_nonneg _
  omega))]
 exact this
def gdF (A:Int→Int→List Fl) (p:Bd):List (List Fl):=gridT p.w.toNat p.d.toNat fun i j=>A (p.x+i) (p.z+j)
def gdR (C:CfgR) (A:Int→Int→List Fl) (p:Bd):List (List Int):=gridT p.w.toNat p.d.toNat fun i j=>farI C (bxA A p) (p.x+i) (p.z+j)
def Grounded (er:Int) (p:Bd) (F:List (List Fl)) (R:List (List Int)) (w:World) (e:Ending) (w':World):Prop :=
 ∃ (P:Bd) (fa:Option Addr) (fc:Nat) (FL:List (List Fl)) (ra:Option Addr) (rc:Nat) (RL:List (List Int)),e=.returned (.tuple #[.agg #[.int .i64 P.x,.int .i64 P.z,.int .i64 P.w,.int .i64 P.d,.slice fa FL.length fc,.slice ra RL.length rc],.int .i64 er]) ∧
  RowsN Fl.enc 3 54 56 w.heap.size w' (.slice fa FL.length fc) FL∧(∃ b1,w.heap.size≤b1∧RowsA iE 1 b1 w' (.slice ra RL.length rc) RL∧∀ g,(Value.slice fa FL.length fc).ownBlock=some g→g<b1)∧(er=0→P=p∧FL=F∧RL=R)∧New w w'
theorem cr_groundOf (C:CfgR) (S:SoupV) (b:Bd) (hS0:S.err C=0) (hb:Til C b) (w:World) (hN:Nowhere w) (hD:Dirs w) (hS:S.ok w) :
  Calls Tryz.prog 41 #[.agg #[.int .i64 C.cl,.int .i64 C.cb,.int .i64 C.ht,.int .i64 C.ri,.int .i64 C.ru,.int .i64 C.wd,.int .i64 C.dp],.agg #[.slice S.a0 S.ts.length S.c0,.slice S.a1 S.bs.length S.c1,.slice S.a2 S.hs.length S.c2],.agg #[.int .i64 b.x,.int .i64 b.z,.int .i64 b.w,.int .i64 b.d]] w (Grounded (fulE C S (padB C b)) (padB C b) (gdF (coA C S.ts S.bs) (padB C b)) (gdR C (coA C S.ts S.bs) (padB C b)) w):=by
 obtain⟨s1,s2,s3,s4⟩:=soup_may hS0
 have hbox:=hb.pad
 have KP:=Lib.hid (fun W=>cr_padded C b hb W)
 obtain⟨p,hp⟩:∃ p,p=padB C b:=⟨_,rfl⟩
 rw[←hp]at KP hbox ⊢
 have htl:S.ts.length≤maxLen:=by obtain⟨-,q,-⟩:=rchk_zero s2;unfold maxLen;omega
 have hbl:S.bs.length≤maxLen:=by unfold maxLen;omega
 have KB:Hid (∀ W,New w W→Calls Tryz.prog 68 #[.agg #[.int .i64 C.cl,.int .i64 C.cb,.int .i64 C.ht,.int .i64 C.ri,.int .i64 C.ru,.int .i64 C.wd,.int .i64 C.dp],.slice S.a0 S.ts.length S.c0,.int .i64 p.x,.int .i64 p.z,.int .i64 p.w,.int .i64 p.d] W (Built (fulE C S p) p.x p.z p.w p.d (bF C S.ts p.x p.z p.w p.d) W)):=Lib.hid (fun W n=>og_build C S.a0 S.ts S.c0 htl p.x p.z p.w p.d W ((hS.t.keep n).row'.2.2.2.2))
 have KM:Hid (∀ (G:Gd) W,New w W→G.ok W→Calls Tryz.prog 69 #[.agg #[.int .i64 C.cl,.int .i64 C.cb,.int .i64 C.ht,.int .i64 C.ri,.int .i64 C.ru,.int .i64 C.wd,.int .i64 C.dp],.agg #[.int .i64 G.x,.int .i64 G.z,.int .i64 G.w,.int .i64 G.d,.slice G.ga G.L.length G.gc],.slice S.a1 S.bs.length S.c1] W (Outs (markE C G S.bs) G.x G.z G.w G.d (markL G S.bs) W)):=Lib.hid (fun G W n hG=>ar_Mark C G S.a1 S.bs S.c1 hbl W (hN.new n) hG ((hS.b.keep n).row'.2.2.2.2))
 have KF:Hid (∀ (G:Gd) W,New w W→G.ok W→Calls Tryz.prog 70 #[.agg #[.int .i64 C.cl,.int .i64 C.cb,.int .i64 C.ht,.int .i64 C.ri,.int .i64 C.ru,.int .i64 C.wd,.int .i64 C.dp],.agg #[.int .i64 G.x,.int .i64 G.z,.int .i64 G.w,.int .i64 G.d,.slice G.ga G.L.length G.gc]] W (FBuiltN (lkE C G) (fdT C G) W)):=Lib.hid (fun G W n hG=>fd_BuildN C G W hG (hD.new n))
 have HM:Hid (fulE C S p=0→∀ G:Gd,G.x=p.x→G.z=p.z→G.w=p.w→G.d=p.d→G.L=bF C S.ts p.x p.z p.w p.d→markE C G S.bs=0∧∀ O:Gd,O.x=G.x→O.z=G.z→O.w=G.w→O.d=G.d→O.L=markL G S.bs→lkE C O=0∧O.L=gdF (coA C S.ts S.bs) p∧fdT C O=gdR C (coA C S.ts S.bs) p):=Lib.hid (fun h G h1 h2 h3 h4 h5=>by
  have hE:=built_fine h h1 h2 h3 h4 h5
  refine⟨markE_of s1 hE s3 s4,fun O h6 h7 h8 h9 h10=>?_⟩
  obtain⟨-,e2,e3⟩:=made_G hbox h s4 h1 h2 h3 h4 h5 h6 h7 h8 h9 h10
  have hle:lkE C O=0:=lkE_is.2 ⟨s1,e2⟩
  refine⟨hle,by rw[e3];rfl,?_⟩
  unfold fdT
  rw[if_pos hle]
  rw[e3]at e2 ⊢
  exact fd_coG hbox e2)
 have h2:=ful_two hS0 hbox
 have HSO:=Lib.hid (fun W (n:New w W)=>hS.keep n)
 generalize fulE C S p=er at *
 generalize gdF (coA C S.ts S.bs) p=F at *
 generalize gdR C (coA C S.ts S.bs) p=R at *
 obtain⟨Q,hQ⟩:∃ Q,Q=Grounded er p F R w:=⟨_,rfl⟩
 rw[←hQ]
 have HQ:=Lib.hid hQ
 unfold Grounded at HQ
 clear hQ hp hb hbox hS0 hS hN hD htl hbl s1 s2 s3 s4 HSO
 obtain⟨t0,ht0⟩:∃ q,q=S.ts.length:=⟨_,rfl⟩
 obtain⟨t1,ht1⟩:∃ q,q=S.bs.length:=⟨_,rfl⟩
 obtain⟨t2,ht2⟩:∃ q,q=S.hs.length:=⟨_,rfl⟩
 rw[←ht0]at KB
 rw[←ht1]at KM
 rw[←ht0,←ht1,←ht2]
 clear ht0 ht1 ht2
 go_enter Tryz.func41,Tryz.ntmps41
 go_upto_region 1 with fail
 refine Code.at (fun W0 hW=>?_)
 have n0:New w W0:=by subst hW;exact nw
 have hc:CellsAt W0 w.heap.size 0 C.enc:=by subst hW;exact(cells_new w _ _).keep (by exact nw)
 have c7:W0.cell? ⟨w.heap.size+1,0,none⟩=some (.slice S.a0 t0 S.c0):=by subst hW;go_simp
 have c8:W0.cell? ⟨w.heap.size+1,1,none⟩=some (.slice S.a1 t1 S.c1):=by subst hW;go_simp
 have tb0:W0.cell? ⟨w.heap.size+2,0,none⟩=some (.int .i64 b.x):=by subst hW;go_simp
 have tb1:W0.cell? ⟨w.heap.size+2,1,none⟩=some (.int .i64 b.z):=by subst hW;go_simp
 have tb2:W0.cell? ⟨w.heap.size+2,2,none⟩=some (.int .i64 b.w):=by subst hW;go_simp
 have tb3:W0.cell? ⟨w.heap.size+2,3,none⟩=some (.int .i64 b.d):=by subst hW;go_simp
 have r0:W0.heap[w.heap.size+3]? = some (.cells #[.int .i64 0,.int .i64 0,.int .i64 0,.int .i64 0,.slice none 0 0,.slice none 0 0] 84 (0,0)):=by
  subst hW
  have h:=World.alloc_heap_new (((w.alloc (.cells #[.int .i64 C.cl,.int .i64 C.cb,.int .i64 C.ht,.int .i64 C.ri,.int .i64 C.ru,.int .i64 C.wd,.int .i64 C.dp] 23)).alloc (.cells #[.slice S.a0 t0 S.c0,.slice S.a1 t1 S.c1,.slice S.a2 t2 S.c2] 28)).alloc (.cells #[.int .i64 b.x,.int .i64 b.z,.int .i64 b.w,.int .i64 b.d] 70)) (.cells #[.int .i64 0,.int .i64 0,.int .i64 0,.int .i64 0,.slice none 0 0,.slice none 0 0] 84)
  rw[World.size_alloc,World.size_alloc,World.size_alloc]at h
  exact h
 clear hW
 have HC:=Lib.hid (fun W (q:New W0 W)=>And.intro (CfgR.at (hc.keep q)) (And.intro (q.keep c7) (q.keep c8)))
 have HR0:=Lib.hid (fun W (q:New W0 W)=>(q.block _ (Array.getElem?_eq_some_iff.1 r0).1).trans r0)
 have N0:=Lib.hid n0
 have hz0:w.heap.size+3<W0.heap.size:=(Array.getElem?_eq_some_iff.1 r0).1
 obtain⟨c0,c1,c2,c3,c4,c5,c6⟩:=CfgR.at hc
 clear hc r0 n0
 go_wp2_with fail
 refine(KP.out _).mono ?_
 rintro e w1 ⟨rfl,n1⟩
 have N1:=Lib.hid n1
 clear c0 c1 c2 c3 c4 c5 c6 c7 c8 tb0 tb1 tb2 tb3 n1 KP
 go_upto_region 2 with fail
 refine Code.at (fun W2 hW=>?_)
 have n2:New w1 W2:=by subst hW;exact nw
 have p0:W2.cell? ⟨w1.heap.size,0,none⟩=some (.int .i64 p.x):=by subst hW;go_simp
 have p1:W2.cell? ⟨w1.heap.size,1,none⟩=some (.int .i64 p.z):=by subst hW;go_simp
 have p2:W2.cell? ⟨w1.heap.size,2,none⟩=some (.int .i64 p.w):=by subst hW;go_simp
 have p3:W2.cell? ⟨w1.heap.size,3,none⟩=some (.int .i64 p.d):=by subst hW;go_simp
 clear hW
 have N2:=Lib.hid (N1.out.trans n2)
 have HP:=Lib.hid (fun W (q:New W2 W)=>And.intro (q.keep p0) (And.intro (q.keep p1) (And.intro (q.keep p2) (q.keep p3))))
 obtain⟨⟨c0,c1,c2,c3,c4,c5,c6⟩,c7,c8⟩:=HC.out _ N2.out
 have KB2:=KB.out W2 (N0.out.trans N2.out)
 clear n2 N1
 go_wp2_with fail
 refine KB2.mono ?_
 rintro e w3 ⟨G,rfl,hG,hg1,hg2,n3⟩
 have N3:=Lib.hid (N2.out.trans n3)
 have N23:=Lib.hid n3
 have HGO:=Lib.hid hG
 have HG1:=Lib.hid hg1
 clear c0 c1 c2 c3 c4 c5 c6 c7 c8 p0 p1 p2 p3 n3 KB KB2 hG hg1 hg2
 go_upto_region 3 with fail
 refine Code.at (fun W4 hW=>?_)
 have n4:New w3 W4:=by subst hW;exact nw
 have g0:W4.cell? ⟨w3.heap.size,0,none⟩=some (.int .i64 G.x):=by subst hW;go_simp
 have g1:W4.cell? ⟨w3.heap.size,1,none⟩=some (.int .i64 G.z):=by subst hW;go_simp
 have g2:W4.cell? ⟨w3.heap.size,2,none⟩=some (.int .i64 G.w):=by subst hW;go_simp
 have g3:W4.cell? ⟨w3.heap.size,3,none⟩=some (.int .i64 G.d):=by subst hW;go_simp
 have g4:W4.cell? ⟨w3.heap.size,4,none⟩=some (.slice G.ga G.L.length G.gc):=by subst hW;go_simp
 have h0:W4.frozen? ⟨w3.heap.size,0,none⟩=false:=by subst hW;go_simp
 have h1:W4.frozen? ⟨w3.heap.size,1,none⟩=false:=by subst hW;go_simp
 have h2':W4.frozen? ⟨w3.heap.size,2,none⟩=false:=by subst hW;go_simp
 have h3:W4.frozen? ⟨w3.heap.size,3,none⟩=false:=by subst hW;go_simp
 have h4:W4.frozen? ⟨w3.heap.size,4,none⟩=false:=by subst hW;go_simp
 clear hW
 have Hz3:Hid (W2.heap.size≤w3.heap.size):=Lib.hid N23.out.size
 have Hz4:Hid (w3.heap.size<W4.heap.size):=Lib.hid (World.block_lt_of_cell? _ _ g0)
 have Hz34:Hid (w.heap.size+3<W4.heap.size):=Lib.hid (by have:=N3.out.size;have:=n4.size;omega)
 have N4:=Lib.hid (N3.out.trans n4)
 have N24:=Lib.hid (N23.out.trans n4)
 have HG4:=Lib.hid (fun W (q:New W4 W)=>And.intro (And.intro (q.keep g0) (And.intro (q.keep g1) (And.intro (q.keep g2) (And.intro (q.keep g3) (q.keep g4))))) (And.intro (New.keepF q g0 h0) (And.intro (New.keepF q g1 h1) (And.intro (New.keepF q g2 h2') (And.intro (New.keepF q g3 h3) (New.keepF q g4 h4))))))
 clear N3 N23
 rcases h2 with rfl|rfl
 rotate_left
 ·have q0:=HR0.out _ N4.out
  have y0:W4.cell? ⟨w.heap.size+3,0,none⟩=some (.int .i64 0):=cell_of_heap q0 rfl
  have y1:W4.cell? ⟨w.heap.size+3,1,none⟩=some (.int .i64 0):=cell_of_heap q0 rfl
  have y2:W4.cell? ⟨w.heap.size+3,2,none⟩=some (.int .i64 0):=cell_of_heap q0 rfl
  have y3:W4.cell? ⟨w.heap.size+3,3,none⟩=some (.int .i64 0):=cell_of_heap q0 rfl
  have y4:W4.cell? ⟨w.heap.size+3,4,none⟩=some (.slice none 0 0):=cell_of_heap q0 rfl
  have y5:W4.cell? ⟨w.heap.size+3,5,none⟩=some (.slice none 0 0):=cell_of_heap q0 rfl
  have f0:W4.frozen? ⟨w.heap.size+3,0,none⟩=false:=by simp[World.frozen?,q0]
  have f1:W4.frozen? ⟨w.heap.size+3,1,none⟩=false:=by simp[World.frozen?,q0]
  have f2:W4.frozen? ⟨w.heap.size+3,2,none⟩=false:=by simp[World.frozen?,q0]
  have f3:W4.frozen? ⟨w.heap.size+3,3,none⟩=false:=by simp[World.frozen?,q0]
  have f4:W4.frozen? ⟨w.heap.size+3,4,none⟩=false:=by simp[World.frozen?,q0]
  have f5:W4.frozen? ⟨w.heap.size+3,5,none⟩=false:=by simp[World.frozen?,q0]
  have nn:=N0.out.trans N4.out
  clear q0 g0 g1 g2 g3 g4 h0 h1 h2' h3 h4 HG4 HC HP HM KM KF HGO HG1
  go_wp2_with fail
  generalize hW5:World.setCell _ _ _=W5
  have n5:New w W5:=by subst hW5;exact nw
  have k0:W5.cell? ⟨w.heap.size+3,0,none⟩=some (.int .i64 0):=by subst hW5;go_simp
  have k1:W5.cell? ⟨w.heap.size+3,1,none⟩=some (.int .i64 0):=by subst hW5;go_simp
  have k2:W5.cell? ⟨w.heap.size+3,2,none⟩=some (.int .i64 0):=by subst hW5;go_simp
  have k3:W5.cell? ⟨w.heap.size+3,3,none⟩=some (.int .i64 0):=by subst hW5;go_simp
  have k4:W5.cell? ⟨w.heap.size+3,4,none⟩=some (.slice none 0 0):=by subst hW5;go_simp
  have k5:W5.cell? ⟨w.heap.size+3,5,none⟩=some (.slice none 0 0):=by subst hW5;go_simp
  clear hW5 y0 y1 y2 y3 y4 y5 f0 f1 f2 f3 f4 f5
  refine bodyPost_ret (v:=.tuple #[.agg #[.int .i64 0,.int .i64 0,.int .i64 0,.int .i64 0,.slice none 0 0,.slice none 0 0],.int .i64 51]) (by simp[results,Tryz.results41,go_sem, *]) rfl ?_
  rw[HQ.out]
  exact⟨Bd.zero,none,0,[],none,0,[],rfl,rowsN_nil,⟨w.heap.size,Nat.le_refl _,RowsA.nil,fun g e=>by simp[Value.ownBlock]at e⟩,fun h=>by omega,n5⟩
 obtain⟨x1,x2,x3,x4,x5⟩:=HG1.out rfl
 obtain⟨hm,HO⟩:=HM.out rfl G x1 x2 x3 x4 x5
 have HOH:=Lib.hid HO
 have KM4:=KM.out G
 rw[hm]at KM4
 have KMH:=Lib.hid KM4
 have HGO4:=Lib.hid (HGO.out.keep n4)
 clear HO KM KM4 hm x1 x2 x3 x4 x5 HG1 HM HGO n4
 obtain⟨⟨c0,c1,c2,c3,c4,c5,c6⟩,c7,c8⟩:=HC.out _ N4.out
 have KM5:=fun W (n:New W4 W)=>KMH.out W (N0.out.trans (N4.out.trans n)) (HGO4.out.keep n)
 obtain⟨gn,hgn⟩:∃ q,q=G.L.length:=⟨_,rfl⟩
 rw[←hgn]at g4 KM5
 clear hgn
 go_wp2_with fail
 refine(KM5 _ (by exact nw)).mono ?_
 rintro e w5 ⟨O,rfl,hON,hO1,-,n5⟩
 have N45:=Lib.hid n5
 clear c0 c1 c2 c3 c4 c5 c6 c7 c8 g0 g1 g2 g3 g4 h0 h1 h2' h3 h4 KM5 KMH
 have N5:=Lib.hid (N4.out.trans n5)
 obtain⟨⟨g0,g1,g2,g3,g4⟩,h0,h1,h2',h3,h4⟩:=HG4.out _ n5
 have HON5:=Lib.hid hON
 have HO15:=Lib.hid (hO1 rfl)
 have z45:=n5.size
 have z4:w3.heap.size<W4.heap.size:=Hz4.out
 clear hON hO1 n5 HG4
 go_upto_region 6 with fail
 refine Code.at (fun W6 hW=>?_)
 have n6:New W2 W6:=by
  have q:=N24.out
  have q2:=Hz3.out
  subst hW
  exact New.setB q2 (New.setB q2 (New.setB q2 (New.setB q2 (New.setB q2 (q.trans N45.out) _) _) _) _) _
 have u0:W6.cell? ⟨w3.heap.size,0,none⟩=some (.int .i64 O.x):=by subst hW;go_simp
 have u1:W6.cell? ⟨w3.heap.size,1,none⟩=some (.int .i64 O.z):=by subst hW;go_simp
 have u2:W6.cell? ⟨w3.heap.size,2,none⟩=some (.int .i64 O.w):=by subst hW;go_simp
 have u3:W6.cell? ⟨w3.heap.size,3,none⟩=some (.int .i64 O.d):=by subst hW;go_simp
 have u4:W6.cell? ⟨w3.heap.size,4,none⟩=some (.slice O.ga O.L.length O.gc):=by subst hW;go_simp
 have Hz36:Hid (w.heap.size+3<W6.heap.size):=Lib.hid (by
  have q:=World.block_lt_of_cell? _ _ u0
  have q1:=Hz3.out
  have q2:=N2.out.size
  simp only at q
  omega)
 have hr6:RowsN Fl.enc 3 54 56 W4.heap.size W6 (.slice O.ga O.L.length O.gc) O.L:=by
  refine HON5.out.kept fun b cs t hb _ hc=>?_
  subst hW
  rw[Below.heap_setCell _ _ _ _ (show b≠w3.heap.size by omega),Below.heap_setCell _ _ _ _ (show b≠w3.heap.size by omega),Below.heap_setCell _ _ _ _ (show b≠w3.heap.size by omega),Below.heap_setCell _ _ _ _ (show b≠w3.heap.size by omega),Below.heap_setCell _ _ _ _ (show b≠w3.heap.size by omega)]
 clear hW g0 g1 g2 g3 g4 h0 h1 h2' h3 h4
 have N6:=Lib.hid (N2.out.trans n6)
 have N26:=Lib.hid n6
 have HR6:=Lib.hid hr6
 obtain⟨o1,o2,o3,o4,o5⟩:=HO15.out
 obtain⟨hle,hF,hR⟩:=HOH.out O o1 o2 o3 o4 o5
 have HF:=Lib.hid hF
 have KF6:=KF.out O W6 (N0.out.trans N6.out) hr6.rows
 rw[hle,hR]at KF6
 clear o1 o2 o3 o4 o5 hle hF hR n6 hr6 HO15 HOH HON5 KF N5 N24 HGO4
 obtain⟨⟨c0,c1,c2,c3,c4,c5,c6⟩,c7,c8⟩:=HC.out _ N6.out
 go_wp2_with fail
 refine KF6.mono ?_
 rintro e w7 ⟨v,rfl,hr7,n7⟩
 obtain⟨ra,rc,rfl⟩:=hr7.rows.shape
 have HOW:Hid (∀ g,(Value.slice O.ga O.L.length O.gc).ownBlock=some g→g<W6.heap.size):=Lib.hid (fun g e1=>by
  obtain⟨us,-,hq,-⟩:=HR6.out
  obtain⟨-,cs,q2⟩:=hq.2 g e1
  exact(Array.getElem?_eq_some_iff.1 q2).1)
 have N7:=Lib.hid (N6.out.trans n7)
 have HR7:=Lib.hid hr7
 have HFR:=Lib.hid (HR6.out.new n7)
 have q0:=HR0.out _ N7.out
 have y0:w7.cell? ⟨w.heap.size+3,0,none⟩=some (.int .i64 0):=cell_of_heap q0 rfl
 have y1:w7.cell? ⟨w.heap.size+3,1,none⟩=some (.int .i64 0):=cell_of_heap q0 rfl
 have y2:w7.cell? ⟨w.heap.size+3,2,none⟩=some (.int .i64 0):=cell_of_heap q0 rfl
 have y3:w7.cell? ⟨w.heap.size+3,3,none⟩=some (.int .i64 0):=cell_of_heap q0 rfl
 have y4:w7.cell? ⟨w.heap.size+3,4,none⟩=some (.slice none 0 0):=cell_of_heap q0 rfl
 have y5:w7.cell? ⟨w.heap.size+3,5,none⟩=some (.slice none 0 0):=cell_of_heap q0 rfl
 have f0:w7.frozen? ⟨w.heap.size+3,0,none⟩=false:=by simp[World.frozen?,q0]
 have f1:w7.frozen? ⟨w.heap.size+3,1,none⟩=false:=by simp[World.frozen?,q0]
 have f2:w7.frozen? ⟨w.heap.size+3,2,none⟩=false:=by simp[World.frozen?,q0]
 have f3:w7.frozen? ⟨w.heap.size+3,3,none⟩=false:=by simp[World.frozen?,q0]
 have f4:w7.frozen? ⟨w.heap.size+3,4,none⟩=false:=by simp[World.frozen?,q0]
 have f5:w7.frozen? ⟨w.heap.size+3,5,none⟩=false:=by simp[World.frozen?,q0]
 obtain⟨p0,p1,p2,p3⟩:=HP.out _ (N26.out.trans n7)
 replace u4:=n7.keep u4
 have nn:=N0.out.trans N7.out
 have hz7:w.heap.size+3<W4.heap.size:=Hz34.out
 clear q0 c0 c1 c2 c3 c4 c5 c6 c7 c8 u0 u1 u2 u3 hr7 n7 HC HP HR0 N6 N26 HR6
 have HLN:Hid (O.L.length=O.L.length):=Lib.hid rfl
 obtain⟨on,hon⟩:∃ q,q=O.L.length:=⟨_,rfl⟩
 rw[←hon]at u4 HFR HOW ⊢
 have HON:=Lib.hid hon
 clear HLN hon
 go_wp2_with fail
 generalize hW8:World.setCell _ _ _=W8
 have n8:New w W8:=by subst hW8;exact nw
 have k0:W8.cell? ⟨w.heap.size+3,0,none⟩=some (.int .i64 p.x):=by subst hW8;go_simp
 have k1:W8.cell? ⟨w.heap.size+3,1,none⟩=some (.int .i64 p.z):=by subst hW8;go_simp
 have k2:W8.cell? ⟨w.heap.size+3,2,none⟩=some (.int .i64 p.w):=by subst hW8;go_simp
 have k3:W8.cell? ⟨w.heap.size+3,3,none⟩=some (.int .i64 p.d):=by subst hW8;go_simp
 have k4:W8.cell? ⟨w.heap.size+3,4,none⟩=some (.slice O.ga on O.gc):=by subst hW8;go_simp
 have k5:W8.cell? ⟨w.heap.size+3,5,none⟩=some (.slice ra R.length rc):=by subst hW8;go_simp
 have HFR8:Hid (RowsN Fl.enc 3 54 56 w.heap.size W8 (.slice O.ga on O.gc) O.L):=Lib.hid (by
  have q:RowsN Fl.enc 3 54 56 W4.heap.size W8 (.slice O.ga on O.gc) O.L:=by
   refine HFR.out.kept fun b cs t hb _ hc=>?_
   subst hW8
   rw[Below.heap_setCell _ _ _ _ (show b≠w.heap.size+3 by omega),Below.heap_setCell _ _ _ _ (show b≠w.heap.size+3 by omega),Below.heap_setCell _ _ _ _ (show b≠w.heap.size+3 by omega),Below.heap_setCell _ _ _ _ (show b≠w.heap.size+3 by omega),Below.heap_setCell _ _ _ _ (show b≠w.heap.size+3 by omega),Below.heap_setCell _ _ _ _ (show b≠w.heap.size+3 by omega)]
  exact q.mono (by omega))
 have HR8:Hid (RowsA iE 1 W6.heap.size W8 (.slice ra R.length rc) R):=Lib.hid (by
  refine HR7.out.kept iE_len (by omega) fun b hb _=>?_
  have hb2:=Hz36.out
  subst hW8
  rw[Below.heap_setCell _ _ _ _ (show b≠w.heap.size+3 by omega),Below.heap_setCell _ _ _ _ (show b≠w.heap.size+3 by omega),Below.heap_setCell _ _ _ _ (show b≠w.heap.size+3 by omega),Below.heap_setCell _ _ _ _ (show b≠w.heap.size+3 by omega),Below.heap_setCell _ _ _ _ (show b≠w.heap.size+3 by omega),Below.heap_setCell _ _ _ _ (show b≠w.heap.size+3 by omega)])
 clear hW8 y0 y1 y2 y3 y4 y5 f0 f1 f2 f3 f4 f5 p0 p1 p2 p3 u4 HFR HR7
 refine bodyPost_ret (v:=.tuple #[.agg #[.int .i64 p.x,.int .i64 p.z,.int .i64 p.w,.int .i64 p.d,.slice O.ga on O.gc,.slice ra R.length rc],.int .i64 0]) (by simp[results,Tryz.results41,go_sem, *]) rfl ?_
 rw[HQ.out]
 have hf8:=HFR8.out
 have how:=HOW.out
 rw[HON.out]at hf8 how ⊢
 exact⟨p,O.ga,O.gc,O.L,ra,rc,R,rfl,hf8,⟨W6.heap.size,by have:=Hz36.out;omega,HR8.out,how⟩,fun _=>⟨rfl,HF.out,rfl⟩,n8⟩
section
variable {α:Type} {enc:α→List Value} {k:Nat} {tG tS:TypeId}
theorem RowsN.set (ht:tG≠tS) {base n gc:Nat} {w:World} {ga:Option Addr} {L:List (List α)} (h:RowsN enc k tG tS base w (.slice ga n gc) L) {i:Nat} (hi:i<L.length) {u:Value} {l:List α} (hs:Sl enc k w u l) (hu:∀ b,u.ownBlock=some b→base≤b∧∃ cs,w.heap[b]? = some (.cells cs tS (0,0))) :
  ∃ b off u0,ga=some ⟨b,off,none⟩∧base≤b∧w.cell? ⟨b,off+i,none⟩=some u0∧w.frozen? ⟨b,off+i,none⟩=false∧RowsN enc k tG tS base (w.setCell ⟨b,off+i,none⟩ u) (.slice ga n gc) (L.set i l):=by
 obtain⟨us,h1,⟨h2,h2b⟩,h3⟩:=h
 obtain⟨a,c,e,q1,q2,q3,q4⟩:=id h2
 injection e with e1 e2 e3
 subst e1
 subst e2
 subst e3
 have hiu:i<us.length:=by omega
 obtain⟨b,off,rfl,hA⟩:=q4 (by omega)
 obtain⟨hb,cs,hcs⟩:=h2b b rfl
 have hci:=hA i hiu 0 (by show 0<1;omega)
 rw[Nat.mul_one,Nat.add_zero]at hci
 have hsz:off+i<cs.size:=by
  simp only[World.cell?,hcs]at hci
  exact(Array.getElem?_eq_some_iff.1 (by simpa using hci)).1
 have hnew:=heap_setCell_same w b (off+i) cs tG u hcs
 have hoth:∀ g,g≠b→(w.setCell ⟨b,off+i,none⟩ u).heap[g]? = w.heap[g]? := fun g hg=>Below.heap_setCell _ _ _ _ hg
 have hkS:∀ g cs',base≤g→w.heap[g]? = some (.cells cs' tS (0,0))→(w.setCell ⟨b,off+i,none⟩ u).heap[g]? = w.heap[g]? := fun g cs' _ hg=>hoth g (fun e=>by
  subst e
  rw[hcs]at hg
  injection hg with hg
  injection hg with _ hg
  exact ht hg)
 refine⟨b,off,_,rfl,hb,hci,by simp[World.frozen?,hcs],us.set i u,by simp[h1],⟨⟨some ⟨b,off,none⟩,_,by rw[List.length_set],by rw[List.length_set];exact q1,q2,q3,fun _=>⟨b,off,rfl,fun j hj q hq=>?_⟩⟩,fun g hg=>?_⟩,fun j hj=>?_⟩
 ·have hq0:q=0:=by have:q<1:=hq;omega
  subst hq0
  have hju:j<us.length:=by rw[List.length_set]at hj;exact hj
  rw[Nat.mul_one,Nat.add_zero]
  show _=some (((us.set i u)[j]))
  rw[List.getElem_set]
  by_cases e:i=j
  ·subst e
   rw[if_pos rfl]
   refine cell_of_heap hnew ?_
   rw[Array.getElem?_setIfInBounds_self_of_lt hsz]
  ·rw[if_neg e]
   have hcj:=hA j hju 0 (by show 0<1;omega)
   rw[Nat.mul_one,Nat.add_zero]at hcj
   refine cell_of_heap hnew ?_
   rw[Array.getElem?_setIfInBounds_ne (by omega)]
   simp only[World.cell?,hcs]at hcj
   simpa [oneV]using hcj
 ·obtain rfl:b=g:=by simpa [Value.ownBlock]using hg
  exact⟨hb,_,hnew⟩
 ·rw[List.length_set]at hj
  rw[List.getElem_set]
  by_cases e:i=j
  ·subst e
   refine⟨u,by rw[List.getElem?_set_self hiu],?_⟩
   rw[if_pos rfl]
   exact sl_kept hs hu hkS
  ·obtain⟨x,hx,hxs,hxb⟩:=h3 j hj
   refine⟨x,by rw[List.getElem?_set_ne e];exact hx,?_⟩
   rw[if_neg e]
   exact sl_kept hxs hxb hkS
theorem own_typed {base b0 size m:Nat} {w:World} {v:Value} {xs:List Value} (h:w.ownsRow base tS size v m xs) (hb:b0≤base):∀ b,v.ownBlock=some b→b0≤b∧∃ cs,w.heap[b]? = some (.cells cs tS (0,0)):=fun b e=>by
 obtain⟨cur,h1,h2⟩:=gr_cells h e
 exact⟨by omega,cur,h1⟩
theorem RowsN.keep (henc:∀ a,(enc a).length=k) {base:Nat} {w w':World} {v v':Value} {L:List (List α)} (h:RowsN enc k tG tS base w v L) (n:New w w') {us:List Value} (hl:us.length=L.length) (hu:∀ j (h:j<L.length),∃ u,us[j]? = some u∧Sl enc k w u L[j]∧∀ b,u.ownBlock=some b→base≤b∧∃ cs,w.heap[b]? = some (.cells cs tS (0,0)))
  (p:Nat→Bool) {b1:Nat} (hb:base≤b1) (ho:w'.ownsRow b1 tG 1 v' (keepL us p).length (keepL us p)):RowsN enc k tG tS base w' v' (keepL L p):=by
 have e1:us=(us.zip L).map Prod.fst:=by rw[List.map_fst_zip (by omega)]
 have e2:L=(us.zip L).map Prod.snd:=by rw[List.map_snd_zip (by omega)]
 have hz:(us.zip L).length=L.length:=by rw[List.length_zip];omega
 obtain⟨Z,hZ⟩:∃ Z,Z=keepL (us.zip L) p:=⟨_,rfl⟩
 have k1:keepL us p=Z.map Prod.fst:=by
  unfold keepL at hZ ⊢
  rw[hZ,←keepT_map _ _ _ _ (Nat.le_refl _),←e1,hz,hl]
 have k2:keepL L p=Z.map Prod.snd:=by
  unfold keepL at hZ ⊢
  rw[hZ,←keepT_map _ _ _ _ (Nat.le_refl _),←e2,hz]
 have hmem:∀ q∈Z,Sl enc k w' q.1 q.2∧∀ b,q.1.ownBlock=some b→base≤b∧∃ cs,w'.heap[b]? = some (.cells cs tS (0,0)):=fun q hq=>by
  rw[hZ]at hq
  unfold keepL at hq
  obtain⟨j,hj,-,hx⟩:=mem_keepT.1 hq
  rw[hz]at hj
  obtain⟨u,hju,hsu,hbu⟩:=hu j hj
  have hx2:(us.zip L)[j]? = some (u,L[j]):=by
   rw[List.getElem?_zip_eq_some]
   exact⟨hju,List.getElem?_eq_getElem hj⟩
  rw[hx2]at hx
  injection hx with hx
  subst hx
  exact⟨hsu.keep n,fun b e=>⟨(hbu b e).1,by obtain⟨cs,h5⟩:=(hbu b e).2;exact⟨cs,(n.block b (Array.getElem?_eq_some_iff.1 h5).1).trans h5⟩⟩⟩
 rw[k1]at ho
 rw[k2]
 refine⟨Z.map Prod.fst,by simp,⟨own_sl (enc:=oneV) (k:=1) (l:=Z.map Prod.fst) (fun _=>rfl) (by rw[oneV_flat];exact ho),own_typed ho hb⟩,fun j hj=>?_⟩
 have hj':j<Z.length:=by simpa using hj
 refine⟨Z[j].1,by simp[hj'],?_⟩
 rw[List.getElem_map]
 exact hmem _ (List.getElem_mem hj')
end
def mixR {α:Type} (K F:List α) (i:Nat):List α:=K.take i++F.drop i
theorem mixR_len {α:Type} {K F:List α} (h:K.length=F.length) {i:Nat} (hi:i≤F.length):(mixR K F i).length=F.length:=by unfold mixR;rw[List.length_append,List.length_take,List.length_drop];omega
theorem mixR_at {α:Type} {K F:List α} (h:K.length=F.length) {i:Nat} (hi:i<F.length):(mixR K F i)[i]? = some F[i]:=by
 unfold mixR
 rw[List.getElem?_append_right (by rw[List.length_take];omega),List.length_take,List.getElem?_drop]
 have:i+(i - min i K.length)=i:=by omega
 rw[this,List.getElem?_eq_getElem hi]
theorem mixR_set {α:Type} {K F:List α} (h:K.length=F.length) {i:Nat} (hi:i<F.length):(mixR K F i).set i (K[i]'(by omega))=mixR K F (i+1):=by
 unfold mixR
 have hK:i<K.length:=by omega
 rw[List.take_succ_eq_append_getElem hK,List.drop_eq_getElem_cons hi,List.append_assoc,List.set_append_right _ _ (by rw[List.length_take];omega)]
 congr 1
 have:i - (K.take i).length=0:=by rw[List.length_take];omega
 rw[this]
 rfl
theorem mixR_zero {α:Type} (K F:List α):mixR K F 0=F:=by unfold mixR;simp
theorem mixR_all {α:Type} {K F:List α} (h:K.length=F.length):mixR K F F.length=K:=by unfold mixR;rw[←h,List.take_length,List.drop_of_length_le (by omega),List.append_nil]
def gdK (C:CfgR) (A:Int→Int→List Fl) (p:Bd):List (List Fl):=gridT p.w.toNat p.d.toNat fun i j=>corI C (bxA A p) (p.x+i) (p.z+j)
theorem gd_lens (C:CfgR) (A:Int→Int→List Fl) (p:Bd):(gdF A p).length=p.d.toNat*p.w.toNat∧(gdR C A p).length=p.d.toNat*p.w.toNat∧(gdK C A p).length=p.d.toNat*p.w.toNat:=⟨gridT_len _ _ _,gridT_len _ _ _,gridT_len _ _ _⟩
theorem gd_keep {C:CfgR} (hC:C.err=0) (A:Int→Int→List Fl) {p:Bd} (hp:Box4 p) {i:Nat} (h1:i<(gdF A p).length) (h2:i<(gdR C A p).length) (h3:i<(gdK C A p).length) :
  (gdR C A p)[i].length=(gdF A p)[i].length∧(gdK C A p)[i]=keepL (gdF A p)[i] (fun k=>decide (C.cl+1≤((gdR C A p)[i][k]?).getD 0)):=by
 have hn:=h1
 rw[(gd_lens C A p).1]at hn
 unfold gdF at h1
 unfold gdR at h2
 unfold gdK at h3
 have hw:0<p.w.toNat:=by have:=hp.w;omega
 have hm:=Nat.mod_lt i hw
 have hd:=(Nat.div_lt_iff_lt_mul hw).2 hn
 have e1:(gdF A p)[i]=A (p.x+((i % p.w.toNat:Nat):Int)) (p.z+((i / p.w.toNat:Nat):Int)):=gridT_at h1
 have e2:(gdR C A p)[i]=farI C (bxA A p) (p.x+((i % p.w.toNat:Nat):Int)) (p.z+((i / p.w.toNat:Nat):Int)):=gridT_at h2
 have e3:(gdK C A p)[i]=corI C (bxA A p) (p.x+((i % p.w.toNat:Nat):Int)) (p.z+((i / p.w.toNat:Nat):Int)):=gridT_at h3
 have z1:(0:Int)≤((i / p.w.toNat:Nat):Int):=Int.natCast_nonneg _
 have z2:(0:Int)≤((i % p.w.toNat:Nat):Int):=Int.natCast_nonneg _
 have y1:((i % p.w.toNat:Nat):Int)<p.w:=by
  have:=Int.ofNat_lt.2 hm
  rw[Int.toNat_of_nonneg (by have:=hp.w;omega)]at this
  exact this
 have y2:((i / p.w.toNat:Nat):Int)<p.d:=by
  have:=Int.ofNat_lt.2 hd
  rw[Int.toNat_of_nonneg (by have:=hp.d;omega)]at this
  exact this
 have hb:p.has (p.x+((i % p.w.toNat:Nat):Int)) (p.z+((i / p.w.toNat:Nat):Int))=true:=by
  refine Bd.has_iff.2 ?_
  generalize ((i / p.w.toNat:Nat):Int)=q1 at *
  generalize ((i % p.w.toNat:Nat):Int)=q2 at *
  omega
 rw[e1,e2,e3]
 generalize p.x+((i % p.w.toNat:Nat):Int)=x at *
 generalize p.z+((i / p.w.toNat:Nat):Int)=z at *
 have e4:bxA A p x z=A x z:=by unfold bxA;rw[if_pos hb]
 refine⟨by rw[farI_len,e4],?_⟩
 unfold corI
 rw[e4]
 refine keepL_congr fun k hk=>?_
 have hk2:k<(farI C (bxA A p) x z).length:=by rw[farI_len,e4];exact hk
 rw[←cor_far hC hk2,List.getElem?_eq_getElem hk2]
 rfl
theorem gd_tile {C:CfgR} {b:Bd} (hb:Til C b) (A:Int→Int→List Fl):keepL (gdK C A (padB C b)) (fun i=>b.has ((padB C b).x+((i % (padB C b).w.toNat:Nat):Int)) ((padB C b).z+((i / (padB C b).w.toNat:Nat):Int)))=corL C A b:=by
 obtain⟨q1,-,-⟩:=cfg_in hb.e
 obtain⟨w,d,e1,e2,w1,w2,d1,d2,e3,e4⟩:=hb.pad.nat
 obtain⟨bw,bd,f1,f2,bw1,bw2,bd1,bd2,f3,f4⟩:=hb.box.nat
 have px:(padB C b).x=b.x - (C.cl+4):=rfl
 have pz:(padB C b).z=b.z - (C.cl+4):=rfl
 have pw:(padB C b).w=b.w+2*(C.cl+4):=rfl
 have pd:(padB C b).d=b.d+2*(C.cl+4):=rfl
 obtain⟨m,hm⟩:∃ m:Nat,C.cl+4=m:=⟨(C.cl+4).toNat,by omega⟩
 have key:=keep_sub (rows:=gdK C A (padB C b)) (f:=fun i j=>corI C (bxA A (padB C b)) ((padB C b).x+(i:Nat)) ((padB C b).z+(j:Nat))) (p:=fun i=>b.has ((padB C b).x+((i % (padB C b).w.toNat:Nat):Int)) ((padB C b).z+((i / (padB C b).w.toNat:Nat):Int)))
  (pw:=w) (pd:=d) (x0:=m) (z0:=m) (w:=bw) (d:=bd) (by rw[(gd_lens C A _).2.2,e3,e4]) (fun i j hi hj=>by
   have h:j*w+i<d*w:=by
    have:(j+1)*w≤d*w:=Nat.mul_le_mul_right _ (by omega)
    rw[Nat.add_mul]at this
    omega
   unfold gdK
   rw[e3,e4,gridT_get h,(row_div hi).1,(row_div hi).2]) (fun i j hi hj=>by
   rw[e3,(row_div hi).1,(row_div hi).2,Bd.has_iff]
   omega) (by omega) (by omega) (by omega)
 rw[key]
 unfold corL
 rw[f3,f4]
 refine gridT_congr (by omega) fun i j hi hj=>?_
 have hh:b.has (b.x+(i:Int)) (b.z+(j:Int))=true:=Bd.has_iff.2 (by omega)
 rw[←pad_cor A hb hh]
 congr 1 <;> omega
theorem cr_cores1 (C:CfgR) (hC:C.err=0) (l:List Int) (ra:Option Addr) (rc B1 B2:Nat) (k:Nat) (hk:k<l.length) (hl:l.length≤8) (w:World) (h1:w.cell? ⟨B1,0,none⟩=some (.slice ra l.length rc)) (hr:RowIn iE 1 w ra l) (h2:w.cell? ⟨B2,0,none⟩=some (.int .i64 C.cl)) :
  Calls Tryz.prog 61 #[.int .i64 (k:Nat),.pointer (some ⟨B1,0,none⟩),.pointer (some ⟨B2,0,none⟩)] w fun e w'=>e=.returned (.bool (decide (C.cl+1≤(l[k]?).getD 0)))∧New w w':=by
 obtain⟨q1,-,-⟩:=cfg_in hC
 have m1:IntKind.i64.wrap (C.cl+1)=C.cl+1:=IntWalk.i64_in _ (by omega)
 obtain⟨b,off,rfl,hA⟩:=hr (by omega)
 have c3:=hA k hk 0 (by show 0<1;omega)
 rw[Nat.mul_one,Nat.add_zero]at c3
 rw[List.getElem?_eq_getElem hk]
 have e1:(iE l[k])[0]'(by show 0<1;omega)=.int .i64 l[k]:=rfl
 rw[e1]at c3
 simp only[Option.getD_some]
 generalize l[k]=x at *
 generalize l.length=n at *
 have hkz:((k:Nat):Int).toNat=k:=Int.toNat_natCast k
 clear e1 hA q1
 go_enter Tryz.func61,Tryz.ntmps61
 go_upto_region 1 with fail
 (refine wp_region_hat (by kernel_rfl) (by kernel_rfl) ?_;intro hatc hatf;(repeat(go_big_quiet_step ((fail))));refine wpQuiet_nil ?_;rintro _ ⟨x,rfl⟩)
 go_wp2_with fail
 go_ret
 exact⟨rfl,x.h⟩
theorem cr_cores2 (b p:Bd) (hb:Box4 b) (hp:Box4 p) (B1 B2:Nat) (i:Nat) (hi:i<p.d.toNat*p.w.toNat) (w:World)
  (t0:w.cell? ⟨B1,0,none⟩=some (.int .i64 b.x)) (t1:w.cell? ⟨B1,1,none⟩=some (.int .i64 b.z)) (t2:w.cell? ⟨B1,2,none⟩=some (.int .i64 b.w)) (t3:w.cell? ⟨B1,3,none⟩=some (.int .i64 b.d))
  (p0:w.cell? ⟨B2,0,none⟩=some (.int .i64 p.x)) (p1:w.cell? ⟨B2,1,none⟩=some (.int .i64 p.z)) (p2:w.cell? ⟨B2,2,none⟩=some (.int .i64 p.w)) (p3:w.cell? ⟨B2,3,none⟩=some (.int .i64 p.d)) :
  Calls Tryz.prog 63 #[.int .i64 (i:Nat),.pointer (some ⟨B1,0,none⟩),.pointer (some ⟨B2,0,none⟩)] w fun e w'=>e=.returned (.bool (b.has (p.x+((i % p.w.toNat:Nat):Int)) (p.z+((i / p.w.toNat:Nat):Int))))∧New w w':=by
 have KC:=Lib.hid (fun W=>cr_column p hp i hi W)
 have KH:=Lib.hid (fun W=>cr_has b hb (p.x+((i % p.w.toNat:Nat):Int)) (p.z+((i / p.w.toNat:Nat):Int)) W)
 generalize p.x+((i % p.w.toNat:Nat):Int)=x at *
 generalize p.z+((i / p.w.toNat:Nat):Int)=z at *
 generalize b.has x z=r at *
 clear hb hp hi
 go_enter Tryz.func63,Tryz.ntmps63
 go_upto_region 1 with fail
 (refine wp_region_hat (by kernel_rfl) (by kernel_rfl) ?_;intro hatc hatf;(repeat(go_big_quiet_step ((first|(go_at_call 43;exact Calls.hat (KC.out _))|(go_at_call 40;exact Calls.hat (KH.out _))))));refine wpQuiet_nil ?_;rintro _ ⟨y,rfl⟩)
 go_wp2_with fail
 go_ret
 exact⟨rfl,y.h⟩
def Cored (er:Int) (L:List (List Fl)) (w:World) (e:Ending) (w':World):Prop :=
 ∃ (fa:Option Addr) (fc:Nat) (K:List (List Fl)),e=.returned (.tuple #[.slice fa K.length fc,.int .i64 er])∧RowsN Fl.enc 3 54 56 w.heap.size w' (.slice fa K.length fc) K∧(er=0→K=L)∧(er≠0→K=[])∧New w w'
theorem cr_cores (C:CfgR) (S:SoupV) (b:Bd) (hS0:S.err C=0) (hb:Til C b) (w:World) (hN:Nowhere w) (hD:Dirs w) (hS:S.ok w) :
  Calls Tryz.prog 35 #[.agg #[.int .i64 C.cl,.int .i64 C.cb,.int .i64 C.ht,.int .i64 C.ri,.int .i64 C.ru,.int .i64 C.wd,.int .i64 C.dp],.agg #[.slice S.a0 S.ts.length S.c0,.slice S.a1 S.bs.length S.c1,.slice S.a2 S.hs.length S.c2],.agg #[.int .i64 b.x,.int .i64 b.z,.int .i64 b.w,.int .i64 b.d]] w (Cored (fulE C S (padB C b)) (corL C (coA C S.ts S.bs) b) w):=by
 have hC:=hb.e
 have KG:=Lib.hid (fun W (n:New w W)=>cr_groundOf C S b hS0 hb W (hN.new n) (hD.new n) (hS.keep n))
 unfold Grounded at KG
 have h2:=ful_two hS0 hb.pad
 have hp:=hb.pad
 have HBX:=Lib.hid hb.box
 have HL:=gd_lens C (coA C S.ts S.bs) (padB C b)
 have HKP:=Lib.hid (fun i h1 h2 h3=>gd_keep hC (coA C S.ts S.bs) hp (i:=i) h1 h2 h3)
 have HTL:=Lib.hid (gd_tile hb (coA C S.ts S.bs))
 have HF8:Hid (∀ i (h:i<(gdF (coA C S.ts S.bs) (padB C b)).length),(gdF (coA C S.ts S.bs) (padB C b))[i].length≤8):=Lib.hid (fun i h=>by
  unfold gdF at h
  have e:(gdF (coA C S.ts S.bs) (padB C b))[i]=_:=gridT_at h
  rw[e]
  unfold coA
  rw[List.length_map]
  exact flX_len8 C _)
 generalize fulE C S (padB C b)=er at *
 generalize corL C (coA C S.ts S.bs) b=T at *
 generalize gdF (coA C S.ts S.bs) (padB C b)=F at *
 generalize gdR C (coA C S.ts S.bs) (padB C b)=R at *
 generalize gdK C (coA C S.ts S.bs) (padB C b)=K at *
 generalize padB C b=p at *
 obtain⟨hLF,hLR,hLK⟩:=HL
 have hn4:p.d.toNat*p.w.toNat≤4096:=Nat.le_trans (Nat.mul_le_mul_right _ (show p.d.toNat≤64 by have:=hp.d;omega)) (Nat.mul_le_mul_left _ (show p.w.toNat≤64 by have:=hp.w;omega))
 have HP4:=Lib.hid hp
 clear hS0 hb hN hD hS hp
 go_enter Tryz.func35,Tryz.ntmps35
 go_upto_region 1 with fail
 refine Code.at (fun W0 hW=>?_)
 have n0:New w W0:=by subst hW;exact nw
 have hc:CellsAt W0 w.heap.size 0 C.enc:=by subst hW;exact(cells_new w _ _).keep (by exact nw)
 have c7:W0.cell? ⟨w.heap.size+1,0,none⟩=some (.slice S.a0 S.ts.length S.c0):=by subst hW;go_simp
 have c8:W0.cell? ⟨w.heap.size+1,1,none⟩=some (.slice S.a1 S.bs.length S.c1):=by subst hW;go_simp
 have c9:W0.cell? ⟨w.heap.size+1,2,none⟩=some (.slice S.a2 S.hs.length S.c2):=by subst hW;go_simp
 have tb0:W0.cell? ⟨w.heap.size+2,0,none⟩=some (.int .i64 b.x):=by subst hW;go_simp
 have tb1:W0.cell? ⟨w.heap.size+2,1,none⟩=some (.int .i64 b.z):=by subst hW;go_simp
 have tb2:W0.cell? ⟨w.heap.size+2,2,none⟩=some (.int .i64 b.w):=by subst hW;go_simp
 have tb3:W0.cell? ⟨w.heap.size+2,3,none⟩=some (.int .i64 b.d):=by subst hW;go_simp
 clear hW
 have HT:=Lib.hid (fun W (q:New W0 W)=>And.intro (q.keep tb0) (And.intro (q.keep tb1) (And.intro (q.keep tb2) (q.keep tb3))))
 obtain⟨c0,c1,c2,c3,c4,c5,c6⟩:=CfgR.at hc
 have HCL:=Lib.hid (fun W (q:New W0 W)=>q.keep c0)
 have N0:=Lib.hid n0
 clear hc n0
 go_wp2_with fail
 refine(KG.out _ (by have:=N0.out;exact nw)).mono ?_
 rintro e w1 ⟨P,fa,fc,FL,ra,rc,RL,rfl,hF,⟨b1,hb1,hR,hfr⟩,hE,n1⟩
 have N1:=Lib.hid n1
 have hf1:RowsN Fl.enc 3 54 56 W0.heap.size w1 (.slice fa FL.length fc) FL:=hF
 clear c0 c1 c2 c3 c4 c5 c6 c7 c8 c9 tb0 tb1 tb2 tb3 n1 KG hF
 rcases h2 with rfl|rfl
 rotate_left
 ·go_wp2_with fail
  go_ret2
  exact⟨none,0,[],rfl,rowsN_nil,fun h=>by omega,fun _=>rfl,(N0.out.trans N1.out).trans (by exact nw)⟩
 obtain⟨rfl,rfl,rfl⟩:=hE rfl
 have hn0:0<P.d.toNat*P.w.toNat:=Nat.mul_pos (by have:=HP4.out.d;omega) (by have:=HP4.out.w;omega)
 have HF1:=Lib.hid hf1
 have HR1:=Lib.hid hR
 have HFR:=Lib.hid hfr
 have HB1:=Lib.hid hb1
 obtain⟨n,hn⟩:∃ n,n=RL.length:=⟨_,rfl⟩
 have hnF:FL.length=n:=by rw[hn,hLF,hLR]
 have hnK:K.length=n:=by rw[hn,hLK,hLR]
 have hn4':n≤4096:=by rw[hn,hLR];exact hn4
 have hnP:P.d.toNat*P.w.toNat=n:=by rw[hn,hLR]
 rw[←hn]at HR1 ⊢
 rw[hnF]at HF1 HFR ⊢
 have HN:=Lib.hid hn
 have HNF:=Lib.hid hnF
 have HNK:=Lib.hid hnK
 have HNP:=Lib.hid hnP
 obtain⟨bf,off,-,-,rfl,-,-⟩:=HF1.out.rows.at 0 (by omega)
 have HBF:Hid (bf<b1):=Lib.hid (HFR.out bf rfl)
 clear hf1 hR hfr hE hn hnF hnK hnP hLF hLR hLK hb1 HFR hn4
 go_upto_region 4 with fail
 refine Code.at (fun W4 hW=>?_)
 have n4:New w1 W4:=by subst hW;exact nw
 have p0:W4.cell? ⟨w1.heap.size,0,none⟩=some (.int .i64 P.x):=by subst hW;go_simp
 have p1:W4.cell? ⟨w1.heap.size,1,none⟩=some (.int .i64 P.z):=by subst hW;go_simp
 have p2:W4.cell? ⟨w1.heap.size,2,none⟩=some (.int .i64 P.w):=by subst hW;go_simp
 have p3:W4.cell? ⟨w1.heap.size,3,none⟩=some (.int .i64 P.d):=by subst hW;go_simp
 have p4:W4.cell? ⟨w1.heap.size,4,none⟩=some (.slice (some ⟨bf,off,none⟩) n fc):=by subst hW;go_simp
 have p5:W4.cell? ⟨w1.heap.size,5,none⟩=some (.slice ra n rc):=by subst hW;go_simp
 clear hW
 obtain⟨G,hG⟩:∃ G,G=w1.heap.size:=⟨_,rfl⟩
 rw[←hG]at p0 p1 p2 p3 p4 p5 ⊢
 have hGb:bf<G:=by
  rw[hG]
  obtain⟨us,-,hq,-⟩:=HF1.out
  obtain⟨-,cs,q2⟩:=hq.2 bf rfl
  exact(Array.getElem?_eq_some_iff.1 q2).1
 have hG4:G<W4.heap.size:=World.block_lt_of_cell? _ _ p0
 have HPC:=Lib.hid (fun W (q:Bar W4.heap.size bf W4 W)=>by
  have e:W.heap[G]? = W4.heap[G]? := q.2 G hG4 (by omega)
  exact(⟨(World.cell?_of_block (a:=⟨G,0,none⟩) e).trans p0,(World.cell?_of_block (a:=⟨G,1,none⟩) e).trans p1,(World.cell?_of_block (a:=⟨G,2,none⟩) e).trans p2,(World.cell?_of_block (a:=⟨G,3,none⟩) e).trans p3,(World.cell?_of_block (a:=⟨G,4,none⟩) e).trans p4,(World.cell?_of_block (a:=⟨G,5,none⟩) e).trans p5⟩ :
   W.cell? ⟨G,0,none⟩=some (.int .i64 P.x)∧W.cell? ⟨G,1,none⟩=some (.int .i64 P.z)∧W.cell? ⟨G,2,none⟩=some (.int .i64 P.w)∧W.cell? ⟨G,3,none⟩=some (.int .i64 P.d)∧W.cell? ⟨G,4,none⟩=some (.slice (some ⟨bf,off,none⟩) n fc)∧W.cell? ⟨G,5,none⟩=some (.slice ra n rc)))
 have HF4:=Lib.hid (HF1.out.new n4)
 have HR4:=Lib.hid (HR1.out.new iE_len (by omega) n4)
 have N4:=Lib.hid (N1.out.trans n4)
 have hbz4:Hid (b1≤W4.heap.size∨True):=Lib.hid (.inr trivial)
 have HRW:=Lib.hid (fun W (q:Bar W4.heap.size bf W4 W)=>HR4.out.kept iE_len (by omega) (fun b hb hlt=>q.2 b hlt (by have:=HBF.out;omega)))
 have hBw:Hid (W0.heap.size≤bf):=Lib.hid (by
  obtain⟨us,-,hq,-⟩:=HF4.out
  exact(hq.2 bf rfl).1)
 clear n4 hG hGb hG4 HF1 HR1 N1 hbz4
 have hw4:Bar W4.heap.size bf W4 W4:=Bar.refl (Nat.le_refl _)
 have HB4:=Lib.hid hw4
 have HN04:=Lib.hid N4.out
 clear hw4
 go_wp2_with fail
 clear p0 p1 p2 p3 p4 p5
 go_loopg [25] n (fun gk s25 wr=>∃ i:Nat,s25=.int .i64 i∧i≤n∧n - i≤gk∧Hid (RowsN Fl.enc 3 54 56 W0.heap.size wr (.slice (some ⟨bf,off,none⟩) n fc) (mixR K FL i))∧Hid (Bar W4.heap.size bf W4 wr)∧Hid (New W0 wr))
 case atStart=>exact⟨0,rfl,by omega,by omega,Lib.hid (by rw[mixR_zero];exact HF4.out),HB4,HN04⟩
 case round =>
  obtain⟨i,rfl,hi,hgk,HRN,HBR,HNW⟩:=hrel
  have HGK:=Lib.hid hgk
  clear hgk
  by_cases hlt:i<n
  ·have hiF:i<FL.length:=by rw[HNF.out];exact hlt
   have hiR:i<RL.length:=by rw[←HN.out];exact hlt
   have hiK:i<K.length:=by rw[HNK.out];exact hlt
   have hKF:K.length=FL.length:=by rw[HNK.out,HNF.out]
   obtain⟨hkl,hkk⟩:=HKP.out i hiF hiR hiK
   have h8:=HF8.out i hiF
   have hmx:i<(mixR K FL i).length:=by rw[mixR_len hKF (by omega)];exact hiF
   obtain⟨bx,ox,a,d,ex,cF,sF⟩:=HRN.out.rows.at i hmx
   injection ex with ex
   injection ex with ex1 ex2
   subst ex1
   subst ex2
   have hmi:(mixR K FL i)[i]=FL[i]:=by
    have:=mixR_at hKF hiF
    rw[List.getElem?_eq_getElem hmx]at this
    exact Option.some.inj this
   rw[hmi]at cF sF
   obtain⟨b2,o2,a2,d2,e2,cR,sR⟩:=(HRW.out _ HBR.out).rows.at i hiR
   subst e2
   have hset:=mixR_set hKF hiF
   have HSET:=Lib.hid hset
   obtain⟨Fi,hFi⟩:∃ f,f=FL[i]:=⟨_,rfl⟩
   obtain⟨Ri,hRi⟩:∃ f,f=RL[i]:=⟨_,rfl⟩
   obtain⟨Ki,hKi⟩:∃ f,f=K[i]:=⟨_,rfl⟩
   rw[←hFi]at cF sF h8 hkl hkk
   rw[←hRi]at cR sR hkl hkk
   rw[←hKi]at HSET hkk
   have HSF:=Lib.hid sF
   have HSR:=Lib.hid sR
   have HKK:=Lib.hid hkk
   clear hset hmi hmx hkk sF sR hFi hRi hKi hiK hKF hiR hiF
   obtain⟨p0,p1,p2,p3,p4,p5⟩:=HPC.out _ HBR.out
   rw[hkl]at cR
   have hR8:Ri.length≤8:=by omega
   obtain⟨m,hm⟩:∃ m,m=Fi.length:=⟨_,rfl⟩
   rw[←hm]at cF cR
   have HM:=Lib.hid (And.intro hm hkl)
   rename World=>wr
   go_upto_region 7 with fail
   refine Code.at (fun W6 hW=>?_)
   have n6:New wr W6:=by subst hW;exact nw
   have f6:W6.cell? ⟨wr.heap.size,0,none⟩=some (.slice a2 m d2):=by subst hW;go_simp
   clear hW cR p0 p1 p2 p3 p5
   replace cF:=n6.keep cF
   replace p4:=n6.keep p4
   have N6:=Lib.hid n6
   have HFV:=Lib.hid (fun W (q:New W6 W)=>q.keep f6)
   have HCF:=Lib.hid (fun W (q:New W6 W)=>q.keep cF)
   have HP4':=Lib.hid (fun W (q:New W6 W)=>q.keep p4)
   have HNW6:=Lib.hid (HNW.out.trans n6)
   have hlF:Fi.length=m:=hm.symm
   clear n6 hm hkl f6 cF p4
   refine wp_region_loose 11 (fun i' w' v=>match i' with
    | 0=>v=.pointer (some ⟨G,4,none⟩)
    | 1=>v=.slice (some ⟨bf,off,none⟩) n fc
    | 2=>v=.int .i64 (i:Nat)
    | 3=>v=.pointer (some ⟨G,4,none⟩)
    | 4=>v=.slice (some ⟨bf,off,none⟩) n fc
    | 5=>v=.int .i64 (i:Nat)
    | 6=>v=.pointer (some ⟨bf,off+i,none⟩)
    | 7=>v=.slice a m d
    | 8=>v=.func (.func 61) #[] #[.pointer (some ⟨wr.heap.size,0,none⟩),.pointer (some ⟨w.heap.size,0,none⟩)]
    | 9=>Sl Fl.enc 3 w' v Ki∧∀ g,v.ownBlock=some g→W0.heap.size≤g∧∃ cs,w'.heap[g]? = some (.cells cs 56 (0,0))
    | 10=>v=.pointer (some ⟨bf,off+i,none⟩)
    | _=>True) (by kernel_rfl) (by kernel_rfl) ?_ ?_ ?_
   ·intro i' w1 w2 v h nq
    match i',h with
    | 0,h=>exact h
    | 1,h=>exact h
    | 2,h=>exact h
    | 3,h=>exact h
    | 4,h=>exact h
    | 5,h=>exact h
    | 6,h=>exact h
    | 7,h=>exact h
    | 8,h=>exact h
    | 9,h=>exact⟨h.1.keep nq,fun g e=>⟨(h.2 g e).1,by obtain⟨cs,h5⟩:=(h.2 g e).2;exact⟨cs,(nq.block g (Array.getElem?_eq_some_iff.1 h5).1).trans h5⟩⟩⟩
    | 10,h=>exact h
    | i'+11,_=>trivial
   ·intro i' o hi2 ho a' w' nn hr hd
    rcases(show i'=0∨i'=1∨i'=2∨i'=3∨i'=4∨i'=5∨i'=6∨i'=7∨i'=8∨i'=9∨i'=10 by omega)with rfl|rfl|rfl|rfl|rfl|rfl|rfl|rfl|rfl|rfl|rfl <;> obtain rfl:=Option.some.inj ho
    ·have r8:(a'.tmps[8]?).getD undef=.pointer (some ⟨G,0,none⟩):=(eval_get a' 8).symm.trans (hr 8 (by kernel_rfl))
     exact yields_value (.pointer (some ⟨G,4,none⟩)) (by go_simp) ⟨New.refl _,rfl⟩
    ·have r30:(a'.tmps[30]?).getD undef=.pointer (some ⟨G,4,none⟩):=(eval_get a' 30).symm.trans (hd 0 30 (by omega) (by kernel_rfl) (by kernel_rfl))
     have g4:=HP4'.out _ nn
     exact yields_value (.slice (some ⟨bf,off,none⟩) n fc) (by go_simp) ⟨New.refl _,rfl⟩
    ·have r10:(a'.tmps[10]?).getD undef=.int .i64 (i:Nat):=(eval_get a' 10).symm.trans (hr 10 (by kernel_rfl))
     exact yields_value (.int .i64 (i:Nat)) (by go_simp) ⟨New.refl _,rfl⟩
    ·have r8:(a'.tmps[8]?).getD undef=.pointer (some ⟨G,0,none⟩):=(eval_get a' 8).symm.trans (hr 8 (by kernel_rfl))
     exact yields_value (.pointer (some ⟨G,4,none⟩)) (by go_simp) ⟨New.refl _,rfl⟩
    ·have r33:(a'.tmps[33]?).getD undef=.pointer (some ⟨G,4,none⟩):=(eval_get a' 33).symm.trans (hd 3 33 (by omega) (by kernel_rfl) (by kernel_rfl))
     have g4:=HP4'.out _ nn
     exact yields_value (.slice (some ⟨bf,off,none⟩) n fc) (by go_simp) ⟨New.refl _,rfl⟩
    ·have r10:(a'.tmps[10]?).getD undef=.int .i64 (i:Nat):=(eval_get a' 10).symm.trans (hr 10 (by kernel_rfl))
     exact yields_value (.int .i64 (i:Nat)) (by go_simp) ⟨New.refl _,rfl⟩
    ·have r34:(a'.tmps[34]?).getD undef=.slice (some ⟨bf,off,none⟩) n fc:=(eval_get a' 34).symm.trans (hd 4 34 (by omega) (by kernel_rfl) (by kernel_rfl))
     have r35:(a'.tmps[35]?).getD undef=.int .i64 (i:Nat):=(eval_get a' 35).symm.trans (hd 5 35 (by omega) (by kernel_rfl) (by kernel_rfl))
     exact yields_value (.pointer (some ⟨bf,off+i,none⟩)) (by go_simp) ⟨New.refl _,rfl⟩
    ·have r36:(a'.tmps[36]?).getD undef=.pointer (some ⟨bf,off+i,none⟩):=(eval_get a' 36).symm.trans (hd 6 36 (by omega) (by kernel_rfl) (by kernel_rfl))
     have cF:=HCF.out _ nn
     exact yields_value (.slice a m d) (by go_simp) ⟨New.refl _,rfl⟩
    ·have r11:(a'.tmps[11]?).getD undef=.pointer (some ⟨wr.heap.size,0,none⟩):=(eval_get a' 11).symm.trans (hr 11 (by kernel_rfl))
     have r3:(a'.tmps[3]?).getD undef=.pointer (some ⟨w.heap.size,0,none⟩):=(eval_get a' 3).symm.trans (hr 3 (by kernel_rfl))
     exact yields_value (.func (.func 61) #[] #[.pointer (some ⟨wr.heap.size,0,none⟩),.pointer (some ⟨w.heap.size,0,none⟩)]) (by go_simp) ⟨New.refl _,rfl⟩
    ·have r37:(a'.tmps[37]?).getD undef=.slice a m d:=(eval_get a' 37).symm.trans (hd 7 37 (by omega) (by kernel_rfl) (by kernel_rfl))
     have r38:(a'.tmps[38]?).getD undef=.func (.func 61) #[] #[.pointer (some ⟨wr.heap.size,0,none⟩),.pointer (some ⟨w.heap.size,0,none⟩)]:=(eval_get a' 38).symm.trans (hd 8 38 (by omega) (by kernel_rfl) (by kernel_rfl))
     have hrow:RowIn Fl.enc 3 w' a Fi:=(HSF.out.keep (N6.out.trans nn)).row'.2.2.2.2
     have hK:=cr_keepF a Fi d h8 wr.heap.size w.heap.size (fun k=>decide (C.cl+1≤(Ri[k]?).getD 0)) w' hrow (fun k hk W q=>cr_cores1 C hC Ri a2 d2 wr.heap.size w.heap.size k (by have:=HM.out.2;omega) hR8 W (by have:=HFV.out W (nn.trans q);rw[HM.out.2,←HM.out.1];exact this) ((HSR.out.keep (N6.out.trans (nn.trans q))).row'.2.2.2.2) (HCL.out W (HNW6.out.trans (nn.trans q))))
     rw[hlF,←HKK.out]at hK
     refine yields_enter 60 #[.slice a m d,.func (.func 61) #[] #[.pointer (some ⟨wr.heap.size,0,none⟩),.pointer (some ⟨w.heap.size,0,none⟩)]] (by go_simp) (hK.mono ?_)
     rintro e w'' ⟨v,rfl,ho,hn⟩
     exact⟨v,rfl,hn,own_sl Fl.enc_len ho,own_typed ho (Nat.le_trans HNW6.out.size nn.size)⟩
    ·have r31:(a'.tmps[31]?).getD undef=.slice (some ⟨bf,off,none⟩) n fc:=(eval_get a' 31).symm.trans (hd 1 31 (by omega) (by kernel_rfl) (by kernel_rfl))
     have r32:(a'.tmps[32]?).getD undef=.int .i64 (i:Nat):=(eval_get a' 32).symm.trans (hd 2 32 (by omega) (by kernel_rfl) (by kernel_rfl))
     exact yields_value (.pointer (some ⟨bf,off+i,none⟩)) (by go_simp) ⟨New.refl _,rfl⟩
   ·intro vs w' nn hv
    have e10:vs 10=.pointer (some ⟨bf,off+i,none⟩):=hv 10 (by omega)
    obtain⟨s9,b9⟩:Sl Fl.enc 3 w' (vs 9) Ki∧∀ g,(vs 9).ownBlock=some g→W0.heap.size≤g∧∃ cs,w'.heap[g]? = some (.cells cs 56 (0,0)):=hv 9 (by omega)
    simp only[List.take_succ_cons,List.take_zero,List.drop_succ_cons,List.drop_zero,putL,Act.put,List.setIfInBounds_toArray,List.set_cons_zero,List.set_cons_succ,Nat.reduceAdd,Nat.zero_add]
    rw[e10]
    generalize vs 9=v9 at *
    obtain⟨va,vc,rfl,-⟩:=id s9
    have nw:=N6.out.trans nn
    have hRNw:=HRN.out.new nw
    obtain⟨bx,ox,u0,ex,hbx,cx,fx,hRN2⟩:=hRNw.set (by decide) (i:=i) (by have:=HNF.out;rw[mixR_len (by rw[HNK.out,HNF.out]) (by omega)];omega) s9 b9
    injection ex with ex
    injection ex with ex1 ex2
    subst ex1
    subst ex2
    rw[HSET.out]at hRN2
    have HR2:=Lib.hid hRN2
    have HBR2:=Lib.hid ((HBR.out.new nw).set (off+i) (.slice va Ki.length vc))
    have HNW2:Hid (New W0 (w'.setCell ⟨bf,off+i,none⟩ (.slice va Ki.length vc))):=Lib.hid (New.setB (by exact hBw.out) (HNW.out.trans nw) _)
    clear hRN2 hRNw s9 b9 hv e10 nw HBR HNW HRN HSET
    go_wp2_with fail
    go_roundg (n - (i+1))
    case measure=>have:=HGK.out;omega
    case rel=>exact⟨i+1,by go_num,by omega,by omega,HR2,HBR2,HNW2⟩
  ·obtain rfl:i=n:=by omega
   have hmx:mixR K FL i=K:=by rw[←HNF.out];exact mixR_all (by rw[HNK.out,HNF.out])
   have hrn:=HRN.out
   rw[hmx]at hrn
   obtain⟨us,hus,⟨hsl,hob⟩,hea⟩:=id hrn
   have hun:us.length=i:=by rw[hus,HNK.out]
   have hrow:RowIn oneV 1 wr (some ⟨bf,off,none⟩) us:=by
    obtain⟨_,_,e,_,_,_,h4⟩:=hsl
    injection e with e1 e2 e3
    rw[e1]
    exact h4
   have hall:∀ u∈us,∃ a n c,u=.slice a n c:=fun u hu=>by
    obtain⟨j,hj,rfl⟩:=List.getElem_of_mem hu
    obtain⟨u',e,hs,-⟩:=hea j (by omega)
    rw[List.getElem?_eq_getElem hj]at e
    injection e with e
    obtain⟨x1,x2,x3,-⟩:=hs
    exact⟨x1,_,x2,e.trans x3⟩
   obtain⟨p0,p1,p2,p3,p4,p5⟩:=HPC.out _ HBR.out
   have hHT:=fun W (q:New wr W)=>HT.out W (HNW.out.trans q)
   have KR:=cr_keepR (some ⟨bf,off,none⟩) us fc (by omega) hall (w.heap.size+2) G (fun j=>b.has (P.x+((j % P.w.toNat:Nat):Int)) (P.z+((j / P.w.toNat:Nat):Int))) wr hrow (fun k hk W q=>cr_cores2 b P HBX.out HP4.out (w.heap.size+2) G k (by rw[HNP.out];omega) W (hHT W q).1 (hHT W q).2.1 (hHT W q).2.2.1 (hHT W q).2.2.2 (q.keep p0) (q.keep p1) (q.keep p2) (q.keep p3))
   rw[hun]at KR
   have HRN2:=Lib.hid hrn
   have HUS:=Lib.hid (And.intro hus hea)
   have hbs:W0.heap.size≤wr.heap.size:=HNW.out.size
   clear hHT hall hrow hea hob hsl hrn hmx hus HRN HRW HPC HKP HF8 p0 p1 p2 p3 p5
   go_wp2_with fail
   refine KR.mono ?_
   rintro e w2 ⟨v,rfl,ho,n2⟩
   have hfin:=RowsN.keep Fl.enc_len HRN2.out n2 HUS.out.1 HUS.out.2 (fun j=>b.has (P.x+((j % P.w.toNat:Nat):Int)) (P.z+((j / P.w.toNat:Nat):Int))) hbs ho
   rw[HTL.out]at hfin
   obtain⟨va,vc,rfl⟩:=hfin.rows.shape
   have HFIN:=Lib.hid (And.intro (hfin.mono N0.out.size) (N0.out.trans (HNW.out.trans n2)))
   clear hfin ho n2 KR
   go_wp2_with fail
   go_ret2
   exact⟨va,vc,T,rfl,HFIN.out.1,fun _=>rfl,fun h=>absurd rfl h,HFIN.out.2⟩
def cobE (C:CfgR) (S:SoupV) (tx tz:Int):Int:=if S.err C≠0 then S.err C else if tilOk C tx tz=true then fulE C S (padB C (tilB C tx tz))else 2
theorem cr_Build (C:CfgR) (S:SoupV) (tx tz:Int) (w:World) (hN:Nowhere w) (hD:Dirs w) (hS:S.ok w) :
  Calls Tryz.prog 16 #[.agg #[.int .i64 C.cl,.int .i64 C.cb,.int .i64 C.ht,.int .i64 C.ri,.int .i64 C.ru,.int .i64 C.wd,.int .i64 C.dp],.agg #[.slice S.a0 S.ts.length S.c0,.slice S.a1 S.bs.length S.c1,.slice S.a2 S.hs.length S.c2],.int .i64 tx,.int .i64 tz] w (Built (cobE C S tx tz) (tilB C tx tz).x (tilB C tx tz).z (tilB C tx tz).w (tilB C tx tz).d (corL C (coA C S.ts S.bs) (tilB C tx tz)) w):=by
 have KS:=Lib.hid (fun W (n:New w W)=>s_check C S W (hS.keep n))
 have KT:=Lib.hid (fun W=>cr_tile C tx tz W)
 have KC:=Lib.hid (fun h0 h W (n:New w W)=>cr_cores C S (tilB C tx tz) h0 (til_ok h).1 W (hN.new n) (hD.new n) (hS.keep n))
 have KG:=Lib.hid (fun a n c W=>cr_grid (tilB C tx tz) (.slice a n c) ⟨a,n,c,rfl⟩ W)
 unfold Cored at KC
 obtain⟨er,her⟩:∃ e,e=cobE C S tx tz:=⟨_,rfl⟩
 rw[←her]
 unfold cobE at her
 have H1:Hid (S.err C≠0→er=S.err C):=Lib.hid (fun h=>by rw[her,if_pos h])
 have H2:Hid (S.err C=0→tilOk C tx tz=false→er=2):=Lib.hid (fun h h2=>by rw[her,if_neg (by omega),if_neg (by rw[h2];simp)])
 have H3:Hid (S.err C=0→tilOk C tx tz=true→er=fulE C S (padB C (tilB C tx tz))):=Lib.hid (fun h h2=>by rw[her,if_neg (by omega),if_pos h2])
 clear her
 generalize corL C (coA C S.ts S.bs) (tilB C tx tz)=L at *
 generalize fulE C S (padB C (tilB C tx tz))=fe at *
 generalize tilB C tx tz=b at *
 generalize S.err C=se at *
 generalize tilOk C tx tz=ok at *
 obtain⟨t0,ht0⟩:∃ q,q=S.ts.length:=⟨_,rfl⟩
 obtain⟨t1,ht1⟩:∃ q,q=S.bs.length:=⟨_,rfl⟩
 obtain⟨t2,ht2⟩:∃ q,q=S.hs.length:=⟨_,rfl⟩
 rw[←ht0,←ht1,←ht2]at KS KC
 rw[←ht0,←ht1,←ht2]
 clear ht0 ht1 ht2
 obtain⟨Q,hQ⟩:∃ Q,Q=Built er b.x b.z b.w b.d L w:=⟨_,rfl⟩
 rw[←hQ]
 have HQ:=Lib.hid hQ
 unfold Built at HQ
 clear hQ hN hD hS
 go_enter Tryz.func16,Tryz.ntmps16
 go_upto_region 1 with fail
 refine Code.at (fun W0 hW=>?_)
 have n0:New w W0:=by subst hW;exact nw
 have hc:CellsAt W0 w.heap.size 0 C.enc:=by subst hW;exact(cells_new w _ _).keep (by exact nw)
 have c7:W0.cell? ⟨w.heap.size+1,0,none⟩=some (.slice S.a0 t0 S.c0):=by subst hW;go_simp
 have c8:W0.cell? ⟨w.heap.size+1,1,none⟩=some (.slice S.a1 t1 S.c1):=by subst hW;go_simp
 have c9:W0.cell? ⟨w.heap.size+1,2,none⟩=some (.slice S.a2 t2 S.c2):=by subst hW;go_simp
 have r0:W0.heap[w.heap.size+2]? = some (.cells #[.int .i64 0,.int .i64 0,.int .i64 0,.int .i64 0,.slice none 0 0] 37 (0,0)):=by
  subst hW
  have h:=World.alloc_heap_new ((w.alloc (.cells #[.int .i64 C.cl,.int .i64 C.cb,.int .i64 C.ht,.int .i64 C.ri,.int .i64 C.ru,.int .i64 C.wd,.int .i64 C.dp] 23)).alloc (.cells #[.slice S.a0 t0 S.c0,.slice S.a1 t1 S.c1,.slice S.a2 t2 S.c2] 28)) (.cells #[.int .i64 0,.int .i64 0,.int .i64 0,.int .i64 0,.slice none 0 0] 37)
  rw[World.size_alloc,World.size_alloc]at h
  exact h
 clear hW
 have HC:=Lib.hid (fun W (q:New W0 W)=>And.intro (CfgR.at (hc.keep q)) (And.intro (q.keep c7) (And.intro (q.keep c8) (q.keep c9))))
 have HR0:=Lib.hid (fun W (q:New W0 W)=>(q.block _ (Array.getElem?_eq_some_iff.1 r0).1).trans r0)
 have hz0:w.heap.size+2<W0.heap.size:=(Array.getElem?_eq_some_iff.1 r0).1
 have N0:=Lib.hid n0
 have KS0:=KS.out W0 n0
 obtain⟨c0,c1,c2,c3,c4,c5,c6⟩:=CfgR.at hc
 clear hc r0 n0 KS
 go_wp2_with fail
 refine KS0.mono ?_
 rintro e w1 ⟨rfl,n1⟩
 have N1:=Lib.hid n1
 clear c0 c1 c2 c3 c4 c5 c6 c7 c8 c9 n1 KS0
 by_cases hse:se=0
 rotate_left
 ·obtain rfl:=H1.out hse
  have hne:(er != 0)=true:=by rw[bne_iff_ne];exact hse
  have HER:=Lib.hid hse
  have q0:=HR0.out _ N1.out
  have nn:=N0.out.trans N1.out
  have y0:w1.cell? ⟨w.heap.size+2,0,none⟩=some (.int .i64 0):=cell_of_heap q0 rfl
  have y1:w1.cell? ⟨w.heap.size+2,1,none⟩=some (.int .i64 0):=cell_of_heap q0 rfl
  have y2:w1.cell? ⟨w.heap.size+2,2,none⟩=some (.int .i64 0):=cell_of_heap q0 rfl
  have y3:w1.cell? ⟨w.heap.size+2,3,none⟩=some (.int .i64 0):=cell_of_heap q0 rfl
  have y4:w1.cell? ⟨w.heap.size+2,4,none⟩=some (.slice none 0 0):=cell_of_heap q0 rfl
  have f0:w1.frozen? ⟨w.heap.size+2,0,none⟩=false:=by simp[World.frozen?,q0]
  have f1:w1.frozen? ⟨w.heap.size+2,1,none⟩=false:=by simp[World.frozen?,q0]
  have f2:w1.frozen? ⟨w.heap.size+2,2,none⟩=false:=by simp[World.frozen?,q0]
  have f3:w1.frozen? ⟨w.heap.size+2,3,none⟩=false:=by simp[World.frozen?,q0]
  have f4:w1.frozen? ⟨w.heap.size+2,4,none⟩=false:=by simp[World.frozen?,q0]
  clear q0 hse HC HR0 KT KC KG H1 H2 H3
  go_wp2_with fail
  generalize hW5:World.setCell _ _ _=W5
  have n5:New w W5:=by subst hW5;exact nw
  have k0:W5.cell? ⟨w.heap.size+2,0,none⟩=some (.int .i64 0):=by subst hW5;go_simp
  have k1:W5.cell? ⟨w.heap.size+2,1,none⟩=some (.int .i64 0):=by subst hW5;go_simp
  have k2:W5.cell? ⟨w.heap.size+2,2,none⟩=some (.int .i64 0):=by subst hW5;go_simp
  have k3:W5.cell? ⟨w.heap.size+2,3,none⟩=some (.int .i64 0):=by subst hW5;go_simp
  have k4:W5.cell? ⟨w.heap.size+2,4,none⟩=some (.slice none 0 0):=by subst hW5;go_simp
  clear hW5 y0 y1 y2 y3 y4 f0 f1 f2 f3 f4
  refine bodyPost_ret (v:=.tuple #[.agg #[.int .i64 0,.int .i64 0,.int .i64 0,.int .i64 0,.slice none 0 0],.int .i64 er]) (by simp[results,Tryz.results16,go_sem, *]) rfl ?_
  rw[HQ.out]
  exact⟨Gd.zero,rfl,Gd.zero_ok _,fun h=>absurd h HER.out,fun _=>⟨rfl,rfl,rfl,rfl,rfl⟩,n5⟩
 subst hse
 obtain⟨⟨c0,c1,c2,c3,c4,c5,c6⟩,c7,c8,c9⟩:=HC.out _ N1.out
 go_wp2_with fail
 refine(KT.out _).mono ?_
 rintro e w2 ⟨rfl,n2⟩
 have N2:=Lib.hid (N1.out.trans n2)
 clear c0 c1 c2 c3 c4 c5 c6 c7 c8 c9 n2 KT
 go_upto_region 5 with fail
 refine Code.at (fun W3 hW=>?_)
 have n3:New w2 W3:=by subst hW;exact nw
 have b0:W3.cell? ⟨w2.heap.size,0,none⟩=some (.int .i64 b.x):=by subst hW;go_simp
 have b1:W3.cell? ⟨w2.heap.size,1,none⟩=some (.int .i64 b.z):=by subst hW;go_simp
 have b2:W3.cell? ⟨w2.heap.size,2,none⟩=some (.int .i64 b.w):=by subst hW;go_simp
 have b3:W3.cell? ⟨w2.heap.size,3,none⟩=some (.int .i64 b.d):=by subst hW;go_simp
 clear hW
 have N3:=Lib.hid (N2.out.trans n3)
 have HB:=Lib.hid (fun W (q:New W3 W)=>And.intro (q.keep b0) (And.intro (q.keep b1) (And.intro (q.keep b2) (q.keep b3))))
 clear n3
 cases ok
 ·obtain rfl:=H2.out (by trivial) (by trivial)
  have q0:=HR0.out _ N3.out
  have nn:=N0.out.trans N3.out
  have y0:W3.cell? ⟨w.heap.size+2,0,none⟩=some (.int .i64 0):=cell_of_heap q0 rfl
  have y1:W3.cell? ⟨w.heap.size+2,1,none⟩=some (.int .i64 0):=cell_of_heap q0 rfl
  have y2:W3.cell? ⟨w.heap.size+2,2,none⟩=some (.int .i64 0):=cell_of_heap q0 rfl
  have y3:W3.cell? ⟨w.heap.size+2,3,none⟩=some (.int .i64 0):=cell_of_heap q0 rfl
  have y4:W3.cell? ⟨w.heap.size+2,4,none⟩=some (.slice none 0 0):=cell_of_heap q0 rfl
  have f0:W3.frozen? ⟨w.heap.size+2,0,none⟩=false:=by simp[World.frozen?,q0]
  have f1:W3.frozen? ⟨w.heap.size+2,1,none⟩=false:=by simp[World.frozen?,q0]
  have f2:W3.frozen? ⟨w.heap.size+2,2,none⟩=false:=by simp[World.frozen?,q0]
  have f3:W3.frozen? ⟨w.heap.size+2,3,none⟩=false:=by simp[World.frozen?,q0]
  have f4:W3.frozen? ⟨w.heap.size+2,4,none⟩=false:=by simp[World.frozen?,q0]
  clear q0 HC HR0 KC KG H1 H2 H3 b0 b1 b2 b3 HB
  go_wp2_with fail
  generalize hW5:World.setCell _ _ _=W5
  have n5:New w W5:=by subst hW5;exact nw
  have k0:W5.cell? ⟨w.heap.size+2,0,none⟩=some (.int .i64 0):=by subst hW5;go_simp
  have k1:W5.cell? ⟨w.heap.size+2,1,none⟩=some (.int .i64 0):=by subst hW5;go_simp
  have k2:W5.cell? ⟨w.heap.size+2,2,none⟩=some (.int .i64 0):=by subst hW5;go_simp
  have k3:W5.cell? ⟨w.heap.size+2,3,none⟩=some (.int .i64 0):=by subst hW5;go_simp
  have k4:W5.cell? ⟨w.heap.size+2,4,none⟩=some (.slice none 0 0):=by subst hW5;go_simp
  clear hW5 y0 y1 y2 y3 y4 f0 f1 f2 f3 f4
  refine bodyPost_ret (v:=.tuple #[.agg #[.int .i64 0,.int .i64 0,.int .i64 0,.int .i64 0,.slice none 0 0],.int .i64 2]) (by simp[results,Tryz.results16,go_sem, *]) rfl ?_
  rw[HQ.out]
  exact⟨Gd.zero,rfl,Gd.zero_ok _,fun h=>by omega,fun _=>⟨rfl,rfl,rfl,rfl,rfl⟩,n5⟩
 obtain rfl:=H3.out (by trivial) (by trivial)
 have KC1:=KC.out (by trivial) (by trivial) W3 (N0.out.trans N3.out)
 obtain⟨⟨c0,c1,c2,c3,c4,c5,c6⟩,c7,c8,c9⟩:=HC.out _ N3.out
 clear KC H1 H2 H3
 go_wp2_with fail
 refine KC1.mono ?_
 rintro e w4 ⟨fa,fc,K,rfl,hK,h0,h1,n4⟩
 have N4:=Lib.hid (N3.out.trans n4)
 have HK:=Lib.hid hK
 have q0:=HR0.out _ N4.out
 have nn:=N0.out.trans N4.out
 have y0:w4.cell? ⟨w.heap.size+2,0,none⟩=some (.int .i64 0):=cell_of_heap q0 rfl
 have y1:w4.cell? ⟨w.heap.size+2,1,none⟩=some (.int .i64 0):=cell_of_heap q0 rfl
 have y2:w4.cell? ⟨w.heap.size+2,2,none⟩=some (.int .i64 0):=cell_of_heap q0 rfl
 have y3:w4.cell? ⟨w.heap.size+2,3,none⟩=some (.int .i64 0):=cell_of_heap q0 rfl
 have y4:w4.cell? ⟨w.heap.size+2,4,none⟩=some (.slice none 0 0):=cell_of_heap q0 rfl
 have f0:w4.frozen? ⟨w.heap.size+2,0,none⟩=false:=by simp[World.frozen?,q0]
 have f1:w4.frozen? ⟨w.heap.size+2,1,none⟩=false:=by simp[World.frozen?,q0]
 have f2:w4.frozen? ⟨w.heap.size+2,2,none⟩=false:=by simp[World.frozen?,q0]
 have f3:w4.frozen? ⟨w.heap.size+2,3,none⟩=false:=by simp[World.frozen?,q0]
 have f4:w4.frozen? ⟨w.heap.size+2,4,none⟩=false:=by simp[World.frozen?,q0]
 obtain⟨b0,b1,b2,b3⟩:=HB.out _ n4
 clear q0 HC HR0 KC1 c0 c1 c2 c3 c4 c5 c6 c7 c8 c9 HB hK n4
 by_cases her:er=0
 rotate_left
 ·have hne:(er != 0)=true:=by rw[bne_iff_ne];exact her
  have HER:=Lib.hid her
  clear her h0 h1 b0 b1 b2 b3 KG
  go_wp2_with fail
  generalize hW5:World.setCell _ _ _=W5
  have n5:New w W5:=by subst hW5;exact nw
  have k0:W5.cell? ⟨w.heap.size+2,0,none⟩=some (.int .i64 0):=by subst hW5;go_simp
  have k1:W5.cell? ⟨w.heap.size+2,1,none⟩=some (.int .i64 0):=by subst hW5;go_simp
  have k2:W5.cell? ⟨w.heap.size+2,2,none⟩=some (.int .i64 0):=by subst hW5;go_simp
  have k3:W5.cell? ⟨w.heap.size+2,3,none⟩=some (.int .i64 0):=by subst hW5;go_simp
  have k4:W5.cell? ⟨w.heap.size+2,4,none⟩=some (.slice none 0 0):=by subst hW5;go_simp
  clear hW5 y0 y1 y2 y3 y4 f0 f1 f2 f3 f4
  refine bodyPost_ret (v:=.tuple #[.agg #[.int .i64 0,.int .i64 0,.int .i64 0,.int .i64 0,.slice none 0 0],.int .i64 er]) (by simp[results,Tryz.results16,go_sem, *]) rfl ?_
  rw[HQ.out]
  exact⟨Gd.zero,rfl,Gd.zero_ok _,fun h=>absurd h HER.out,fun _=>⟨rfl,rfl,rfl,rfl,rfl⟩,n5⟩
 subst her
 obtain rfl:=h0 rfl
 clear h0 h1
 obtain⟨kn,hkn⟩:∃ n,n=K.length:=⟨_,rfl⟩
 rw[←hkn]at HK ⊢
 have HKN:=Lib.hid hkn
 clear hkn
 go_wp2_with fail
 refine(KG.out fa kn fc _).mono ?_
 rintro e w5 ⟨rfl,n5⟩
 have g0:=New.keepF n5 y0 f0
 have g1:=New.keepF n5 y1 f1
 have g2:=New.keepF n5 y2 f2
 have g3:=New.keepF n5 y3 f3
 have g4:=New.keepF n5 y4 f4
 replace y0:=n5.keep y0
 replace y1:=n5.keep y1
 replace y2:=n5.keep y2
 replace y3:=n5.keep y3
 replace y4:=n5.keep y4
 have HK5:=Lib.hid (HK.out.new n5)
 have nn5:=nn.trans n5
 have hw04:=N0.out.size
 have HZ0:=Lib.hid hz0
 clear f0 f1 f2 f3 f4 b0 b1 b2 b3 KG n5 nn
 go_wp2_with fail
 generalize hW6:World.setCell _ _ _=W6
 have n6:New w W6:=by subst hW6;exact nw
 have k0:W6.cell? ⟨w.heap.size+2,0,none⟩=some (.int .i64 b.x):=by subst hW6;go_simp
 have k1:W6.cell? ⟨w.heap.size+2,1,none⟩=some (.int .i64 b.z):=by subst hW6;go_simp
 have k2:W6.cell? ⟨w.heap.size+2,2,none⟩=some (.int .i64 b.w):=by subst hW6;go_simp
 have k3:W6.cell? ⟨w.heap.size+2,3,none⟩=some (.int .i64 b.d):=by subst hW6;go_simp
 have k4:W6.cell? ⟨w.heap.size+2,4,none⟩=some (.slice fa kn fc):=by subst hW6;go_simp
 have HK6:Hid (RowsN Fl.enc 3 54 56 W3.heap.size W6 (.slice fa kn fc) K):=Lib.hid (by
  have hz3:=N3.out.size
  refine HK5.out.kept fun g cs t hb _ hc=>?_
  have hz:=HZ0.out
  subst hW6
  rw[Below.heap_setCell _ _ _ _ (show g≠w.heap.size+2 by omega),Below.heap_setCell _ _ _ _ (show g≠w.heap.size+2 by omega),Below.heap_setCell _ _ _ _ (show g≠w.heap.size+2 by omega),Below.heap_setCell _ _ _ _ (show g≠w.heap.size+2 by omega),Below.heap_setCell _ _ _ _ (show g≠w.heap.size+2 by omega)])
 clear hW6 y0 y1 y2 y3 y4 g0 g1 g2 g3 g4 HK5 HK
 refine bodyPost_ret (v:=.tuple #[.agg #[.int .i64 b.x,.int .i64 b.z,.int .i64 b.w,.int .i64 b.d,.slice fa kn fc],.int .i64 0]) (by simp[results,Tryz.results16,go_sem, *]) rfl ?_
 rw[HQ.out]
 have hk6:=HK6.out.rows
 rw[HKN.out]at hk6 ⊢
 exact⟨⟨b.x,b.z,b.w,b.d,K,fa,fc⟩,rfl,hk6,fun _=>⟨rfl,rfl,rfl,rfl,rfl⟩,fun h=>absurd rfl h,n6⟩
def wk15:CfgR:=⟨0,1,3,1,1,9,8⟩
def wk15T:List TriR:=[⟨1,0,0,0,8,0,0,0,0,8⟩,⟨2,8,0,0,8,0,8,0,0,8⟩]
theorem wk15_k00:(corI wk15 (coA wk15 wk15T []) 0 0).length=0:=by kernel_rfl
theorem wk15_k11:(corI wk15 (coA wk15 wk15T []) 1 1).length=1:=by kernel_rfl
theorem wk15_t:tlW wk15=2∧tlD wk15=1∧tilOk wk15 0 0=true:=⟨by kernel_rfl,by kernel_rfl,by kernel_rfl⟩
def wk15S (p:Nat):SoupV:=⟨wk15T,[],[],some ⟨p,0,none⟩,none,none,2,0,0⟩
theorem wk15_err (p:Nat):(wk15S p).err wk15=0:=by kernel_rfl
theorem wk15_b:tilB wk15 0 0=⟨0,0,8,8⟩:=by kernel_rfl
theorem wk15_ful (p:Nat):fulE wk15 (wk15S p) (padB wk15 (tilB wk15 0 0))=0:=by
 have h0:tilOk wk15 0 0=true:=wk15_t.2.2
 have hb:=(til_ok h0).1.pad
 unfold fulE
 refine bE_of (soup_may (wk15_err p)).2.1 hb.boxB ?_
 unfold anyF
 rw[List.any_eq_false]
 intro n hn
 unfold atF fullB
 have:=colQ_len wk15 wk15T (plX (padB wk15 (tilB wk15 0 0)).x (padB wk15 (tilB wk15 0 0)).w n) (plZ (padB wk15 (tilB wk15 0 0)).z (padB wk15 (tilB wk15 0 0)).w n)
 have h2:wk15T.length=2:=rfl
 have hts:(wk15S p).ts=wk15T:=rfl
 rw[hts]
 simp only[decide_eq_true_eq]
 omega
theorem wk15_E (p:Nat):cobE wk15 (wk15S p) 0 0=0:=by
 unfold cobE
 rw[if_neg (by rw[wk15_err];simp),if_pos wk15_t.2.2,wk15_ful]
def wk15L:List (List Fl):=corL wk15 (coA wk15 wk15T []) ⟨0,0,8,8⟩
theorem wk15_len:wk15L.length=64:=by
 unfold wk15L corL
 exact gridT_len _ _ _
theorem wk15_0 (h:0<wk15L.length):wk15L[0].length=0:=by
 have h2:=h
 unfold wk15L corL at h2
 have e:wk15L[0]=corI wk15 (coA wk15 wk15T []) 0 0:=gridT_at h2
 exact(congrArg List.length e).trans wk15_k00
theorem wk15_9 (h:9<wk15L.length):wk15L[9].length=1:=by
 have h2:=h
 unfold wk15L corL at h2
 have e:wk15L[9]=corI wk15 (coA wk15 wk15T []) 1 1:=gridT_at h2
 exact(congrArg List.length e).trans wk15_k11
theorem cr_wakes (w:World) (hN:Nowhere w) (hD:Dirs w):Calls Tryz.prog 9 #[] w fun e w'=>e=.returned (.bool true)∧New w w':=by
 have KT:Hid (∀ W,Calls Tryz.prog 10 #[.agg #[.int .i64 0,.int .i64 1,.int .i64 3,.int .i64 1,.int .i64 1,.int .i64 9,.int .i64 8]] W fun e w'=>e=.returned (.tuple #[.int .i64 2,.int .i64 1])∧New W w'):=Lib.hid (fun W=>by
  have:=cr_Tiles wk15 W
  rw[wk15_t.1,wk15_t.2.1]at this
  exact this)
 have KB:Hid (∀ p W,New w W→(wk15S p).ok W→Calls Tryz.prog 16 #[.agg #[.int .i64 0,.int .i64 1,.int .i64 3,.int .i64 1,.int .i64 1,.int .i64 9,.int .i64 8],.agg #[.slice (some ⟨p,0,none⟩) 2 2,.slice none 0 0,.slice none 0 0],.int .i64 0,.int .i64 0] W (Built 0 0 0 8 8 wk15L W)):=Lib.hid (fun p W n h=>by
  have:=cr_Build wk15 (wk15S p) 0 0 W (hN.new n) (hD.new n) h
  rw[wk15_E,wk15_b]at this
  exact this)
 have hL:=wk15_len
 have HL0:=Lib.hid wk15_0
 have HL9:=Lib.hid wk15_9
 clear hN hD
 unfold Built at KB
 generalize wk15L=L at *
 go_enter Tryz.func9,Tryz.ntmps9
 go_upto_region 2 with fail
 refine Code.at (fun W0 hW=>?_)
 have n0:New w W0:=by subst hW;exact nw
 have hc:CellsAt W0 w.heap.size 0 wk15.enc:=by subst hW;exact cells_new _ _ _
 clear hW
 have HC:=Lib.hid (fun W (q:New W0 W)=>CfgR.at (hc.keep q))
 have N0:=Lib.hid n0
 obtain⟨c0,c1,c2,c3,c4,c5,c6⟩:=CfgR.at hc
 simp only[wk15]at c0 c1 c2 c3 c4 c5 c6
 clear hc n0
 go_wp2_with fail
 refine(KT.out _).mono ?_
 rintro e w1 ⟨rfl,n1⟩
 have N1:=Lib.hid n1
 clear c0 c1 c2 c3 c4 c5 c6 n1 KT
 go_upto_region 4 with fail
 refine Code.at (fun W3 hW=>?_)
 have n3:New w1 W3:=by subst hW;exact nw
 have hs:(wk15S w1.heap.size).ok W3:=by
  refine⟨⟨_,_,rfl,Nat.le_refl _,by unfold maxLen;simp[wk15S,wk15T],fun h=>(by cases h),fun _=>⟨w1.heap.size,0,rfl,fun j hj i hi=>?_⟩⟩,Sl.nil,Sl.nil⟩
  have hj':j<2:=hj
  have hi':i<10:=by have:=hi;rw[TriR.enc_len]at this;exact this
  subst hW
  rcases(show j=0∨j=1 by omega)with rfl|rfl <;> rcases(show i=0∨i=1∨i=2∨i=3∨i=4∨i=5∨i=6∨i=7∨i=8∨i=9 by omega)with rfl|rfl|rfl|rfl|rfl|rfl|rfl|rfl|rfl|rfl <;> (simp only[wk15S,wk15T,List.getElem_cons_zero,List.getElem_cons_succ];go_simp;rfl)
 have s0:W3.cell? ⟨w1.heap.size+1,0,none⟩=some (.slice (some ⟨w1.heap.size,0,none⟩) 2 2):=by subst hW;go_simp
 have s1:W3.cell? ⟨w1.heap.size+1,1,none⟩=some (.slice none 0 0):=by subst hW;go_simp
 have s2:W3.cell? ⟨w1.heap.size+1,2,none⟩=some (.slice none 0 0):=by subst hW;go_simp
 clear hW
 have N3:=Lib.hid (N1.out.trans n3)
 have KB3:=KB.out w1.heap.size W3 (N0.out.trans N3.out) hs
 obtain⟨c0,c1,c2,c3,c4,c5,c6⟩:=HC.out _ N3.out
 simp only[wk15]at c0 c1 c2 c3 c4 c5 c6
 clear hs n3 KB HC
 go_wp2_with fail
 refine KB3.mono ?_
 rintro e w4 ⟨G,rfl,hG,hg1,-,n4⟩
 obtain⟨-,-,-,-,e5⟩:=hg1 (by trivial)
 have hrows:RowsK Fl.enc 3 w4 (.slice G.ga G.L.length G.gc) G.L:=hG
 rw[e5]at hrows ⊢
 obtain⟨b,off,a0,d0,ea,x0,-⟩:=hrows.at 0 (by omega)
 obtain⟨b9,off9,a9,d9,ea9,x9,-⟩:=hrows.at 9 (by omega)
 rw[ea]at ea9
 injection ea9 with ea9
 injection ea9 with q1 q2
 subst q1
 subst q2
 rw[HL0.out]at x0
 rw[HL9.out]at x9
 rw[Nat.add_zero]at x0
 rw[ea,hL]
 have nn:=N0.out.trans (N3.out.trans n4)
 clear c0 c1 c2 c3 c4 c5 c6 s0 s1 s2 KB3 hG hg1 hrows ea e5 n4
 go_upto_region 5 with fail
 refine Code.at (fun W5 hW=>?_)
 have n5:New w4 W5:=by subst hW;exact nw
 have g4:W5.cell? ⟨w4.heap.size,4,none⟩=some (.slice (some ⟨b,off,none⟩) 64 G.gc):=by subst hW;go_simp
 clear hW
 replace x0:=n5.keep x0
 replace x9:=n5.keep x9
 have nn5:=nn.trans n5
 clear n5 nn
 go_wp2_with fail
 go_ret
 exact⟨rfl,nn5⟩
theorem cr_great (S:SoupV) (w:World) (hS:S.ok w):Calls Tryz.prog 8 #[.agg #[.slice S.a0 S.ts.length S.c0,.slice S.a1 S.bs.length S.c1,.slice S.a2 S.hs.length S.c2]] w fun e w'=>∃ b,e=.returned (.bool b)∧(b=false→S.great=false∧S.ts.length≤24)∧New w w':=by
 have KG:=Lib.hid (fun W (n:New w W)=>s_great S W (hS.keep n))
 have hm:=hS.t.row.2.2.1
 have hm2:=hS.t.row.2.1
 unfold maxLen at hm
 generalize S.great=g at *
 clear hS
 generalize S.ts.length=a at *
 generalize S.bs.length=b at *
 generalize S.hs.length=c at *
 have start:True:=trivial
 cases g
 ·cases e1:decide ((24:Int)<(a:Int))
  ·have h24:a≤24:=by have:=of_decide_eq_false e1;omega
   have H24:=Lib.hid h24
   clear h24 start hm hm2
   go_enter Tryz.func8,Tryz.ntmps8
   go_wp2_with fail
   refine Calls.at (fun W hW=>?_)
   have n0:New w W:=by subst hW;exact nw
   have p0:W.cell? ⟨w.heap.size,0,none⟩=some (.slice S.a0 a S.c0):=by subst hW;go_simp
   clear hW
   refine(KG.out _ n0).mono ?_
   rintro e w1 ⟨rfl,n1⟩
   replace p0:=n1.keep p0
   have nn:=n0.trans n1
   clear n0 n1 KG
   go_wp2_with fail
   go_ret
   exact⟨_,rfl,fun _=>⟨by trivial,H24.out⟩,nn⟩
  ·clear start hm hm2
   go_enter Tryz.func8,Tryz.ntmps8
   go_wp2_with fail
   refine Calls.at (fun W hW=>?_)
   have n0:New w W:=by subst hW;exact nw
   have p0:W.cell? ⟨w.heap.size,0,none⟩=some (.slice S.a0 a S.c0):=by subst hW;go_simp
   clear hW
   refine(KG.out _ n0).mono ?_
   rintro e w1 ⟨rfl,n1⟩
   replace p0:=n1.keep p0
   have nn:=n0.trans n1
   clear n0 n1 KG
   go_wp2_with fail
   go_ret
   exact⟨_,rfl,fun h=>(by cases h),nn⟩
 ·clear start hm hm2
  go_enter Tryz.func8,Tryz.ntmps8
  go_wp2_with fail
  refine Calls.at (fun W hW=>?_)
  have n0:New w W:=by subst hW;exact nw
  clear hW
  refine(KG.out _ n0).mono ?_
  rintro e w1 ⟨rfl,n1⟩
  have nn:=n0.trans n1
  clear n0 n1 KG
  go_wp2_with fail
  go_ret
  exact⟨_,rfl,fun h=>(by cases h),nn⟩
end Go.Proofs.YtmhghnbgllaihaaGreatDoor
