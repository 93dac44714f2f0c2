import Derived.Test.YtmhghnbgllaihaaGreatDoorRaCP1Z1
import Derived.Test.YtmhghnbgllaihaaGreatDoorRaKP1Z1
import Derived.Test.YtmhghnbgllaihaaGreatDoorSoSP1Z1
import Derived.Test.YtmhghnbgllaihaaGreatDoorOgWP1Z1
import Derived.Test.YtmhghnbgllaihaaGreatDoorStoBP1Z1
import Derived.Test.YtmhghnbgllaihaaGreatDoorOgCP1Z1
import Derived.Test.YtmhghnbgllaihaaGreatDoorOgKP1Z1
import Derived.Test.YtmhghnbgllaihaaGreatDoorSpPP1Z1
import Derived.Maps.AppendAt

namespace Go.Proofs.YtmhghnbgllaihaaGreatDoor
open Go.RowKit Go.Sort
set_option linter.unusedVariables false
theorem fE_full (C:CfgR) (l:List TriR) (x z:Int):fE (colL C l x z)=if fullB C l x z then 51 else 0:=by
  unfold fE fullB colQ
  by_cases h:8<(mrg (colL C l x z)).length
  · rw[if_pos h,decide_eq_true h];rfl
  · rw[if_neg h,decide_eq_false h];rfl
theorem fR_full (C:CfgR) (l:List TriR) (x z:Int):fR (colL C l x z)=if fullB C l x z then []else colQ C l x z:=by
  unfold fR fullB colQ
  by_cases h:8<(mrg (colL C l x z)).length
  · rw[if_pos h,decide_eq_true h];rfl
  · rw[if_neg h,decide_eq_false h];rfl
end Go.Proofs.YtmhghnbgllaihaaGreatDoor

namespace Go.Proofs.YtmhghnbgllaihaaGreatDoor
open Go.RowKit Go.Sort
set_option linter.unusedVariables false
theorem any_E (C:CfgR) (l:List TriR) (b:Bx) (n:Nat):anyE (atL C l b) n=anyF C l b.x b.z b.w n:=by
  unfold anyE anyF
  congr 1
  funext k
  unfold atL atF
  rw[fE_full]
  cases fullB C l (plX b.x b.w k) (plZ b.z b.w k) <;> rfl
theorem bld_E (C:CfgR) (l:List TriR) (b:Bx) (n:Nat):bldE (atL C l b) n=if anyF C l b.x b.z b.w n then 51 else 0:=by unfold bldE;rw[any_E]
theorem bld_R {C:CfgR} {l:List TriR} {b:Bx} {n:Nat} (h:anyF C l b.x b.z b.w n=false):bldR (atL C l b) n=rowsL C l b.x b.z b.w n:=by
  have h':=h
  rw[←any_E]at h
  unfold bldR
  rw[h]
  unfold rowsF rowsL
  simp only[Bool.false_eq_true,if_false]
  refine List.map_congr_left fun k hk=>?_
  unfold atL atQ
  rw[fR_full]
  unfold anyF at h'
  rw[List.any_eq_false]at h'
  have:=h' k hk
  unfold atF at this
  rw[if_neg this]
theorem bx_ok {x z w d:Int} (h:boxB x z w d=true):(⟨x,z,w,d⟩:Bx).ok:=by
  have:=boxB_iff.1 h
  refine⟨?_,?_,?_,?_,?_,?_,?_,?_⟩ <;> (dsimp only;(try unfold i64B);omega)
set_option maxHeartbeats 1000000 in
theorem r_bx (C:CfgR) (at0:Option Addr) (l:List TriR) (cap:Nat) (hl:l.length≤maxLen) (x z wi d:Int) (w:World) (H:RowIn TriR.enc 10 w at0 l) :
    Calls Tryz.prog 109 #[.agg #[.int .i64 C.cl,.int .i64 C.cb,.int .i64 C.ht,.int .i64 C.ri,.int .i64 C.ru,.int .i64 C.wd,.int .i64 C.dp],.slice at0 l.length cap,.int .i64 x,.int .i64 z,.int .i64 wi,.int .i64 d] w fun e w' =>
      ∃ v,e=.returned (.tuple #[v,.int .i64 (bE C l x z wi d)])∧RowsV w' v (bR C l x z wi d)∧New w w':=by
  have HC:=Lib.hid (fun W (n:New w W)=>c_check C at0 l cap hl W (H.keep n))
  have KM:=Lib.hid (fun W=>a_may x z wi d W)
  obtain⟨ev,hev⟩:∃ ev,ev=rchk C l:=⟨_,rfl⟩
  rw[←hev]at HC
  by_cases h0:ev=0
  · have h0':rchk C l=0:=by rw[←hev];exact h0
    subst h0
    obtain⟨k1,k2,k3⟩:=rchk_zero h0'
    cases hb:boxB x z wi d
    · rw[hb]at KM
      obtain⟨e1,e2⟩:=b_not (x:=x) (z:=z) (w:=wi) (d:=d) h0' hb
      rw[e1,e2]
      clear e1 e2 k1 k2 k3 hb h0'
      go_enter Tryz.func109,Tryz.ntmps109
      go_wp2_with fail
      generalize hW:World.alloc (World.alloc _ _) _=W1
      have n1:New w W1:=by subst hW;exact nw
      have hC1:W1.heap[w.heap.size]? = some (.cells (cfgA C) 23 (0,0)):=by subst hW;exact((New.refl _).alloc _).blk (World.alloc_heap_new w _)
      have hB1:W1.heap[w.heap.size+1]? = some (.cells (boxA ⟨x,z,wi,d⟩) 191 (0,0)):=by
        subst hW
        have h:=World.alloc_heap_new (w.alloc (.cells (cfgA C) 23)) (.cells (boxA ⟨x,z,wi,d⟩) 191)
        rw[World.size_alloc]at h
        exact h
      clear hW
      refine(HC.out _ n1).mono ?_
      rintro e w2 ⟨rfl,n2⟩
      obtain⟨b0,b1,b2,b3⟩:=box_cs (n2.blk hB1)
      go_wp2_with fail
      refine(KM.out _).mono ?_
      rintro e w3 ⟨rfl,n3⟩
      clear b0 b1 b2 b3
      have N3:=Lib.hid (n1.trans (n2.trans n3))
      clear n1 n2 n3 hC1 hB1
      go_wp2_with fail
      refine bodyPost_ret (v:=.tuple #[.slice none 0 0,.int .i64 2]) (by simp[results,Tryz.results109,go_sem, *]) rfl ?_
      exact⟨_,rfl,RowsV.nil,N3.out⟩
    · rw[hb]at KM
      have KK:=Lib.hid (fun W (n:New w W)=>callsIn_wide.1 (k_columns_ok C (CfgR.fine_of k1) ⟨x,z,wi,d⟩ (bx_ok hb) at0 l cap k2 (fun T hT=>mayT_ok (CfgR.fine_of k1) (k3 T hT)) W (H.keep n)))
      rw[bld_E]at KK
      have hbn:(⟨x,z,wi,d⟩:Bx).n=(wi*d).toNat:=rfl
      have HE:Hid (bE C l x z wi d=(if anyF C l x z wi (⟨x,z,wi,d⟩:Bx).n then 51 else 0)∧bR C l x z wi d=bldR (atL C l ⟨x,z,wi,d⟩) (⟨x,z,wi,d⟩:Bx).n):=Lib.hid (by
        rw[hbn]
        cases hf:anyF C l x z wi (wi*d).toNat
        · obtain⟨e1,e2⟩:=b_fine h0' hb hf
          rw[e1,e2,bld_R (b:=⟨x,z,wi,d⟩) hf]
          exact⟨rfl,rfl⟩
        · obtain⟨e1,e2⟩:=b_full h0' hb hf
          rw[e1,e2]
          refine⟨rfl,?_⟩
          unfold bldR
          rw[any_E]
          simp only[hf,if_true])
      rw[HE.out.1,HE.out.2]
      clear hb h0' k1 k2 k3 hbn
      generalize (if anyF C l x z wi (⟨x,z,wi,d⟩:Bx).n then (51:Int)else 0)=ee at *
      generalize bldR (atL C l ⟨x,z,wi,d⟩) (⟨x,z,wi,d⟩:Bx).n=LL at *
      go_enter Tryz.func109,Tryz.ntmps109
      go_wp2_with fail
      generalize hW:World.alloc (World.alloc _ _) _=W1
      have n1:New w W1:=by subst hW;exact nw
      have hC1:W1.heap[w.heap.size]? = some (.cells (cfgA C) 23 (0,0)):=by subst hW;exact((New.refl _).alloc _).blk (World.alloc_heap_new w _)
      have hB1:W1.heap[w.heap.size+1]? = some (.cells (boxA ⟨x,z,wi,d⟩) 191 (0,0)):=by
        subst hW
        have h:=World.alloc_heap_new (w.alloc (.cells (cfgA C) 23)) (.cells (boxA ⟨x,z,wi,d⟩) 191)
        rw[World.size_alloc]at h
        exact h
      clear hW
      refine(HC.out _ n1).mono ?_
      rintro e w2 ⟨rfl,n2⟩
      obtain⟨b0,b1,b2,b3⟩:=box_cs (n2.blk hB1)
      go_wp2_with fail
      refine(KM.out _).mono ?_
      rintro e w3 ⟨rfl,n3⟩
      clear b0 b1 b2 b3
      obtain⟨c0,c1,c2,c3,c4,c5,c6⟩:=cfg_cs (n3.blk (n2.blk hC1))
      obtain⟨b0,b1,b2,b3⟩:=box_cs (n3.blk (n2.blk hB1))
      have N3:=Lib.hid (n1.trans (n2.trans n3))
      clear n1 n2 n3 hC1 hB1
      go_wp2_with fail
      clear b0 b1 b2 b3 c0 c1 c2 c3 c4 c5 c6
      refine(KK.out _ N3.out).mono ?_
      rintro e w4 ⟨v,rfl,hr,n4⟩
      have HR:=Lib.hid hr
      obtain⟨us,-,⟨va,vc,rfl,-⟩,-⟩:=hr
      have N4:=Lib.hid (N3.out.trans n4)
      clear n4
      go_wp2_with fail
      refine bodyPost_ret (v:=.tuple #[.slice va us.length vc,.int .i64 ee]) (by simp[results,Tryz.results109,go_sem, *]) rfl ?_
      exact⟨_,rfl,HR.out,N4.out⟩
  · have h0':rchk C l≠0:=by rw[←hev];exact h0
    obtain⟨e1,e2⟩:=b_no (x:=x) (z:=z) (w:=wi) (d:=d) h0'
    rw[e1,e2,←hev]
    clear e1 e2 h0' hev
    have hb:(ev==0)=false:=by rw[beq_eq_false_iff_ne];exact h0
    have hb2:(ev != 0)=true:=by rw[bne_iff_ne];exact h0
    go_enter Tryz.func109,Tryz.ntmps109
    go_wp2_with fail
    generalize hW:World.alloc (World.alloc _ _) _=W1
    have n1:New w W1:=by subst hW;exact nw
    have hC1:W1.heap[w.heap.size]? = some (.cells (cfgA C) 23 (0,0)):=by subst hW;exact((New.refl _).alloc _).blk (World.alloc_heap_new w _)
    have hB1:W1.heap[w.heap.size+1]? = some (.cells (boxA ⟨x,z,wi,d⟩) 191 (0,0)):=by
      subst hW
      have h:=World.alloc_heap_new (w.alloc (.cells (cfgA C) 23)) (.cells (boxA ⟨x,z,wi,d⟩) 191)
      rw[World.size_alloc]at h
      exact h
    clear hW
    refine(HC.out _ n1).mono ?_
    rintro e w2 ⟨rfl,n2⟩
    have N3:=Lib.hid (n1.trans n2)
    clear n1 n2 hC1 hB1
    go_wp2_with fail
    refine bodyPost_ret (v:=.tuple #[.slice none 0 0,.int .i64 ev]) (by simp[results,Tryz.results109,go_sem, *]) rfl ?_
    exact⟨_,rfl,RowsV.nil,N3.out⟩
end Go.Proofs.YtmhghnbgllaihaaGreatDoor

namespace Go.Proofs.YtmhghnbgllaihaaGreatDoor
open Go.RowKit
set_option linter.unusedVariables false
theorem fz_of {W:World} {B:Nat} {cs:Array Value} {t:TypeId} (h:W.heap[B]? = some (.cells cs t (0,0))) (o:Nat):W.frozen? ⟨B,o,none⟩=false:=by simp[World.frozen?,h]
structure GdAt (W:World) (B:Nat) (x z wi d:Int) (v:Value):Prop where
  c0:W.cell? ⟨B,0,none⟩=some (.int .i64 x)
  c1:W.cell? ⟨B,1,none⟩=some (.int .i64 z)
  c2:W.cell? ⟨B,2,none⟩=some (.int .i64 wi)
  c3:W.cell? ⟨B,3,none⟩=some (.int .i64 d)
  c4:W.cell? ⟨B,4,none⟩=some v
  fz:W.frozen? ⟨B,4,none⟩=false
theorem GdAt.new {W W':World} {B:Nat} {x z wi d:Int} {v:Value} (h:GdAt W B x z wi d v) (n:New W W'):GdAt W' B x z wi d v :=
  ⟨n.keep h.c0,n.keep h.c1,n.keep h.c2,n.keep h.c3,n.keep h.c4,n.keepF h.c4 h.fz⟩
theorem GdAt.blk {W W':World} {B:Nat} {x z wi d:Int} {v:Value} (h:GdAt W B x z wi d v) (n:W'.heap[B]? = W.heap[B]?):GdAt W' B x z wi d v :=
  ⟨(World.cell?_of_block (a:=⟨B,0,none⟩) n).trans h.c0,(World.cell?_of_block (a:=⟨B,1,none⟩) n).trans h.c1,(World.cell?_of_block (a:=⟨B,2,none⟩) n).trans h.c2,(World.cell?_of_block (a:=⟨B,3,none⟩) n).trans h.c3,(World.cell?_of_block (a:=⟨B,4,none⟩) n).trans h.c4,frozen_block n h.fz⟩
theorem GdAt.put {W:World} {B:Nat} {x z wi d:Int} {v:Value} (h:GdAt W B x z wi d v) (u:Value):GdAt (W.setCell ⟨B,4,none⟩ u) B x z wi d u:=by
  have o:∀ (i:Nat) (t:Value),i≠4→W.cell? ⟨B,i,none⟩=some t→(W.setCell ⟨B,4,none⟩ u).cell? ⟨B,i,none⟩=some t:=fun i t hi hc=>by
    rw[World.cell?_setCell_other _ _ _ _ (by intro e;injection e with _ e2;omega)];exact hc
  exact⟨o 0 _ (by omega) h.c0,o 1 _ (by omega) h.c1,o 2 _ (by omega) h.c2,o 3 _ (by omega) h.c3,World.cell?_setCell_same _ _ _ h.c4,by rw[World.frozen?_setCell];exact h.fz⟩
end Go.Proofs.YtmhghnbgllaihaaGreatDoor

namespace Go.Proofs.YtmhghnbgllaihaaGreatDoor
open Go.RowKit
set_option linter.unusedVariables false
theorem rowsf_info:(Tryz.prog.info? 54).map (fun i=>(i.zero,i.size,i.bytes))=some (some (.slice none 0 0),1,24):=by kernel_rfl
set_option maxHeartbeats 4000000 in
set_option maxRecDepth 100000 in
theorem og_build (C:CfgR) (at0:Option Addr) (l:List TriR) (cap:Nat) (hl:l.length≤maxLen) (x z wi d:Int) (w:World) (H:RowIn TriR.enc 10 w at0 l) :
    Calls Tryz.prog 68 #[.agg #[.int .i64 C.cl,.int .i64 C.cb,.int .i64 C.ht,.int .i64 C.ri,.int .i64 C.ru,.int .i64 C.wd,.int .i64 C.dp],.slice at0 l.length cap,.int .i64 x,.int .i64 z,.int .i64 wi,.int .i64 d] w (Built (bE C l x z wi d) x z wi d (bF C l x z wi d) w):=by
  obtain⟨i0,hi,hz0,hz1,hz2⟩:=info_parts rowsf_info
  have KB:=Lib.hid (fun W n=>r_bx C at0 l cap hl x z wi d W (H.keep (n:New w W)))
  have KF:=Lib.hid (fun a r c W h=>og_floors C a r c W h)
  have KG:=Lib.hid (fun a r c Bc Bl W h=>og_gather C a r c Bc Bl W h)
  have hRl:=bR_len C l x z wi d
  have HF:Hid (bF C l x z wi d=(bR C l x z wi d).map (flX C)):=Lib.hid rfl
  generalize bF C l x z wi d=F at *
  generalize bR C l x z wi d=R at *
  generalize bE C l x z wi d=er at *
  obtain⟨tn,htn⟩:∃ q,q=l.length:=⟨_,rfl⟩
  rw[←htn]at KB ⊢
  clear htn H hl
  obtain⟨Q,hQ⟩:∃ Q,Q=Built er x z wi d F w:=⟨_,rfl⟩
  rw[←hQ]
  have HQ:=Lib.hid hQ
  clear hQ
  go_enter Tryz.func68,Tryz.ntmps68
  go_upto_region 1 with fail
  refine Code.at (fun W0 hW=>?_)
  have n0:New w W0:=by subst hW;exact nw
  have hc:CellsAt W0 w.heap.size 0 C.enc:=by subst hW;exact(cells_new w _ _).keep (by exact nw)
  have r0:W0.heap[w.heap.size+1]? = some (.cells #[.int .i64 0,.int .i64 0,.int .i64 0,.int .i64 0,.slice none 0 0] 37 (0,0)):=by
    subst hW
    have h:=World.alloc_heap_new (w.alloc (.cells #[.int .i64 C.cl,.int .i64 C.cb,.int .i64 C.ht,.int .i64 C.ri,.int .i64 C.ru,.int .i64 C.wd,.int .i64 C.dp] 23)) (.cells #[.int .i64 0,.int .i64 0,.int .i64 0,.int .i64 0,.slice none 0 0] 37)
    rw[World.size_alloc]at h
    exact h
  have z0:W0.heap.size=w.heap.size+2:=by subst hW;simp
  clear hW
  have HC:=Lib.hid (fun W (q:New W0 W)=>CfgR.at (hc.keep q))
  have HR0:=Lib.hid (fun W (q:New W0 W)=>(q.block _ (Array.getElem?_eq_some_iff.1 r0).1).trans r0)
  have N0:=Lib.hid n0
  obtain⟨c0,c1,c2,c3,c4,c5,c6⟩:=CfgR.at hc
  go_wp2_with fail
  refine(KB.out _ n0).mono ?_
  rintro e W1 ⟨v,rfl,hrows,n1⟩
  clear c0 c1 c2 c3 c4 c5 c6 hc r0 n0
  have hK:RowsK Sn.enc 3 W1 v R:=hrows
  clear hrows
  obtain⟨sa,sc,rfl⟩:=hK.shape
  have HROWS:=Lib.hid hK
  have q0:=HR0.out _ n1
  have N1:=Lib.hid n1
  clear hK n1
  by_cases her:er=0
  rotate_left
  · have hne:(er != 0)=true:=by rw[bne_iff_ne];exact her
    have HER:=Lib.hid her
    clear her
    have y0:W1.cell? ⟨w.heap.size+1,0,none⟩=some (.int .i64 0):=cell_of_heap q0 rfl
    have y1:W1.cell? ⟨w.heap.size+1,1,none⟩=some (.int .i64 0):=cell_of_heap q0 rfl
    have y2:W1.cell? ⟨w.heap.size+1,2,none⟩=some (.int .i64 0):=cell_of_heap q0 rfl
    have y3:W1.cell? ⟨w.heap.size+1,3,none⟩=some (.int .i64 0):=cell_of_heap q0 rfl
    have y4:W1.cell? ⟨w.heap.size+1,4,none⟩=some (.slice none 0 0):=cell_of_heap q0 rfl
    have f0:W1.frozen? ⟨w.heap.size+1,0,none⟩=false:=by simp[World.frozen?,q0]
    have f1:W1.frozen? ⟨w.heap.size+1,1,none⟩=false:=by simp[World.frozen?,q0]
    have f2:W1.frozen? ⟨w.heap.size+1,2,none⟩=false:=by simp[World.frozen?,q0]
    have f3:W1.frozen? ⟨w.heap.size+1,3,none⟩=false:=by simp[World.frozen?,q0]
    have f4:W1.frozen? ⟨w.heap.size+1,4,none⟩=false:=by simp[World.frozen?,q0]
    have nn:=N0.out.trans N1.out
    clear q0
    go_wp2_with fail
    generalize hW5:World.setCell _ _ _=W5
    have n5:New w W5:=by subst hW5;exact nw
    have k0:W5.cell? ⟨w.heap.size+1,0,none⟩=some (.int .i64 0):=by subst hW5;go_simp
    have k1:W5.cell? ⟨w.heap.size+1,1,none⟩=some (.int .i64 0):=by subst hW5;go_simp
    have k2:W5.cell? ⟨w.heap.size+1,2,none⟩=some (.int .i64 0):=by subst hW5;go_simp
    have k3:W5.cell? ⟨w.heap.size+1,3,none⟩=some (.int .i64 0):=by subst hW5;go_simp
    have k4:W5.cell? ⟨w.heap.size+1,4,none⟩=some (.slice none 0 0):=by subst hW5;go_simp
    clear hW5 y0 y1 y2 y3 y4 f0 f1 f2 f3 f4
    refine bodyPost_ret (v:=.tuple #[.agg #[.int .i64 0,.int .i64 0,.int .i64 0,.int .i64 0,.slice none 0 0],.int .i64 er]) (by simp[results,Tryz.results68,go_sem, *]) rfl ?_
    rw[HQ.out]
    exact⟨Gd.zero,rfl,Gd.zero_ok _,fun h=>absurd h HER.out,fun _=>⟨rfl,rfl,rfl,rfl,rfl⟩,n5⟩
  subst her
  clear q0
  obtain⟨n,hn⟩:∃ q,q=R.length:=⟨_,rfl⟩
  rw[←hn]at hRl HROWS ⊢
  have HN:=Lib.hid hn
  clear hn
  go_upto_region 5 with fail
  refine Code.at (fun W3 hW=>?_)
  have n3:New W1 W3:=by subst hW;exact nw
  have hg3:GdAt W3 W1.heap.size x z wi d (.slice none 0 0):=by
    subst hW
    have hz:=heap_new W1 (.cells #[.int .i64 x,.int .i64 z,.int .i64 wi,.int .i64 d,.slice none 0 0] 37)
    exact⟨cell_of_heap hz rfl,cell_of_heap hz rfl,cell_of_heap hz rfl,cell_of_heap hz rfl,cell_of_heap hz rfl,fz_of hz 4⟩
  have z3:W3.heap.size=W1.heap.size+1:=by subst hW;simp
  clear hW
  obtain⟨P,hP⟩:∃ q,q=W1.heap.size:=⟨_,rfl⟩
  rw[←hP]at hg3 z3 ⊢
  have HP:=Lib.hid hP
  clear hP
  go_wp2_with fail
  go_loopg [40] n (fun gk s40 wr=>∃ (i:Nat) (ra:Option Addr) (rn rc:Nat) (us:List Value),s40=.int .i64 i∧i≤n∧n - i≤gk∧Hid (GdAt wr P x z wi d (.slice ra rn rc))∧Hid (RowsOK Fl.enc 3 54 (P+1) wr (.slice ra rn rc) us ((R.take i).map (flX C)))∧Hid (∀ u∈us,∀ g,u.ownBlock=some g→P+1≤g)∧Hid (P+1≤wr.heap.size)∧Hid (New W1 wr))
  case atStart=>exact⟨0,none,0,0,[],rfl,by omega,by omega,Lib.hid hg3,Lib.hid (by rw[List.take_zero];exact RowsOK.nil),Lib.hid (fun u hu=>by cases hu),Lib.hid (by omega),Lib.hid n3⟩
  case round =>
    clear hg3 n3
    obtain⟨i,ra,rn,rc,us,rfl,hi',hgk,HGD,HRO,HUS,HZ,HNR⟩:=hrel
    by_cases hlt:i<n
    · have hiR:i<R.length:=by rw[←HN.out];exact hlt
      obtain⟨b,off,la,lc,rfl,hcell,hsl⟩:=(HROWS.out.keep HNR.out).at i hiR
      have htake:(R.take (i+1)).map (flX C)=(R.take i).map (flX C)++[flX C R[i]]:=by rw[List.take_succ_eq_append_getElem hiR,List.map_append];rfl
      obtain⟨r,hr⟩:∃ r,r=R[i]:=⟨_,rfl⟩
      rw[←hr]at hcell hsl htake
      have HT:=Lib.hid htake
      have HSL:=Lib.hid hsl
      clear htake hr hsl
      have hF8:=flX_len8 C r
      go_upto_region 8 with fail
      clear hcell
      obtain⟨c0,c1,c2,c3,c4,c5,c6⟩:=HC.out _ (N1.out.trans HNR.out)
      have g4:=HGD.out.c4
      refine wp_region_loose 7 (fun i' w' v=>match i' with
        | 0=>v=.pointer (some ⟨P,4,none⟩)
        | 1=>v=.slice ra rn rc
        | 2=>v=.agg #[.int .i64 C.cl,.int .i64 C.cb,.int .i64 C.ht,.int .i64 C.ri,.int .i64 C.ru,.int .i64 C.wd,.int .i64 C.dp]
        | 3=>v=.slice la r.length lc
        | 4=>∃ Bc Bl,v=.func (.func 134) #[] #[.pointer (some ⟨Bc,0,none⟩),.pointer (some ⟨Bl,0,none⟩)]∧FloAt w' C Bc Bl la lc r
        | 5=>∃ a c,v=.slice a (flX C r).length c∧Sl Fl.enc 3 w' (.slice a (flX C r).length c) (flX C r)∧∀ g,(Value.slice a (flX C r).length c).ownBlock=some g→wr.heap.size≤g
        | 6=>∃ p a c,v=.slice (some ⟨p,0,none⟩) 1 1∧w'.cell? ⟨p,0,none⟩=some (.slice a (flX C r).length c)∧Sl Fl.enc 3 w' (.slice a (flX C r).length c) (flX C r)∧∀ g,(Value.slice a (flX C r).length c).ownBlock=some g→wr.heap.size≤g
        | _=>True) (by kernel_rfl) (by kernel_rfl) ?_ ?_ ?_
      · intro i' w1 w2 v h nq
        match i',h with
        | 0,h=>exact h
        | 1,h=>exact h
        | 2,h=>exact h
        | 3,h=>exact h
        | 4,⟨Bc,Bl,e,h⟩=>exact⟨Bc,Bl,e,h.keep (KeepS.new h.lt nq)⟩
        | 5,⟨a,c,e,h1,h2⟩=>exact⟨a,c,e,h1.keep nq,h2⟩
        | 6,⟨p,a,c,e,h1,h2,h3⟩=>exact⟨p,a,c,e,nq.keep h1,h2.keep nq,h3⟩
        | i'+7,_=>trivial
      · intro i' o hi2 ho a' w' nn hr hd
        rcases(show i'=0∨i'=1∨i'=2∨i'=3∨i'=4∨i'=5∨i'=6 by omega)with rfl|rfl|rfl|rfl|rfl|rfl|rfl <;> obtain rfl:=Option.some.inj ho
        · have r16:(a'.tmps[16]?).getD undef=.pointer (some ⟨P,0,none⟩):=(eval_get a' 16).symm.trans (hr 16 (by kernel_rfl))
          exact yields_value (.pointer (some ⟨P,4,none⟩)) (by go_simp) ⟨New.refl _,rfl⟩
        · have r44:(a'.tmps[44]?).getD undef=.pointer (some ⟨P,4,none⟩):=(eval_get a' 44).symm.trans (hd 0 44 (by omega) (by kernel_rfl) (by kernel_rfl))
          replace g4:=nn.keep g4
          exact yields_value (.slice ra rn rc) (by go_simp) ⟨New.refl _,rfl⟩
        · have r6:(a'.tmps[6]?).getD undef=.pointer (some ⟨w.heap.size,0,none⟩):=(eval_get a' 6).symm.trans (hr 6 (by kernel_rfl))
          obtain⟨c0,c1,c2,c3,c4,c5,c6⟩:=HC.out _ (N1.out.trans (HNR.out.trans nn))
          exact yields_value (.agg #[.int .i64 C.cl,.int .i64 C.cb,.int .i64 C.ht,.int .i64 C.ri,.int .i64 C.ru,.int .i64 C.wd,.int .i64 C.dp]) (by go_simp) ⟨New.refl _,rfl⟩
        · have r18:(a'.tmps[18]?).getD undef=.slice la r.length lc:=(eval_get a' 18).symm.trans (hr 18 (by kernel_rfl))
          exact yields_value (.slice la r.length lc) (by go_simp) ⟨New.refl _,rfl⟩
        · have r46:(a'.tmps[46]?).getD undef=.agg #[.int .i64 C.cl,.int .i64 C.cb,.int .i64 C.ht,.int .i64 C.ri,.int .i64 C.ru,.int .i64 C.wd,.int .i64 C.dp]:=(eval_get a' 46).symm.trans (hd 2 46 (by omega) (by kernel_rfl) (by kernel_rfl))
          have r47:(a'.tmps[47]?).getD undef=.slice la r.length lc:=(eval_get a' 47).symm.trans (hd 3 47 (by omega) (by kernel_rfl) (by kernel_rfl))
          exact yields_enter 111 #[.agg #[.int .i64 C.cl,.int .i64 C.cb,.int .i64 C.ht,.int .i64 C.ri,.int .i64 C.ru,.int .i64 C.wd,.int .i64 C.dp],.slice la r.length lc] (by go_simp) ((KF.out la r lc w' (HSL.out.keep nn)).mono fun e w'' ⟨he,hn,hf⟩=>⟨_,he,hn,_,_,rfl,hf⟩)
        · obtain⟨Bc,Bl,e48,h48⟩:=hd 4 48 (by omega) (by kernel_rfl) (by kernel_rfl)
          have r48:(a'.tmps[48]?).getD undef=_:=(eval_get a' 48).symm.trans e48
          refine yields_enter 110 #[.func (.func 134) #[] #[.pointer (some ⟨Bc,0,none⟩),.pointer (some ⟨Bl,0,none⟩)]] (by go_simp) ((KG.out la r lc Bc Bl w' h48).mono ?_)
          rintro e w'' ⟨v,rfl,ho,hn⟩
          have hs:Sl Fl.enc 3 w'' v (flX C r):=own_sl Fl.enc_len ho
          obtain⟨a,c,rfl,-⟩:=id hs
          exact⟨_,rfl,hn,a,c,rfl,hs,fun g hg=>Nat.le_trans nn.size (own_block ho g hg)⟩
        · obtain⟨a,c,e49,h49,h50⟩:=hd 5 49 (by omega) (by kernel_rfl) (by kernel_rfl)
          have r49:(a'.tmps[49]?).getD undef=.slice a (flX C r).length c:=(eval_get a' 49).symm.trans e49
          have na:New w' (w'.alloc (.cells #[.slice a (flX C r).length c] 54)):=by exact nw
          exact yields_value (w':=w'.alloc (.cells #[.slice a (flX C r).length c] 54)) (.slice (some ⟨w'.heap.size,0,none⟩) 1 1) (by go_simp) ⟨na,w'.heap.size,a,c,rfl,cell_of_heap (heap_new _ _) rfl,h49.keep na,h50⟩
      · intro vs w' nn hv
        have e1:vs 1=.slice ra rn rc:=hv 1 (by omega)
        obtain⟨p,a,c,e6,hp,hs6,hb6⟩:=hv 6 (by omega)
        simp only[List.take_succ_cons,List.take_zero,List.drop_succ_cons,List.drop_zero,putL,Act.put,List.setIfInBounds_toArray,List.set_cons_zero,List.set_cons_succ,Nat.reduceAdd,Nat.zero_add]
        rw[e1,e6]
        have hul:us.length=i:=by rw[HRO.out.len,List.length_map,List.length_take];omega
        have HRn:=Lib.hid (HRO.out.new nn)
        have hgd:=HGD.out.new nn
        have hz':P+1≤w'.heap.size:=Nat.le_trans HZ.out nn.size
        have HS6:=Lib.hid (And.intro hs6 hb6)
        have HNN:=Lib.hid (HNR.out.trans nn)
        have hwz:=nn.size
        clear hv e1 e6 nn c0 c1 c2 c3 c4 c5 c6 g4 hs6 hb6
        obtain⟨fn,hfn⟩:∃ q,q=(flX C r).length:=⟨_,rfl⟩
        rw[←hfn]at hp HS6
        have HFN:=Lib.hid hfn
        clear hfn
        have hHR:=HRn.out.own
        go_upto_region 9 with (at_builtin;refine wpList_append_own_at _ rfl _ _ 35 rfl (P+1) 54 i0 (.slice none 0 0) 1 24 Tryz.underlying35 hi hz0 hz1 hz2 rfl (by decide) _ _ _ rfl hHR ⟨p,0,none⟩ 1 1 [.slice a fn c] rfl rfl (by intro j u hj;cases j with|zero=>(simp at hj;subst hj;exact hp)|succ j=>simp at hj) (by intro u hu;rw[List.mem_singleton]at hu;subst hu;rfl) (by unfold maxLen;omega) (by omega) hz' ?_;intro v' w4 hown' hgrow _ hat;obtain⟨a',d',N',hN',rfl⟩:=own_shape2 hown';clear hN';have hgb:=hgd.blk (hgrow.block P (by omega) (fun e=>by have:=(HRn.out.own.lt P e.symm).1;omega));have g4:=hgb.c4;have gf:=hgb.fz)
        refine Code.at (fun W9 hW=>?_)
        have hgrow':w'.grownBy w4 (Value.slice ra rn rc).ownBlock:=hgrow
        have hat':(Value.slice a' N' d').ownBlock=(Value.slice ra rn rc).ownBlock∨(Value.slice a' N' d').ownBlock=some w'.heap.size:=hat
        have hlt1:=fun g h=>(HRO.out.own.lt g h)
        have HP1:=HRn.out.push Fl.enc_len (by omega) (l:=flX C r) (u:=.slice a fn c) HS6.out.1 (fun _ g hg hv=>by
          have q1:=HS6.out.2 g hg
          have q2:=(hlt1 g hv).2
          omega) hown' hgrow' hat'
        have hus2:∀ u∈us++[.slice a fn c],∀ g,u.ownBlock=some g→P+1≤g:=fun u hu g hg=>by
          rcases List.mem_append.1 hu with h|h
          · exact HUS.out u h g hg
          · rw[List.mem_singleton]at h
            subst h
            have:=HS6.out.2 g hg
            have:=HZ.out
            omega
        have HP2:=HP1.put Fl.enc_len (by omega) (p:=⟨P,4,none⟩) (show P<P+1 by omega) (fun j _ _ u hu hq=>by
          have:=hus2 u (List.mem_of_getElem? hu) P hq
          omega) (.slice a' N' d')
        have HG9:Hid (GdAt W9 P x z wi d (.slice a' N' d')):=Lib.hid (by subst hW;exact hgb.put _)
        have HR9:Hid (RowsOK Fl.enc 3 54 (P+1) W9 (.slice a' N' d') (us++[.slice a fn c]) ((R.take (i+1)).map (flX C))):=Lib.hid (by subst hW;rw[HT.out];exact HP2)
        have hn4:New W1 w4:=newGrown HNN.out hgrow' (fun j hj=>by have:=(hlt1 j hj).1;have:=HP.out;omega)
        have HN9:Hid (New W1 W9):=Lib.hid (by subst hW;exact New.setB (p:=⟨P,4,none⟩) (by rw[HP.out];exact Nat.le_refl _) hn4 _)
        have HZ9:Hid (P+1≤W9.heap.size):=Lib.hid (by
          have:=hgrow'.size
          subst hW
          simp
          omega)
        have HUS2:=Lib.hid hus2
        clear hW hgrow hgrow' hat hat' hown' hgb g4 gf HP1 HP2 hn4 hp hgd hHR hus2 hlt1
        go_wp2_with fail
        go_roundg (n - (i+1))
        case measure=>omega
        case rel=>exact⟨i+1,a',N',d',us++[.slice a fn c],by go_num,by omega,by omega,HG9,HR9,HUS2,HZ9,HN9⟩
    · obtain rfl:i=n:=by omega
      have HOK:Hid (RowsK Fl.enc 3 wr (.slice ra rn rc) F):=Lib.hid (by
        have h:=HRO.out.rows
        rw[List.take_of_length_le (by rw[←HN.out];exact Nat.le_refl _),←HF.out]at h
        exact h)
      have hnr:rn=F.length:=by
        obtain⟨a,c,e⟩:=HOK.out.shape
        injection e
      obtain⟨g0,g1,g2,g3,g4,-⟩:=HGD.out
      have q0:=HR0.out _ (N1.out.trans HNR.out)
      have y0:wr.cell? ⟨w.heap.size+1,0,none⟩=some (.int .i64 0):=cell_of_heap q0 rfl
      have y1:wr.cell? ⟨w.heap.size+1,1,none⟩=some (.int .i64 0):=cell_of_heap q0 rfl
      have y2:wr.cell? ⟨w.heap.size+1,2,none⟩=some (.int .i64 0):=cell_of_heap q0 rfl
      have y3:wr.cell? ⟨w.heap.size+1,3,none⟩=some (.int .i64 0):=cell_of_heap q0 rfl
      have y4:wr.cell? ⟨w.heap.size+1,4,none⟩=some (.slice none 0 0):=cell_of_heap q0 rfl
      have f0:=fz_of q0 0
      have f1:=fz_of q0 1
      have f2:=fz_of q0 2
      have f3:=fz_of q0 3
      have f4:=fz_of q0 4
      have nn:=N0.out.trans (N1.out.trans HNR.out)
      have HB0:=Lib.hid (And.intro HOK.out (And.intro hnr q0))
      clear q0 hnr
      go_wp2_with fail
      generalize hW5:World.setCell _ _ _=W5
      have n5:New w W5:=by subst hW5;exact nw
      have k0:W5.cell? ⟨w.heap.size+1,0,none⟩=some (.int .i64 x):=by subst hW5;go_simp
      have k1:W5.cell? ⟨w.heap.size+1,1,none⟩=some (.int .i64 z):=by subst hW5;go_simp
      have k2:W5.cell? ⟨w.heap.size+1,2,none⟩=some (.int .i64 wi):=by subst hW5;go_simp
      have k3:W5.cell? ⟨w.heap.size+1,3,none⟩=some (.int .i64 d):=by subst hW5;go_simp
      have k4:W5.cell? ⟨w.heap.size+1,4,none⟩=some (.slice ra rn rc):=by subst hW5;go_simp
      have hsz1:=N1.out.size
      have hput:∀ (W:World) (o:Nat) (v:Value),RowsOK Fl.enc 3 54 (P+1) W (.slice ra rn rc) us ((R.take i).map (flX C))→RowsOK Fl.enc 3 54 (P+1) (W.setCell ⟨w.heap.size+1,o,none⟩ v) (.slice ra rn rc) us ((R.take i).map (flX C)):=fun W o v h =>
        h.put Fl.enc_len (by omega) (p:=⟨w.heap.size+1,o,none⟩) (show w.heap.size+1<P+1 by have:=HP.out;omega) (fun j _ _ u hu hq=>by
          have:=HUS.out u (List.mem_of_getElem? hu) _ hq
          have:=HP.out
          simp only at *
          omega) v
      have HOK5:Hid (RowsK Fl.enc 3 W5 (.slice ra rn rc) F):=Lib.hid (by
        have h:RowsOK Fl.enc 3 54 (P+1) W5 (.slice ra rn rc) us ((R.take i).map (flX C)):=by
          subst hW5
          exact hput _ 4 _ (hput _ 3 _ (hput _ 2 _ (hput _ 1 _ (hput _ 0 _ HRO.out))))
        have h:=h.rows
        rw[List.take_of_length_le (by rw[←HN.out];exact Nat.le_refl _),←HF.out]at h
        exact h)
      clear hput
      clear hW5 y0 y1 y2 y3 y4 f0 f1 f2 f3 f4 g0 g1 g2 g3 g4
      refine bodyPost_ret (v:=.tuple #[.agg #[.int .i64 x,.int .i64 z,.int .i64 wi,.int .i64 d,.slice ra rn rc],.int .i64 0]) (by simp[results,Tryz.results68,go_sem, *]) rfl ?_
      rw[HQ.out]
      have hnr:=HB0.out.2.1
      subst hnr
      exact⟨⟨x,z,wi,d,F,ra,rc⟩,rfl,HOK5.out,fun _=>⟨rfl,rfl,rfl,rfl,rfl⟩,fun h=>absurd rfl h,n5⟩
end Go.Proofs.YtmhghnbgllaihaaGreatDoor
