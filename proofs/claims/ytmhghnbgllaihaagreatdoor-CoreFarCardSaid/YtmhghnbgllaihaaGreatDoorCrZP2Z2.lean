import Derived.Test.YtmhghnbgllaihaaGreatDoorCrWP2Z2
import Derived.Test.YtmhghnbgllaihaaGreatDoorCrXP2Z2
import Derived.Test.YtmhghnbgllaihaaGreatDoorCrPP2Z2
import Derived.Test.YtmhghnbgllaihaaGreatDoorRaLdP2Z2
import Derived.Test.YtmhghnbgllaihaaGreatDoorSoCGP2Z2
import Derived.Test.YtmhghnbgllaihaaGreatDoorSoCEP2Z2
import Derived.Test.YtmhghnbgllaihaaGreatDoorOgSP2Z2
set_option linter.unusedVariables false
set_option maxHeartbeats 16000000
set_option maxRecDepth 100000

namespace Go.Proofs.YtmhghnbgllaihaaGreatDoor
open Go.RowKit
attribute [local go_sem high] run_max_three run_min_three
theorem l_coreFar (C:CfgR) (S:SoupV) (tx tz kk:Int) (w:World) (hN:Nowhere w) (hD:Dirs w) (hS:S.ok w) :
  Calls Tryz.prog 6 #[.agg #[.int .i64 C.cl,.int .i64 C.cb,.int .i64 C.ht,.int .i64 C.ri,.int .i64 C.ru,.int .i64 C.wd,.int .i64 C.dp],.agg #[.slice S.a0 S.ts.length S.c0,.slice S.a1 S.bs.length S.c1,.slice S.a2 S.hs.length S.c2],.int .i64 tx,.int .i64 tz,.int .i64 kk] w fun e w'=>e=.returned (.bool true)∧New w w':=by
 have KW:=Lib.hid (fun W (n:New w W)=>cr_wakes W (hN.new n) (hD.new n))
 have KG:=Lib.hid (fun W (n:New w W)=>cr_great S W (hS.keep n))
 have KC:=Lib.hid (fun W (n:New w W)=>u_check C S W (hS.keep n))
 have KB:=Lib.hid (fun W (n:New w W)=>cr_Build C S tx tz W (hN.new n) (hD.new n) (hS.keep n))
 have KP:=Lib.hid (fun W=>cq_Padded C tx tz W)
 have KY:=Lib.hid (fun f W (n:New w W)=>u_copy S f W (hS.keep n))
 have KB2:=Lib.hid (fun S2 W (n:New w W) h=>cr_Build C S2 tx tz W (hN.new n) (hD.new n) h)
 unfold Built at KB KB2
 have HSO:=Lib.hid (fun W (n:New w W)=>hS.keep n)
 obtain⟨se,hse⟩:∃ e,e=S.err C:=⟨_,rfl⟩
 obtain⟨p,hp⟩:∃ e,e=padT C tx tz:=⟨_,rfl⟩
 obtain⟨ok,hok⟩:∃ e,e=tilOk C tx tz:=⟨_,rfl⟩
 obtain⟨e1,he1⟩:∃ e,e=cobE C S tx tz:=⟨_,rfl⟩
 rw[←hse]at KC
 rw[←hp,←hok]at KP
 rw[←he1]at KB
 have HSE:=Lib.hid hse
 have HP:=Lib.hid hp
 have HOK:=Lib.hid hok
 have HE1:=Lib.hid he1
 clear hN hD hS hse hp hok he1
 obtain⟨t0,ht0⟩:∃ q,q=S.ts.length:=⟨_,rfl⟩
 obtain⟨t1,ht1⟩:∃ q,q=S.bs.length:=⟨_,rfl⟩
 obtain⟨t2,ht2⟩:∃ q,q=S.hs.length:=⟨_,rfl⟩
 rw[←ht0,←ht1,←ht2]at KG KB KC KY
 rw[←ht0,←ht1,←ht2]
 have HT0:=Lib.hid ht0
 have HT1:=Lib.hid ht1
 have HT2:=Lib.hid ht2
 clear ht0 ht1 ht2
 obtain⟨i0,hi0,hz0,hz1,hz2⟩:=info_parts t_info
 obtain⟨i1,hj0,hy0,hy1,hy2⟩:=info_parts b_info
 have HI0:=Lib.hid (And.intro hi0 (And.intro hz0 (And.intro hz1 hz2)))
 have HI1:=Lib.hid (And.intro hj0 (And.intro hy0 (And.intro hy1 hy2)))
 clear hi0 hz0 hz1 hz2 hj0 hy0 hy1 hy2
 go_enter Tryz.func6,Tryz.ntmps6
 go_upto_region 1 with fail
 refine Code.at (fun W0 hW=>?_)
 have n0:New w W0:=by subst hW;exact nw
 have hc:CellsAt W0 w.heap.size 0 C.enc:=by subst hW;exact(cells_new w _ _).keep (by exact nw)
 have c7:W0.cell? ⟨w.heap.size+1,0,none⟩=some (.slice S.a0 t0 S.c0):=by subst hW;go_simp
 have c8:W0.cell? ⟨w.heap.size+1,1,none⟩=some (.slice S.a1 t1 S.c1):=by subst hW;go_simp
 have c9:W0.cell? ⟨w.heap.size+1,2,none⟩=some (.slice S.a2 t2 S.c2):=by subst hW;go_simp
 clear hW
 have HC:=Lib.hid (fun W (q:New W0 W)=>And.intro (CfgR.at (hc.keep q)) (And.intro (q.keep c7) (And.intro (q.keep c8) (q.keep c9))))
 have N0:=Lib.hid n0
 have KG0:=KG.out W0 n0
 obtain⟨c0,c1,c2,c3,c4,c5,c6⟩:=CfgR.at hc
 clear hc n0 KG
 go_cut [30] (fun s30 Z=>(∃ bb:Bool,s30=.bool bb∧(bb=false→se=0∧S.great=false∧S.ts.length≤24))∧New W0 Z)
 case first =>
  as_aux_lemma =>
   go_wp2_with fail
   refine KG0.mono ?_
   rintro e w1 ⟨g,rfl,hg,n1⟩
   have N1:=Lib.hid n1
   clear c0 c1 c2 c3 c4 c5 c6 c7 c8 c9 n1
   cases g
   rotate_left
   ·go_wp2_with fail
    go_meet
    exact⟨⟨_,rfl,fun h=>(by cases h)⟩,N1.out⟩
   have HG:=Lib.hid (hg rfl)
   clear hg
   obtain⟨⟨c0,c1,c2,c3,c4,c5,c6⟩,c7,c8,c9⟩:=HC.out _ N1.out
   have KC1:=KC.out _ (N0.out.trans N1.out)
   go_wp2_with fail
   refine KC1.mono ?_
   rintro e w2 ⟨rfl,n2⟩
   have N2:=Lib.hid (N1.out.trans n2)
   clear c0 c1 c2 c3 c4 c5 c6 c7 c8 c9 n2 KC1
   by_cases hse:se=0
   rotate_left
   ·have hne:(se != 0)=true:=by rw[bne_iff_ne];exact hse
    go_wp2_with fail
    go_meet
    exact⟨⟨_,rfl,fun h=>(by cases h)⟩,N2.out⟩
   subst hse
   go_wp2_with fail
   go_meet
   exact⟨⟨_,rfl,fun _=>⟨by trivial,HG.out.1,by rw[←HT0.out];exact HG.out.2⟩⟩,N2.out⟩
 case rest =>
  as_aux_lemma =>
   obtain⟨⟨bb,rfl,hcl⟩,n1⟩:=hcut
   clear c0 c1 c2 c3 c4 c5 c6 c7 c8 c9 KG0
   cases bb
   rotate_left
   ·have NZ:=N0.out.trans n1
    have KWH:=KW.out _ (NZ)
    have nn:=NZ
    go_wp2_with fail
    refine KWH.mono ?_
    rintro e wz ⟨rfl,nz⟩
    go_wp2_with fail
    go_ret
    exact⟨rfl,nn.trans nz⟩
   obtain⟨rfl,hgr,h24⟩:=hcl rfl
   have HGR:=Lib.hid (And.intro hgr h24)
   have N1:=Lib.hid n1
   clear hcl n1 KC hgr h24
   rename World=>Z
   obtain⟨⟨c0,c1,c2,c3,c4,c5,c6⟩,c7,c8,c9⟩:=HC.out _ N1.out
   have KB1:=KB.out Z (N0.out.trans N1.out)
   go_wp2_with fail
   refine KB1.mono ?_
   rintro e w6 ⟨G,rfl,hG,hg1,-,n6⟩
   have HG6:=Lib.hid (show RowsK Fl.enc 3 w6 (.slice G.ga G.L.length G.gc) G.L from hG)
   have HGF:=Lib.hid hg1
   have N6:=Lib.hid (N1.out.trans n6)
   clear c0 c1 c2 c3 c4 c5 c6 c7 c8 c9 hG hg1 n6 KB1 KB
   go_upto_region 4 with fail
   refine Code.at (fun W7 hW=>?_)
   have n7:New w6 W7:=by subst hW;exact nw
   have gg0:W7.cell? ⟨w6.heap.size,0,none⟩=some (.int .i64 G.x):=by subst hW;go_simp
   have gg1:W7.cell? ⟨w6.heap.size,1,none⟩=some (.int .i64 G.z):=by subst hW;go_simp
   have gg2:W7.cell? ⟨w6.heap.size,2,none⟩=some (.int .i64 G.w):=by subst hW;go_simp
   have gg3:W7.cell? ⟨w6.heap.size,3,none⟩=some (.int .i64 G.d):=by subst hW;go_simp
   have gg4:W7.cell? ⟨w6.heap.size,4,none⟩=some (.slice G.ga G.L.length G.gc):=by subst hW;go_simp
   clear hW
   have N7:=Lib.hid (N6.out.trans n7)
   have HG7:=Lib.hid (HG6.out.keep n7)
   have HGG:=Lib.hid (fun W (q:New W7 W)=>And.intro (q.keep gg0) (And.intro (q.keep gg1) (And.intro (q.keep gg2) (And.intro (q.keep gg3) (q.keep gg4)))))
   clear n7 gg0 gg1 gg2 gg3 gg4 HG6 N6
   obtain⟨⟨c0,c1,c2,c3,c4,c5,c6⟩,c7,c8,c9⟩:=HC.out _ N7.out
   have KP7:=KP.out W7
   go_wp2_with fail
   refine KP7.mono ?_
   rintro e w8 ⟨rfl,n8⟩
   have N8:=Lib.hid n8
   clear c0 c1 c2 c3 c4 c5 c6 c7 c8 c9 n8 KP KP7
   by_cases z1:e1=0
   rotate_left
   ·have hne:(e1 != 0)=true:=by rw[bne_iff_ne];exact z1
    clear z1
    have KWH:=KW.out _ (N0.out.trans (N7.out.trans N8.out))
    have nn:=N0.out.trans (N7.out.trans N8.out)
    go_wp2_with fail
    refine KWH.mono ?_
    rintro e wz ⟨rfl,nz⟩
    go_wp2_with fail
    go_ret
    exact⟨rfl,nn.trans nz⟩
   subst z1
   cases ok
   ·clear HOK
    have KWH:=KW.out _ (N0.out.trans (N7.out.trans N8.out))
    have nn:=N0.out.trans (N7.out.trans N8.out)
    go_wp2_with fail
    refine KWH.mono ?_
    rintro e wz ⟨rfl,nz⟩
    go_wp2_with fail
    go_ret
    exact⟨rfl,nn.trans nz⟩
   by_cases hkk:kk<0
   ·have hkd:decide (kk<0)=true:=decide_eq_true hkk
    clear hkk
    have KWH:=KW.out _ (N0.out.trans (N7.out.trans N8.out))
    have nn:=N0.out.trans (N7.out.trans N8.out)
    go_wp2_with fail
    refine KWH.mono ?_
    rintro e wz ⟨rfl,nz⟩
    go_wp2_with fail
    go_ret
    exact⟨rfl,nn.trans nz⟩
   obtain⟨k,rfl⟩:∃ k:Nat,kk=k:=⟨kk.toNat,by omega⟩
   have hkd:decide ((k:Int)<0)=false:=decide_eq_false hkk
   clear hkk
   have N9:=Lib.hid (N7.out.trans N8.out)
   obtain⟨-,c7,c8,c9⟩:=HC.out _ N9.out
   have KY9:=KY.out (SoupV.few_of HGR.out.1) _ (N0.out.trans N9.out)
   have HSM:Hid (S.ts.length≤900∧S.bs.length≤900):=Lib.hid ⟨(SoupV.few_of HGR.out.1).t,(SoupV.few_of HGR.out.1).b⟩
   go_wp2_with fail
   refine KY9.mono ?_
   rintro e w10 ⟨D,rfl,hDo,hd1,hd2,hd3,hDw,n10⟩
   clear c7 c8 c9 KY KY9 hkd
   have hst:Sl TriR.enc 10 w10 (.slice D.a0 D.ts.length D.c0) S.ts:=by rw[←hd1];exact hDo.t
   have hsb:Sl BoxR.enc 8 w10 (.slice D.a1 D.bs.length D.c1) S.bs:=by rw[←hd2];exact hDo.b
   have hsh:Sl HopR.enc 10 w10 (.slice D.a2 D.hs.length D.c2) S.hs:=by rw[←hd3];exact hDo.h
   rw[hd1,←HT0.out]at hst
   rw[hd2,←HT1.out]at hsb
   rw[hd3,←HT2.out]at hsh
   rw[hd1,hd2,hd3,←HT0.out,←HT1.out,←HT2.out]
   clear hDo hDw hd1 hd2 hd3
   obtain⟨da0,h⟩:∃ q,q=D.a0:=⟨_,rfl⟩
   rw[←h]at hst ⊢;clear h
   obtain⟨dc0,h⟩:∃ q,q=D.c0:=⟨_,rfl⟩
   rw[←h]at hst ⊢;clear h
   obtain⟨da1,h⟩:∃ q,q=D.a1:=⟨_,rfl⟩
   rw[←h]at hsb ⊢;clear h
   obtain⟨dc1,h⟩:∃ q,q=D.c1:=⟨_,rfl⟩
   rw[←h]at hsb ⊢;clear h
   obtain⟨da2,h⟩:∃ q,q=D.a2:=⟨_,rfl⟩
   rw[←h]at hsh ⊢;clear h
   obtain⟨dc2,h⟩:∃ q,q=D.c2:=⟨_,rfl⟩
   rw[←h]at hsh ⊢;clear h
   have HST:=Lib.hid hst
   have HSB:=Lib.hid hsb
   have HSH:=Lib.hid hsh
   clear hst hsb hsh
   have N10:=Lib.hid (N9.out.trans n10)
   have N10b:=Lib.hid (N8.out.trans n10)
   clear n10
   go_upto_region 8 with fail
   refine Code.at (fun W11 hW=>?_)
   have n11:New w10 W11:=by subst hW;exact nw
   have u0:W11.cell? ⟨w10.heap.size,0,none⟩=some (.slice da0 t0 dc0):=by subst hW;go_simp
   have u1:W11.cell? ⟨w10.heap.size,1,none⟩=some (.slice da1 t1 dc1):=by subst hW;go_simp
   have u2:W11.cell? ⟨w10.heap.size,2,none⟩=some (.slice da2 t2 dc2):=by subst hW;go_simp
   have v0:W11.frozen? ⟨w10.heap.size,0,none⟩=false:=by subst hW;go_simp
   have v1:W11.frozen? ⟨w10.heap.size,1,none⟩=false:=by subst hW;go_simp
   clear hW
   obtain⟨PB,hPB⟩:∃ q,q=w10.heap.size:=⟨_,rfl⟩
   have HPB:=Lib.hid hPB
   rw[←hPB]at u0 u1 u2 v0 v1
   rw[←hPB]
   have N11:=Lib.hid n11
   have HU:=Lib.hid (fun W (q:New W11 W)=>And.intro (q.keep u0) (And.intro (q.keep u1) (And.intro (q.keep u2) (And.intro (q.keepF u0 v0) (q.keepF u1 v1)))))
   have HPL:=Lib.hid (World.block_lt_of_cell? _ _ u0)
   clear n11 u0 u1 u2 v0 v1 hPB
   obtain⟨-,c7,c8,c9⟩:=HC.out _ (N10.out.trans N11.out)
   go_upto_if 67 with fail
   go_cut [131] (fun s131 Z=>∃ (c:Bool) (ta:Option Addr) (tn tc:Nat),tn=(dropK S.ts k c).length∧(c=true→∃ h:k<S.ts.length,farT S.ts[k] p=true)∧Z.cell? ⟨PB,0,none⟩=some (.slice ta tn tc)∧Z.cell? ⟨PB,1,none⟩=some (.slice da1 t1 dc1)∧Z.cell? ⟨PB,2,none⟩=some (.slice da2 t2 dc2)∧Z.frozen? ⟨PB,1,none⟩=false∧SlX TriR.enc 10 PB Z (.slice ta tn tc) (dropK S.ts k c)∧New w10 Z)
   case first =>
    as_aux_lemma =>
     by_cases hkt:k<t0
     rotate_left
     ·have hlt:decide ((k:Int)<(t0:Int))=false:=decide_eq_false (by omega)
      have hlt2:¬ ((k:Int)<(t0:Int)):=by omega
      clear hkt
      go_wp2_with fail
      go_meet
      obtain⟨u0,u1,u2,v0,v1⟩:=HU.out _ (New.refl _)
      exact⟨false,da0,t0,dc0,HT0.out,fun h=>(by cases h),u0,u1,u2,v1,slX_old TriR.enc_len (by decide) HST.out N11.out (Nat.le_of_eq HPB.out.symm),N11.out⟩
     ·have hlt:decide ((k:Int)<(t0:Int))=true:=decide_eq_true (by omega)
      have hk0:k<S.ts.length:=by rw[←HT0.out];exact hkt
      obtain⟨b0,off,ea,hRow⟩:=(HSO.out w (New.refl _)).t.row'.2.2.2.2 (by omega)
      rw[ea]at c7
      have HROW:=Lib.hid (fun W (n:New w W)=>TriR.cells (hRow.keep n) k hk0)
      have HRA:=Lib.hid (fun W (n:New w W)=>hRow.keep n)
      have HEA:=Lib.hid ea
      clear ea hRow
      obtain⟨v0,v1,v2,v3,v4,v5,v6,v7,v8,v9⟩:=HROW.out _ (N0.out.trans (N10.out.trans N11.out))
      go_upto_region 10 with fail
      refine Code.at (fun W12 hW=>?_)
      obtain⟨T,hT⟩:∃ T,T=S.ts[k]:=⟨_,rfl⟩
      rw[←hT]at hW
      have n12:New W11 W12:=by subst hW;exact nw
      have x0:W12.cell? ⟨W11.heap.size,0,none⟩=some (.int .i64 T.x0):=by subst hW;go_simp
      have x2:W12.cell? ⟨W11.heap.size,2,none⟩=some (.int .i64 T.z0):=by subst hW;go_simp
      have x3:W12.cell? ⟨W11.heap.size,3,none⟩=some (.int .i64 T.x1):=by subst hW;go_simp
      have x5:W12.cell? ⟨W11.heap.size,5,none⟩=some (.int .i64 T.z1):=by subst hW;go_simp
      have x6:W12.cell? ⟨W11.heap.size,6,none⟩=some (.int .i64 T.x2):=by subst hW;go_simp
      have x8:W12.cell? ⟨W11.heap.size,8,none⟩=some (.int .i64 T.z2):=by subst hW;go_simp
      clear hW v0 v1 v2 v3 v4 v5 v6 v7 v8 v9 c7 c8 c9
      have hbx:Box4 p:=by rw[HP.out];unfold padT;rw[if_pos HOK.out.symm];exact(til_ok HOK.out.symm).1.pad
      obtain⟨bx1,bx2,bx3,bx4⟩:=hbx
      have y1:IntKind.i64.wrap (p.x+p.w)=p.x+p.w:=IntWalk.i64_in _ (by omega)
      have y2:IntKind.i64.wrap (p.z+p.d)=p.z+p.d:=IntWalk.i64_in _ (by omega)
      have HT:=Lib.hid hT
      have N12:=Lib.hid n12
      clear n12 hT bx1 bx2 bx3 bx4
      go_cut [131] (fun s131 Z=>s131=.bool (farT T p)∧New W12 Z)
      case first =>
       as_aux_lemma =>
        cases q1:decide (max T.x0 (max T.x1 T.x2)<p.x)
        ·cases q2:decide (p.x+p.w<min T.x0 (min T.x1 T.x2))
         ·cases q3:decide (max T.z0 (max T.z1 T.z2)<p.z)
          ·cases q4:decide (p.z+p.d<min T.z0 (min T.z1 T.z2))
           ·go_wp2_with fail
            go_meet
            exact⟨congrArg Value.bool (by unfold farT;simp only[Int.max_assoc,Int.min_assoc];rw[q1,q2,q3,q4];rfl),by exact nw⟩
           ·go_wp2_with fail
            go_meet
            exact⟨congrArg Value.bool (by unfold farT;simp only[Int.max_assoc,Int.min_assoc];rw[q1,q2,q3,q4];rfl),by exact nw⟩
          ·go_wp2_with fail
           go_meet
           exact⟨congrArg Value.bool (by unfold farT;simp only[Int.max_assoc,Int.min_assoc];rw[q1,q2,q3];rfl),by exact nw⟩
         ·go_wp2_with fail
          go_meet
          exact⟨congrArg Value.bool (by unfold farT;simp only[Int.max_assoc,Int.min_assoc];rw[q1,q2];rfl),by exact nw⟩
        ·go_wp2_with fail
         go_meet
         exact⟨congrArg Value.bool (by unfold farT;simp only[Int.max_assoc,Int.min_assoc];rw[q1];rfl),by exact nw⟩
      case rest =>
       as_aux_lemma =>
        rename World=>Z13
        obtain⟨rfl,n13⟩:=hcut
        clear x0 x2 x3 x5 x6 x8 y1 y2
        obtain⟨ff,hff⟩:∃ q,q=farT T p:=⟨_,rfl⟩
        rw[←hff]
        have HF0:=Lib.hid hff
        clear hff
        cases ff
        ·go_wp2_with fail
         go_meet
         obtain⟨u0,u1,u2,v0,v1⟩:=HU.out _ (N12.out.trans n13)
         exact⟨false,da0,t0,dc0,HT0.out,fun h=>(by cases h),u0,u1,u2,v1,slX_old TriR.enc_len (by decide) HST.out (N11.out.trans (N12.out.trans n13)) (Nat.le_of_eq HPB.out.symm),N11.out.trans (N12.out.trans n13)⟩
        ·have HFF:Hid (farT S.ts[k] p=true):=Lib.hid (by rw[←HT.out];exact HF0.out.symm)
         clear HF0 hlt
         obtain⟨-,c7,c8,c9⟩:=HC.out _ (N10.out.trans (N11.out.trans (N12.out.trans n13)))
         have HBB:Hid (Z13.heap.size=Z13.heap.size):=Lib.hid rfl
         obtain⟨B,hB⟩:∃ q,q=Z13.heap.size:=⟨_,rfl⟩
         have HB:=Lib.hid hB
         have HPB2:Hid (PB<B):=Lib.hid (by have h8:PB<W11.heap.size:=HPL.out;have h9:=(N12.out.trans n13).size;rw[hB];omega)
         obtain⟨-,hcl,hcm,-,-⟩:=(HSO.out w (New.refl _)).t.row
         obtain⟨cap,hcap⟩:∃ q,q=S.c0:=⟨_,rfl⟩
         rw[←hcap]at hcl hcm c7
         rw[←HT0.out]at hcl
         have hk1:k+1≤t0:=hkt
         have hkc:k≤cap:=by omega
         have hk2:k+1≤cap:=by omega
         have hwk:IntKind.i64.wrap ((k:Int)+1)=((k+1:Nat):Int):=by rw[IntWalk.i64_in _ (by unfold maxLen at hcm;omega)];omega
         have HTK:=Lib.hid (fun W (n:New Z13 W)=>(sl_take (HRA.out W ((N0.out.trans (N10.out.trans (N11.out.trans (N12.out.trans n13)))).trans n)) (Nat.le_of_lt hk0) (by rw[←HT0.out];exact hcl) hcm:Sl TriR.enc 10 W (.slice (some ⟨b0,off,none⟩) k cap) (S.ts.take k)))
         have HDK:=Lib.hid (fun W (n:New Z13 W)=>(by have h:=sl_drop (HRA.out W ((N0.out.trans (N10.out.trans (N11.out.trans (N12.out.trans n13)))).trans n)) hk0 (by rw[←HT0.out];exact hcl) hcm;rw[←HT0.out]at h;exact h:Sl TriR.enc 10 W (.slice (some ⟨b0,off+(k+1)*10,none⟩) (t0 - (k+1)) (cap - (k+1))) (S.ts.drop (k+1))))
         have HDN:=Lib.hid (fun(h:cap=k+1) W=>(by have h0:S.ts.drop (k+1)=[]:=List.drop_eq_nil_of_le (by rw[←HT0.out];omega);rw[h0];exact⟨_,0,rfl,Nat.le_refl _,by unfold maxLen;omega,fun e=>(by cases e),RowIn.nil⟩:Sl TriR.enc 10 W (.slice (some ⟨b0,off,none⟩) 0 0) (S.ts.drop (k+1))))
         have hl1:(S.ts.take k).length≤1000000:=by have:=HSM.out.1;rw[List.length_take];omega
         have hl2:(S.ts.drop (k+1)).length≤1000000:=by have:=HSM.out.1;rw[List.length_drop];omega
         have HCAP:=Lib.hid hcap
         clear hB hcap
         go_upto_region 11 with fail
         refine wp_region_dloose 13 (fun q j=>(q==5&&j==0)||(q==11&&(j==5||j==0))) (fun j w1 w'=>if j=5∨j=11 then (New Z13 w1→New Z13 w')else New w1 w') (fun _ w'=>New Z13 w') (fun i w' v=>match i with
          | 0=>w'.ownsRow B 64 10 v 0 []
          | 1=>v=.pointer (some ⟨w.heap.size+1,0,none⟩)
          | 2=>v=.slice (some ⟨b0,off,none⟩) t0 cap
          | 3=>v=.int .i64 (k:Int)
          | 4=>v=.slice (some ⟨b0,off,none⟩) k cap
          | 5=>w'.ownsRow B 64 10 v (S.ts.take k).length ((S.ts.take k).flatMap TriR.enc)
          | 6=>v=.pointer (some ⟨w.heap.size+1,0,none⟩)
          | 7=>v=.slice (some ⟨b0,off,none⟩) t0 cap
          | 8=>v=.int .i64 (k:Int)
          | 9=>v=.int .i64 ((k+1:Nat):Int)
          | 10=>∀ W,New Z13 W→Sl TriR.enc 10 W v (S.ts.drop (k+1))
          | 11=>w'.ownsRow B 64 10 v (S.ts.take k++S.ts.drop (k+1)).length ((S.ts.take k++S.ts.drop (k+1)).flatMap TriR.enc)
          | 12=>v=.pointer (some ⟨PB,0,none⟩)
          | _=>True) (by kernel_rfl) (by kernel_rfl) ?_ ?_ ?_ ?_ ?_
         ·intro i j' w1 w' v hij hdp hdd h n
          match i,h with
          | 0,h =>
           by_cases e8:j'=5∨j'=11
           ·rcases e8 with rfl|rfl <;> exact absurd (hdd.symm.trans (by kernel_rfl:_=true)) (by decide)
           ·rw[if_neg e8]at n
            exact own_new h n
          | 1,h=>exact h
          | 2,h=>exact h
          | 3,h=>exact h
          | 4,h=>exact h
          | 5,h =>
           by_cases e8:j'=5∨j'=11
           ·rcases e8 with rfl|rfl
            ·exact absurd rfl hij
            ·exact absurd (hdd.symm.trans (by kernel_rfl:_=true)) (by decide)
           ·rw[if_neg e8]at n
            exact own_new h n
          | 6,h=>exact h
          | 7,h=>exact h
          | 8,h=>exact h
          | 9,h=>exact h
          | 10,h=>exact h
          | 11,h =>
           by_cases e8:j'=5∨j'=11
           ·rcases e8 with rfl|rfl
            ·exact absurd (hdp.symm.trans (by kernel_rfl:_=true)) (by decide)
            ·exact absurd rfl hij
           ·rw[if_neg e8]at n
            exact own_new h n
          | 12,h=>exact h
          | i+13,_=>trivial
         ·exact Below.drew (Below.refl _ _)
         ·intro listed j' w1 w' hj' hs h1 n
          by_cases e8:j'=5∨j'=11
          ·rw[if_pos e8]at n
           exact n h1
          ·rw[if_neg e8]at n
           exact h1.trans n
         ·as_aux_lemma =>
           intro i o listed hi ho hls a' w' hKK hr hd
           obtain⟨-,c7,c8,c9⟩:=HC.out _ ((N10.out.trans (N11.out.trans (N12.out.trans n13))).trans hKK)
           rw[HEA.out,←HCAP.out]at c7
           have hBw:B≤w'.heap.size:=by have:=HB.out;have:=hKK.size;omega
           rcases(show i=0∨i=1∨i=2∨i=3∨i=4∨i=5∨i=6∨i=7∨i=8∨i=9∨i=10∨i=11∨i=12 by omega)with rfl|rfl|rfl|rfl|rfl|rfl|rfl|rfl|rfl|rfl|rfl|rfl|rfl <;> obtain rfl:=Option.some.inj ho
           ·exact yields_value (w':=w'.alloc (.cells #[] 64)) (.slice (some ⟨w'.heap.size,0,none⟩) 0 0) (by go_simp) ⟨(New.refl _).alloc _,World.ownsRow_made w' #[] 0 hBw (by unfold maxLen;omega) (by simp)⟩
           ·have r6:(a'.tmps[6]?).getD undef=.pointer (some ⟨w.heap.size+1,0,none⟩):=(eval_get a' 6).symm.trans (hr 6 (by kernel_rfl))
            exact yields_value (.pointer (some ⟨w.heap.size+1,0,none⟩)) (by go_simp) ⟨New.refl _,rfl⟩
           ·have r1:(a'.tmps[133]?).getD undef=.pointer (some ⟨w.heap.size+1,0,none⟩):=(eval_get a' 133).symm.trans (hd 1 133 (by omega) (by kernel_rfl) (by kernel_rfl) (by kernel_rfl))
            exact yields_value (.slice (some ⟨b0,off,none⟩) t0 cap) (by go_simp) ⟨New.refl _,rfl⟩
           ·have r4:(a'.tmps[4]?).getD undef=.int .i64 (k:Int):=(eval_get a' 4).symm.trans (hr 4 (by kernel_rfl))
            exact yields_value (.int .i64 (k:Int)) (by go_simp) ⟨New.refl _,rfl⟩
           ·have r2:(a'.tmps[134]?).getD undef=.slice (some ⟨b0,off,none⟩) t0 cap:=(eval_get a' 134).symm.trans (hd 2 134 (by omega) (by kernel_rfl) (by kernel_rfl) (by kernel_rfl))
            have r3:(a'.tmps[135]?).getD undef=.int .i64 (k:Int):=(eval_get a' 135).symm.trans (hd 3 135 (by omega) (by kernel_rfl) (by kernel_rfl) (by kernel_rfl))
            exact yields_value (.slice (some ⟨b0,off,none⟩) k cap) (by go_simp) ⟨New.refl _,rfl⟩
           ·have h0:w'.ownsRow B 64 10 (a'.eval (.tmp 132)) 0 []:=hd 0 132 (by omega) (by kernel_rfl) (by kernel_rfl) (by kernel_rfl)
            have r4:a'.eval (.tmp 136)=.slice (some ⟨b0,off,none⟩) k cap:=hd 4 136 (by omega) (by kernel_rfl) (by kernel_rfl) (by kernel_rfl)
            obtain⟨v0,e0⟩:∃ q,q=a'.eval (.tmp 132):=⟨_,rfl⟩
            rw[←e0]at h0
            obtain⟨q1,q2,q3,q4⟩:=HI0.out
            obtain⟨v',w5,hrun,hown,hnew⟩:=run_append_sl (P:=Tryz.prog) (w:=w') 24 24 TriR.enc_len TriR.enc_one B 64 i0 _ 80 Tryz.underlying24 q1 q2 q3 q4 rfl (by decide) v0 ([]:List TriR) h0 _ (S.ts.take k) (HTK.out _ hKK) (by show 0+(S.ts.take k).length≤maxLen;unfold maxLen;omega) (by show(0+(S.ts.take k).length)*_≤_;omega) hBw
            exact yields_value v' (by simp[execOp,resolve,invoke,builtin,←e0,r4,hrun,Result.andThen]) ⟨by rw[if_pos (by decide)];exact fun n=>hnew _ n (Nat.le_of_eq HB.out.symm),hown⟩
           ·have r6:(a'.tmps[6]?).getD undef=.pointer (some ⟨w.heap.size+1,0,none⟩):=(eval_get a' 6).symm.trans (hr 6 (by kernel_rfl))
            exact yields_value (.pointer (some ⟨w.heap.size+1,0,none⟩)) (by go_simp) ⟨New.refl _,rfl⟩
           ·have r1:(a'.tmps[138]?).getD undef=.pointer (some ⟨w.heap.size+1,0,none⟩):=(eval_get a' 138).symm.trans (hd 6 138 (by omega) (by kernel_rfl) (by kernel_rfl) (by kernel_rfl))
            exact yields_value (.slice (some ⟨b0,off,none⟩) t0 cap) (by go_simp) ⟨New.refl _,rfl⟩
           ·have r4:(a'.tmps[4]?).getD undef=.int .i64 (k:Int):=(eval_get a' 4).symm.trans (hr 4 (by kernel_rfl))
            exact yields_value (.int .i64 (k:Int)) (by go_simp) ⟨New.refl _,rfl⟩
           ·have r3:(a'.tmps[140]?).getD undef=.int .i64 (k:Int):=(eval_get a' 140).symm.trans (hd 8 140 (by omega) (by kernel_rfl) (by kernel_rfl) (by kernel_rfl))
            exact yields_value (.int .i64 ((k+1:Nat):Int)) (by go_simp) ⟨New.refl _,rfl⟩
           ·have r2:(a'.tmps[139]?).getD undef=.slice (some ⟨b0,off,none⟩) t0 cap:=(eval_get a' 139).symm.trans (hd 7 139 (by omega) (by kernel_rfl) (by kernel_rfl) (by kernel_rfl))
            have r3:(a'.tmps[141]?).getD undef=.int .i64 ((k+1:Nat):Int):=(eval_get a' 141).symm.trans (hd 9 141 (by omega) (by kernel_rfl) (by kernel_rfl) (by kernel_rfl))
            by_cases hce:cap=k+1
            ·have ht1:t0=k+1:=by omega
             have HD1:=Lib.hid (HDN.out hce)
             clear HDN HDK HTK
             rw[ht1]at r2
             subst hce
             exact yields_value (.slice (some ⟨b0,off,none⟩) 0 0) (by go_simp;exact fun h=>absurd h (by omega)) ⟨New.refl _,fun W _=>HD1.out W⟩
            ·have hc2:¬ (cap - (k+1)=0):=by omega
             exact yields_value (.slice (some ⟨b0,off+(k+1)*10,none⟩) (t0 - (k+1)) (cap - (k+1))) (by go_simp;exact fun h=>absurd (h (by omega)) (by omega)) ⟨New.refl _,fun W n=>HDK.out W n⟩
           ·have h5:w'.ownsRow B 64 10 (a'.eval (.tmp 137)) _ _:=hd 5 137 (by omega) (by kernel_rfl) (by kernel_rfl) (by kernel_rfl)
            have h10:∀ W,New Z13 W→Sl TriR.enc 10 W (a'.eval (.tmp 142)) (S.ts.drop (k+1)):=hd 10 142 (by omega) (by kernel_rfl) (by kernel_rfl) (by kernel_rfl)
            obtain⟨v0,e0⟩:∃ q,q=a'.eval (.tmp 137):=⟨_,rfl⟩
            obtain⟨v1,e1⟩:∃ q,q=a'.eval (.tmp 142):=⟨_,rfl⟩
            rw[←e0]at h5
            rw[←e1]at h10
            obtain⟨q1,q2,q3,q4⟩:=HI0.out
            obtain⟨v',w5,hrun,hown,hnew⟩:=run_append_sl (P:=Tryz.prog) (w:=w') 24 24 TriR.enc_len TriR.enc_one B 64 i0 _ 80 Tryz.underlying24 q1 q2 q3 q4 rfl (by decide) v0 (S.ts.take k) h5 v1 (S.ts.drop (k+1)) (h10 _ hKK) (by unfold maxLen;omega) (by omega) hBw
            exact yields_value v' (by simp[execOp,resolve,invoke,builtin,←e0,←e1,hrun,Result.andThen]) ⟨by rw[if_pos (by decide)];exact fun n=>hnew _ n (Nat.le_of_eq HB.out.symm),hown⟩
           ·have r18:(a'.tmps[18]?).getD undef=.pointer (some ⟨PB,0,none⟩):=(eval_get a' 18).symm.trans (hr 18 (by kernel_rfl))
            exact yields_value (.pointer (some ⟨PB,0,none⟩)) (by go_simp) ⟨New.refl _,rfl⟩
         ·intro vs w4 listed hKK hv
          have h11:w4.ownsRow B 64 10 (vs 11) _ _:=hv 11 (by omega) (by kernel_rfl)
          have h12:vs 12=.pointer (some ⟨PB,0,none⟩):=hv 12 (by omega) (by kernel_rfl)
          obtain⟨a2,c2,e11⟩:=own_shape h11
          clear hv
          simp only[List.take_succ_cons,List.take_zero,List.drop_succ_cons,List.drop_zero,putL,Act.put,List.setIfInBounds_toArray,List.set_cons_zero,List.set_cons_succ,Nat.reduceAdd,Nat.zero_add]
          rw[e11]at h11
          rw[h12,e11]
          have H11:=Lib.hid h11
          have HK4:=Lib.hid ((N12.out.trans n13).trans hKK)
          obtain⟨u0,u1,u2,v0,v1⟩:=HU.out w4 HK4.out
          clear hk1 hkc hk2 hwk hl1 hl2 hcl hcm c7 c8 c9 e11 h12 h11
          go_wp2_with fail
          go_meet
          exact⟨true,a2,(S.ts.take k++S.ts.drop (k+1)).length,c2,by unfold dropK;rw[if_pos rfl],fun _=>⟨hk0,HFF.out⟩,by go_simp,cell_put u1 (by simp) _,cell_put u2 (by simp) _,by rw[World.frozen?_setCell];exact v1,(slX_own TriR.enc_len H11.out HPB2.out).set 0 _,New.setB (p:=⟨PB,0,none⟩) (by show w10.heap.size≤PB;rw[HPB.out];exact Nat.le_refl _) (N11.out.trans HK4.out) _⟩
   case rest =>
    as_aux_lemma =>
     rename World=>W14
     obtain⟨c,ta,tn,tc,htn,hct,u0,u1,u2,v1,hX,n14⟩:=hcut
     clear c7 c8 c9
     have HTN:=Lib.hid htn
     have HCT:=Lib.hid hct
     have HX:=Lib.hid (fun W (q:New W14 W)=>hX.keep q)
     have N14:=Lib.hid n14
     have HPL:=Lib.hid (World.block_lt_of_cell? _ _ u0)
     have HU:=Lib.hid (fun W (q:New W14 W)=>And.intro (q.keep u0) (And.intro (q.keep u1) (And.intro (q.keep u2) (q.keepF u1 v1))))
     clear htn hct hX n14 u0 u1 u2 v1 N11
     obtain⟨-,c7,c8,c9⟩:=HC.out _ (N10.out.trans N14.out)
     go_upto_if 149 with fail
     go_cut [180] (fun s180 Z=>∃ (d:Bool) (xa:Option Addr) (xn xc:Nat),xn=(dropK S.bs k d).length∧(d=true→∃ h:k<S.bs.length,farX S.bs[k] p=true)∧Z.cell? ⟨PB,0,none⟩=some (.slice ta tn tc)∧Z.cell? ⟨PB,1,none⟩=some (.slice xa xn xc)∧Z.cell? ⟨PB,2,none⟩=some (.slice da2 t2 dc2)∧Sl TriR.enc 10 Z (.slice ta tn tc) (dropK S.ts k c)∧Sl BoxR.enc 8 Z (.slice xa xn xc) (dropK S.bs k d)∧New w10 Z)
     case first =>
      as_aux_lemma =>
       by_cases hkt:k<t1
       rotate_left
       ·have hlt:decide ((k:Int)<(t1:Int))=false:=decide_eq_false (by omega)
        have hlt2:¬ ((k:Int)<(t1:Int)):=by omega
        clear hkt
        go_wp2_with fail
        go_meet
        obtain⟨u0,u1,u2,v1⟩:=HU.out _ (New.refl _)
        exact⟨false,da1,t1,dc1,HT1.out,fun h=>(by cases h),u0,u1,u2,(HX.out _ (New.refl _)).sl,HSB.out.keep N14.out,N14.out⟩
       ·have hlt:decide ((k:Int)<(t1:Int))=true:=decide_eq_true (by omega)
        have hk1b:k<S.bs.length:=by rw[←HT1.out];exact hkt
        obtain⟨b1,off1,ea,hRow⟩:=(HSO.out w (New.refl _)).b.row'.2.2.2.2 (by omega)
        rw[ea]at c8
        have HROW:=Lib.hid (fun W (n:New w W)=>BoxR.cells (hRow.keep n) k hk1b)
        have HRB:=Lib.hid (fun W (n:New w W)=>hRow.keep n)
        have HEB:=Lib.hid ea
        clear ea hRow
        obtain⟨v0,v1,v2,v3,v4,v5,v6,v7⟩:=HROW.out _ (N0.out.trans (N10.out.trans N14.out))
        go_upto_region 14 with fail
        refine Code.at (fun W22 hW=>?_)
        obtain⟨T,hT⟩:∃ T,T=S.bs[k]:=⟨_,rfl⟩
        rw[←hT]at hW
        have n22:New W14 W22:=by subst hW;exact nw
        have x1:W22.cell? ⟨W14.heap.size,1,none⟩=some (.int .i64 T.x0):=by subst hW;go_simp
        have x2:W22.cell? ⟨W14.heap.size,2,none⟩=some (.int .i64 T.z0):=by subst hW;go_simp
        have x3:W22.cell? ⟨W14.heap.size,3,none⟩=some (.int .i64 T.x1):=by subst hW;go_simp
        have x4:W22.cell? ⟨W14.heap.size,4,none⟩=some (.int .i64 T.z1):=by subst hW;go_simp
        clear hW v0 v1 v2 v3 v4 v5 v6 v7 c7 c8 c9
        have hbx:Box4 p:=by rw[HP.out];unfold padT;rw[if_pos HOK.out.symm];exact(til_ok HOK.out.symm).1.pad
        obtain⟨bx1,bx2,bx3,bx4⟩:=hbx
        have y1:IntKind.i64.wrap (p.x+p.w)=p.x+p.w:=IntWalk.i64_in _ (by omega)
        have y2:IntKind.i64.wrap (p.z+p.d)=p.z+p.d:=IntWalk.i64_in _ (by omega)
        have HT:=Lib.hid hT
        have N22:=Lib.hid n22
        clear n22 hT bx1 bx2 bx3 bx4
        go_cut [180] (fun s180 Z=>s180=.bool (farX T p)∧New W22 Z)
        case first =>
         as_aux_lemma =>
          cases q1:decide (T.x1<p.x)
          ·cases q2:decide (p.x+p.w≤T.x0)
           ·cases q3:decide (T.z1<p.z)
            ·cases q4:decide (p.z+p.d≤T.z0)
             ·go_wp2_with fail
              go_meet
              exact⟨congrArg Value.bool (by unfold farX;rw[q1,q2,q3,q4];rfl),by exact nw⟩
             ·go_wp2_with fail
              go_meet
              exact⟨congrArg Value.bool (by unfold farX;rw[q1,q2,q3,q4];rfl),by exact nw⟩
            ·go_wp2_with fail
             go_meet
             exact⟨congrArg Value.bool (by unfold farX;rw[q1,q2,q3];rfl),by exact nw⟩
           ·go_wp2_with fail
            go_meet
            exact⟨congrArg Value.bool (by unfold farX;rw[q1,q2];rfl),by exact nw⟩
          ·go_wp2_with fail
           go_meet
           exact⟨congrArg Value.bool (by unfold farX;rw[q1];rfl),by exact nw⟩
        case rest =>
         as_aux_lemma =>
          rename World=>Z23
          obtain⟨rfl,n23⟩:=hcut
          clear x1 x2 x3 x4 y1 y2
          obtain⟨ff,hff⟩:∃ q,q=farX T p:=⟨_,rfl⟩
          rw[←hff]
          have HF0:=Lib.hid hff
          clear hff
          cases ff
          ·go_wp2_with fail
           go_meet
           obtain⟨u0,u1,u2,v1⟩:=HU.out _ (N22.out.trans n23)
           exact⟨false,da1,t1,dc1,HT1.out,fun h=>(by cases h),u0,u1,u2,(HX.out _ (N22.out.trans n23)).sl,HSB.out.keep (N14.out.trans (N22.out.trans n23)),N14.out.trans (N22.out.trans n23)⟩
          ·have HFF:Hid (farX S.bs[k] p=true):=Lib.hid (by rw[←HT.out];exact HF0.out.symm)
           clear HF0 hlt
           obtain⟨-,c7,c8,c9⟩:=HC.out _ (N10.out.trans (N14.out.trans (N22.out.trans n23)))
           have HBB:Hid (Z23.heap.size=Z23.heap.size):=Lib.hid rfl
           obtain⟨B,hB⟩:∃ q,q=Z23.heap.size:=⟨_,rfl⟩
           have HB:=Lib.hid hB
           have HPB2:Hid (PB<B):=Lib.hid (by have h8:PB<W14.heap.size:=HPL.out;have h9:=(N22.out.trans n23).size;rw[hB];omega)
           obtain⟨-,hcl,hcm,-,-⟩:=(HSO.out w (New.refl _)).b.row
           obtain⟨cap,hcap⟩:∃ q,q=S.c1:=⟨_,rfl⟩
           rw[←hcap]at hcl hcm c8
           rw[←HT1.out]at hcl
           have hk1:k+1≤t1:=hkt
           have hkc:k≤cap:=by omega
           have hk2:k+1≤cap:=by omega
           have hwk:IntKind.i64.wrap ((k:Int)+1)=((k+1:Nat):Int):=by rw[IntWalk.i64_in _ (by unfold maxLen at hcm;omega)];omega
           have HTK:=Lib.hid (fun W (n:New Z23 W)=>(sl_take (HRB.out W ((N0.out.trans (N10.out.trans (N14.out.trans (N22.out.trans n23)))).trans n)) (Nat.le_of_lt hk1b) (by rw[←HT1.out];exact hcl) hcm:Sl BoxR.enc 8 W (.slice (some ⟨b1,off1,none⟩) k cap) (S.bs.take k)))
           have HDK:=Lib.hid (fun W (n:New Z23 W)=>(by have h:=sl_drop (HRB.out W ((N0.out.trans (N10.out.trans (N14.out.trans (N22.out.trans n23)))).trans n)) hk1b (by rw[←HT1.out];exact hcl) hcm;rw[←HT1.out]at h;exact h:Sl BoxR.enc 8 W (.slice (some ⟨b1,off1+(k+1)*8,none⟩) (t1 - (k+1)) (cap - (k+1))) (S.bs.drop (k+1))))
           have HDN:=Lib.hid (fun(h:cap=k+1) W=>(by have h0:S.bs.drop (k+1)=[]:=List.drop_eq_nil_of_le (by rw[←HT1.out];omega);rw[h0];exact⟨_,0,rfl,Nat.le_refl _,by unfold maxLen;omega,fun e=>(by cases e),RowIn.nil⟩:Sl BoxR.enc 8 W (.slice (some ⟨b1,off1,none⟩) 0 0) (S.bs.drop (k+1))))
           have hl1:(S.bs.take k).length≤1000000:=by have:=HSM.out.2;rw[List.length_take];omega
           have hl2:(S.bs.drop (k+1)).length≤1000000:=by have:=HSM.out.2;rw[List.length_drop];omega
           have HCAP:=Lib.hid hcap
           clear hB hcap
           go_upto_region 15 with fail
           refine wp_region_dloose 13 (fun q j=>(q==5&&j==0)||(q==11&&(j==5||j==0))) (fun j w1 w'=>if j=5∨j=11 then (New Z23 w1→New Z23 w')else New w1 w') (fun _ w'=>New Z23 w') (fun i w' v=>match i with
            | 0=>w'.ownsRow B 66 8 v 0 []
            | 1=>v=.pointer (some ⟨w.heap.size+1,1,none⟩)
            | 2=>v=.slice (some ⟨b1,off1,none⟩) t1 cap
            | 3=>v=.int .i64 (k:Int)
            | 4=>v=.slice (some ⟨b1,off1,none⟩) k cap
            | 5=>w'.ownsRow B 66 8 v (S.bs.take k).length ((S.bs.take k).flatMap BoxR.enc)
            | 6=>v=.pointer (some ⟨w.heap.size+1,1,none⟩)
            | 7=>v=.slice (some ⟨b1,off1,none⟩) t1 cap
            | 8=>v=.int .i64 (k:Int)
            | 9=>v=.int .i64 ((k+1:Nat):Int)
            | 10=>∀ W,New Z23 W→Sl BoxR.enc 8 W v (S.bs.drop (k+1))
            | 11=>w'.ownsRow B 66 8 v (S.bs.take k++S.bs.drop (k+1)).length ((S.bs.take k++S.bs.drop (k+1)).flatMap BoxR.enc)
            | 12=>v=.pointer (some ⟨PB,1,none⟩)
            | _=>True) (by kernel_rfl) (by kernel_rfl) ?_ ?_ ?_ ?_ ?_
           ·intro i j' w1 w' v hij hdp hdd h n
            match i,h with
            | 0,h =>
             by_cases e8:j'=5∨j'=11
             ·rcases e8 with rfl|rfl <;> exact absurd (hdd.symm.trans (by kernel_rfl:_=true)) (by decide)
             ·rw[if_neg e8]at n
              exact own_new h n
            | 1,h=>exact h
            | 2,h=>exact h
            | 3,h=>exact h
            | 4,h=>exact h
            | 5,h =>
             by_cases e8:j'=5∨j'=11
             ·rcases e8 with rfl|rfl
              ·exact absurd rfl hij
              ·exact absurd (hdd.symm.trans (by kernel_rfl:_=true)) (by decide)
             ·rw[if_neg e8]at n
              exact own_new h n
            | 6,h=>exact h
            | 7,h=>exact h
            | 8,h=>exact h
            | 9,h=>exact h
            | 10,h=>exact h
            | 11,h =>
             by_cases e8:j'=5∨j'=11
             ·rcases e8 with rfl|rfl
              ·exact absurd (hdp.symm.trans (by kernel_rfl:_=true)) (by decide)
              ·exact absurd rfl hij
             ·rw[if_neg e8]at n
              exact own_new h n
            | 12,h=>exact h
            | i+13,_=>trivial
           ·exact Below.drew (Below.refl _ _)
           ·intro listed j' w1 w' hj' hs h1 n
            by_cases e8:j'=5∨j'=11
            ·rw[if_pos e8]at n
             exact n h1
            ·rw[if_neg e8]at n
             exact h1.trans n
           ·as_aux_lemma =>
             intro i o listed hi ho hls a' w' hKK hr hd
             obtain⟨-,c7,c8,c9⟩:=HC.out _ ((N10.out.trans (N14.out.trans (N22.out.trans n23))).trans hKK)
             rw[HEB.out,←HCAP.out]at c8
             have hBw:B≤w'.heap.size:=by have:=HB.out;have:=hKK.size;omega
             rcases(show i=0∨i=1∨i=2∨i=3∨i=4∨i=5∨i=6∨i=7∨i=8∨i=9∨i=10∨i=11∨i=12 by omega)with rfl|rfl|rfl|rfl|rfl|rfl|rfl|rfl|rfl|rfl|rfl|rfl|rfl <;> obtain rfl:=Option.some.inj ho
             ·exact yields_value (w':=w'.alloc (.cells #[] 66)) (.slice (some ⟨w'.heap.size,0,none⟩) 0 0) (by go_simp) ⟨(New.refl _).alloc _,World.ownsRow_made w' #[] 0 hBw (by unfold maxLen;omega) (by simp)⟩
             ·have r6:(a'.tmps[6]?).getD undef=.pointer (some ⟨w.heap.size+1,0,none⟩):=(eval_get a' 6).symm.trans (hr 6 (by kernel_rfl))
              exact yields_value (.pointer (some ⟨w.heap.size+1,1,none⟩)) (by go_simp) ⟨New.refl _,rfl⟩
             ·have r1:(a'.tmps[182]?).getD undef=.pointer (some ⟨w.heap.size+1,1,none⟩):=(eval_get a' 182).symm.trans (hd 1 182 (by omega) (by kernel_rfl) (by kernel_rfl) (by kernel_rfl))
              exact yields_value (.slice (some ⟨b1,off1,none⟩) t1 cap) (by go_simp) ⟨New.refl _,rfl⟩
             ·have r4:(a'.tmps[4]?).getD undef=.int .i64 (k:Int):=(eval_get a' 4).symm.trans (hr 4 (by kernel_rfl))
              exact yields_value (.int .i64 (k:Int)) (by go_simp) ⟨New.refl _,rfl⟩
             ·have r2:(a'.tmps[183]?).getD undef=.slice (some ⟨b1,off1,none⟩) t1 cap:=(eval_get a' 183).symm.trans (hd 2 183 (by omega) (by kernel_rfl) (by kernel_rfl) (by kernel_rfl))
              have r3:(a'.tmps[184]?).getD undef=.int .i64 (k:Int):=(eval_get a' 184).symm.trans (hd 3 184 (by omega) (by kernel_rfl) (by kernel_rfl) (by kernel_rfl))
              exact yields_value (.slice (some ⟨b1,off1,none⟩) k cap) (by go_simp) ⟨New.refl _,rfl⟩
             ·have h0:w'.ownsRow B 66 8 (a'.eval (.tmp 181)) 0 []:=hd 0 181 (by omega) (by kernel_rfl) (by kernel_rfl) (by kernel_rfl)
              have r4:a'.eval (.tmp 185)=.slice (some ⟨b1,off1,none⟩) k cap:=hd 4 185 (by omega) (by kernel_rfl) (by kernel_rfl) (by kernel_rfl)
              obtain⟨v0,e0⟩:∃ q,q=a'.eval (.tmp 181):=⟨_,rfl⟩
              rw[←e0]at h0
              obtain⟨q1,q2,q3,q4⟩:=HI1.out
              obtain⟨v',w5,hrun,hown,hnew⟩:=run_append_sl (P:=Tryz.prog) (w:=w') 25 25 BoxR.enc_len BoxR.enc_one B 66 i1 _ 64 Tryz.underlying25 q1 q2 q3 q4 rfl (by decide) v0 ([]:List BoxR) h0 _ (S.bs.take k) (HTK.out _ hKK) (by show 0+(S.bs.take k).length≤maxLen;unfold maxLen;omega) (by show(0+(S.bs.take k).length)*_≤_;omega) hBw
              exact yields_value v' (by simp[execOp,resolve,invoke,builtin,←e0,r4,hrun,Result.andThen]) ⟨by rw[if_pos (by decide)];exact fun n=>hnew _ n (Nat.le_of_eq HB.out.symm),hown⟩
             ·have r6:(a'.tmps[6]?).getD undef=.pointer (some ⟨w.heap.size+1,0,none⟩):=(eval_get a' 6).symm.trans (hr 6 (by kernel_rfl))
              exact yields_value (.pointer (some ⟨w.heap.size+1,1,none⟩)) (by go_simp) ⟨New.refl _,rfl⟩
             ·have r1:(a'.tmps[187]?).getD undef=.pointer (some ⟨w.heap.size+1,1,none⟩):=(eval_get a' 187).symm.trans (hd 6 187 (by omega) (by kernel_rfl) (by kernel_rfl) (by kernel_rfl))
              exact yields_value (.slice (some ⟨b1,off1,none⟩) t1 cap) (by go_simp) ⟨New.refl _,rfl⟩
             ·have r4:(a'.tmps[4]?).getD undef=.int .i64 (k:Int):=(eval_get a' 4).symm.trans (hr 4 (by kernel_rfl))
              exact yields_value (.int .i64 (k:Int)) (by go_simp) ⟨New.refl _,rfl⟩
             ·have r3:(a'.tmps[189]?).getD undef=.int .i64 (k:Int):=(eval_get a' 189).symm.trans (hd 8 189 (by omega) (by kernel_rfl) (by kernel_rfl) (by kernel_rfl))
              exact yields_value (.int .i64 ((k+1:Nat):Int)) (by go_simp) ⟨New.refl _,rfl⟩
             ·have r2:(a'.tmps[188]?).getD undef=.slice (some ⟨b1,off1,none⟩) t1 cap:=(eval_get a' 188).symm.trans (hd 7 188 (by omega) (by kernel_rfl) (by kernel_rfl) (by kernel_rfl))
              have r3:(a'.tmps[190]?).getD undef=.int .i64 ((k+1:Nat):Int):=(eval_get a' 190).symm.trans (hd 9 190 (by omega) (by kernel_rfl) (by kernel_rfl) (by kernel_rfl))
              by_cases hce:cap=k+1
              ·have ht1:t1=k+1:=by omega
               have HD1:=Lib.hid (HDN.out hce)
               clear HDN HDK HTK
               rw[ht1]at r2
               subst hce
               exact yields_value (.slice (some ⟨b1,off1,none⟩) 0 0) (by go_simp;exact fun h=>absurd h (by omega)) ⟨New.refl _,fun W _=>HD1.out W⟩
              ·have hc2:¬ (cap - (k+1)=0):=by omega
               exact yields_value (.slice (some ⟨b1,off1+(k+1)*8,none⟩) (t1 - (k+1)) (cap - (k+1))) (by go_simp;exact fun h=>absurd (h (by omega)) (by omega)) ⟨New.refl _,fun W n=>HDK.out W n⟩
             ·have h5:w'.ownsRow B 66 8 (a'.eval (.tmp 186)) _ _:=hd 5 186 (by omega) (by kernel_rfl) (by kernel_rfl) (by kernel_rfl)
              have h10:∀ W,New Z23 W→Sl BoxR.enc 8 W (a'.eval (.tmp 191)) (S.bs.drop (k+1)):=hd 10 191 (by omega) (by kernel_rfl) (by kernel_rfl) (by kernel_rfl)
              obtain⟨v0,e0⟩:∃ q,q=a'.eval (.tmp 186):=⟨_,rfl⟩
              obtain⟨v1,e1⟩:∃ q,q=a'.eval (.tmp 191):=⟨_,rfl⟩
              rw[←e0]at h5
              rw[←e1]at h10
              obtain⟨q1,q2,q3,q4⟩:=HI1.out
              obtain⟨v',w5,hrun,hown,hnew⟩:=run_append_sl (P:=Tryz.prog) (w:=w') 25 25 BoxR.enc_len BoxR.enc_one B 66 i1 _ 64 Tryz.underlying25 q1 q2 q3 q4 rfl (by decide) v0 (S.bs.take k) h5 v1 (S.bs.drop (k+1)) (h10 _ hKK) (by unfold maxLen;omega) (by omega) hBw
              exact yields_value v' (by simp[execOp,resolve,invoke,builtin,←e0,←e1,hrun,Result.andThen]) ⟨by rw[if_pos (by decide)];exact fun n=>hnew _ n (Nat.le_of_eq HB.out.symm),hown⟩
             ·have r18:(a'.tmps[18]?).getD undef=.pointer (some ⟨PB,0,none⟩):=(eval_get a' 18).symm.trans (hr 18 (by kernel_rfl))
              exact yields_value (.pointer (some ⟨PB,1,none⟩)) (by go_simp) ⟨New.refl _,rfl⟩
           ·intro vs w4 listed hKK hv
            have h11:w4.ownsRow B 66 8 (vs 11) _ _:=hv 11 (by omega) (by kernel_rfl)
            have h12:vs 12=.pointer (some ⟨PB,1,none⟩):=hv 12 (by omega) (by kernel_rfl)
            obtain⟨a2,c2,e11⟩:=own_shape h11
            clear hv
            simp only[List.take_succ_cons,List.take_zero,List.drop_succ_cons,List.drop_zero,putL,Act.put,List.setIfInBounds_toArray,List.set_cons_zero,List.set_cons_succ,Nat.reduceAdd,Nat.zero_add]
            rw[e11]at h11
            rw[h12,e11]
            have H11:=Lib.hid h11
            have HK4:=Lib.hid ((N22.out.trans n23).trans hKK)
            obtain⟨u0,u1,u2,v1⟩:=HU.out w4 HK4.out
            clear hk1 hkc hk2 hwk hl1 hl2 hcl hcm c7 c8 c9 e11 h12 h11
            go_wp2_with fail
            go_meet
            exact⟨true,a2,(S.bs.take k++S.bs.drop (k+1)).length,c2,by unfold dropK;rw[if_pos rfl],fun _=>⟨hk1b,HFF.out⟩,cell_put u0 (by simp) _,by go_simp,cell_put u2 (by simp) _,((HX.out _ HK4.out).set 1 _).sl,((slX_own BoxR.enc_len H11.out HPB2.out).set 1 _).sl,New.setB (p:=⟨PB,1,none⟩) (by show w10.heap.size≤PB;rw[HPB.out];exact Nat.le_refl _) (N14.out.trans HK4.out) _⟩
     case rest =>
      as_aux_lemma =>
       rename World=>W24
       obtain⟨d,xa,xn,xc,hxn,hdt,u0,u1,u2,hX3,hX4,n24⟩:=hcut
       clear c7 c8 c9
       have HFI:=Lib.hid (far_is (C:=C) (S:=S) (S2:=⟨dropK S.ts k c,dropK S.bs k d,S.hs,ta,xa,da2,tc,xc,dc2⟩) (tx:=tx) (tz:=tz) (k:=k) (c:=c) (d:=d) HE1.out.symm rfl rfl rfl (by rw[←HP.out];exact HCT.out) (by rw[←HP.out];exact hdt))
       have KB3:=KB2.out ⟨dropK S.ts k c,dropK S.bs k d,S.hs,ta,xa,da2,tc,xc,dc2⟩ W24 (N0.out.trans (N10.out.trans n24)) ⟨by dsimp only;rw[←HTN.out];exact hX3,by dsimp only;rw[←hxn];exact hX4,by dsimp only;rw[←HT2.out];exact HSH.out.keep n24⟩
       rw[HFI.out.1,HFI.out.2]at KB3
       dsimp only at KB3
       rw[←HTN.out,←hxn,←HT2.out]at KB3
       have N24:=Lib.hid n24
       obtain⟨c0,c1,c2,c3,c4,c5,c6⟩:=(HC.out _ (N10.out.trans N24.out)).1
       clear KB2 hxn hdt hX3 hX4 n24
       go_wp2_with fail
       refine KB3.mono ?_
       rintro e w25 ⟨O,rfl,hO,ho1,-,n25⟩
       have HO25:=Lib.hid (show RowsK Fl.enc 3 w25 (.slice O.ga O.L.length O.gc) O.L from hO)
       have N25:=Lib.hid (N24.out.trans n25)
       have HOF:=Lib.hid (ho1 (by trivial))
       clear c0 c1 c2 c3 c4 c5 c6 u0 u1 u2 hO ho1 n25 KB3
       go_upto_region 17 with fail
       refine Code.at (fun W26 hW=>?_)
       have n26:New w25 W26:=by subst hW;exact nw
       have o0:W26.cell? ⟨w25.heap.size,0,none⟩=some (.int .i64 O.x):=by subst hW;go_simp
       have o1:W26.cell? ⟨w25.heap.size,1,none⟩=some (.int .i64 O.z):=by subst hW;go_simp
       have o2:W26.cell? ⟨w25.heap.size,2,none⟩=some (.int .i64 O.w):=by subst hW;go_simp
       have o3:W26.cell? ⟨w25.heap.size,3,none⟩=some (.int .i64 O.d):=by subst hW;go_simp
       have o4:W26.cell? ⟨w25.heap.size,4,none⟩=some (.slice O.ga O.L.length O.gc):=by subst hW;go_simp
       clear hW
       obtain⟨gg0,gg1,gg2,gg3,gg4⟩:=HGG.out _ (N10b.out.trans (N25.out.trans n26))
       have hs:smallL (corL C (coA C S.ts S.bs) (tilB C tx tz)):=fun j hj=>Nat.le_trans (corL_8 C S _ j hj) (by omega)
       obtain⟨a1,a2,a3,a4,a5⟩:=HGF.out (by trivial)
       obtain⟨b1,b2,b3,b4,b5⟩:=HOF.out
       have hsame:sameG G O=true:=by
        unfold sameG eqR
        rw[a1,a2,a3,a4,a5,b1,b2,b3,b4,b5]
        simp
       have KS:=rg_Same G O (by rw[a5];exact hs) (by rw[b5];exact hs) W26 (HG7.out.keep (N10b.out.trans (N25.out.trans n26))) (HO25.out.keep n26)
       rw[hsame]at KS
       have N26:=Lib.hid (N10.out.trans (N25.out.trans n26))
       clear a1 a2 a3 a4 a5 b1 b2 b3 b4 b5 hs hsame n26
       go_wp2_with fail
       refine KS.mono ?_
       rintro e w27 ⟨rfl,n27⟩
       have N27:=Lib.hid (N0.out.trans (N26.out.trans n27))
       have KWH:=KW.out _ N27.out
       clear KS gg0 gg1 gg2 gg3 gg4 o0 o1 o2 o3 o4 n27
       go_wp2_with fail
       refine KWH.mono ?_
       rintro e w28 ⟨rfl,n28⟩
       have nn:=N27.out.trans n28
       go_wp2_with fail
       go_ret
       exact⟨rfl,nn⟩
end Go.Proofs.YtmhghnbgllaihaaGreatDoor
