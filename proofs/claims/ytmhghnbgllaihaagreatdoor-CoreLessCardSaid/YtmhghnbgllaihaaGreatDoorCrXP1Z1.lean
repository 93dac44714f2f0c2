import Derived.Test.YtmhghnbgllaihaaGreatDoorCrWP1Z1
import Derived.Test.YtmhghnbgllaihaaGreatDoorClBP1Z1
import Derived.Test.YtmhghnbgllaihaaGreatDoorWholeMP1Z1
import Derived.Deep.LoopGhost
import Derived.Deep.DeepCutAuto

namespace Go.Proofs.YtmhghnbgllaihaaGreatDoor
open Go.RowKit
set_option linter.unusedVariables false
set_option maxHeartbeats 4000000 in
theorem fl_eql (w:World) (a b:Fl):(binOp .eql 56 (.agg #[.int .i64 a.y,.int .i64 a.top,.int .i64 a.area]) (.agg #[.int .i64 b.y,.int .i64 b.top,.int .i64 b.area])).run Tryz.prog w=.ok (.bool (a.eqB b)) w:=by
  obtain⟨a0,a1,a2⟩:=a
  obtain⟨b0,b1,b2⟩:=b
  unfold Fl.eqB
  cases h0:(a0==b0)
  · go_simp
  · skip
    cases h1:(a1==b1)
    · go_simp
    · skip
      cases h2:(a2==b2)
      · go_simp
      · go_simp
theorem cob_zero {C:CfgR} {S:SoupV} {tx tz:Int} (h:cobE C S tx tz=0):S.err C=0∧tilOk C tx tz=true∧fulE C S (padB C (tilB C tx tz))=0:=by
  unfold cobE at h
  split at h
  · omega
  · rename_i h0
    split at h
    · rename_i h1
      exact⟨by omega,h1,h⟩
    · omega
theorem less_is {C:CfgR} {S:SoupV} {tx tz:Int} (h:cobE C S tx tz=0) (h1:cobE C.more S tx tz=0):tilB C.more tx tz=tilB C tx tz∧(corL C.more (coA C.more S.ts S.bs) (tilB C.more tx tz)).length=(corL C (coA C S.ts S.bs) (tilB C tx tz)).length∧(corL C (coA C S.ts S.bs) (tilB C tx tz)).length≤64 ∧
    (∀ i (p:i<(corL C.more (coA C.more S.ts S.bs) (tilB C.more tx tz)).length) (q:i<(corL C (coA C S.ts S.bs) (tilB C tx tz)).length),∀ f∈(corL C.more (coA C.more S.ts S.bs) (tilB C.more tx tz))[i],f∈(corL C (coA C S.ts S.bs) (tilB C tx tz))[i]):=by
  obtain⟨a1,a2,-⟩:=cob_zero h
  obtain⟨b1,b2,-⟩:=cob_zero h1
  have c0:=(soup_may a1).1
  have c1:=(soup_may b1).1
  have e:tilB C.more tx tz=tilB C tx tz:=by rw[(til_ok a2).2.1,(til_ok b2).2.1];rfl
  have hT:=(til_ok a2).1
  rw[e,←more_A c0 c1]
  generalize coA C S.ts S.bs=A
  generalize tilB C tx tz=b at *
  refine⟨rfl,by unfold corL;rw[gridT_len,gridT_len],?_,fun i p q f hf=>?_⟩
  · unfold corL
    rw[gridT_len]
    exact Nat.le_trans (Nat.mul_le_mul_right _ (show b.d.toNat≤8 by have:=hT.d;omega)) (Nat.mul_le_mul_left _ (show b.w.toNat≤8 by have:=hT.w;omega))
  · unfold corL at p q
    have g1:(corL C.more A b)[i]=corI C.more A (b.x+((i % b.w.toNat:Nat):Int)) (b.z+((i / b.w.toNat:Nat):Int)):=gridT_at p
    have g2:(corL C A b)[i]=corI C A (b.x+((i % b.w.toNat:Nat):Int)) (b.z+((i / b.w.toNat:Nat):Int)):=gridT_at q
    rw[g1]at hf
    rw[g2]
    exact more_cor c0 A _ _ hf
theorem corL_8 (C:CfgR) (S:SoupV) (b:Bd):∀ i (p:i<(corL C (coA C S.ts S.bs) b).length),(corL C (coA C S.ts S.bs) b)[i].length≤8:=fun i p=>by
  unfold corL at p
  have g1:(corL C (coA C S.ts S.bs) b)[i]=corI C (coA C S.ts S.bs) (b.x+((i % b.w.toNat:Nat):Int)) (b.z+((i / b.w.toNat:Nat):Int)):=gridT_at p
  rw[g1]
  unfold corI keepL
  refine Nat.le_trans (keepT_len _ _ _) ?_
  unfold coA
  rw[List.length_map]
  exact flX_len8 C _
set_option maxHeartbeats 16000000 in
set_option maxRecDepth 100000 in
theorem l_coreLess (C:CfgR) (S:SoupV) (tx tz:Int) (w:World) (hN:Nowhere w) (hD:Dirs w) (hS:S.ok w) :
    Calls Tryz.prog 7 #[.agg #[.int .i64 C.cl,.int .i64 C.cb,.int .i64 C.ht,.int .i64 C.ri,.int .i64 C.ru,.int .i64 C.wd,.int .i64 C.dp],.agg #[.slice S.a0 S.ts.length S.c0,.slice S.a1 S.bs.length S.c1,.slice S.a2 S.hs.length S.c2],.int .i64 tx,.int .i64 tz] w fun e w'=>e=.returned (.bool true)∧New w w':=by
  have KW:=Lib.hid (fun W (n:New w W)=>cr_wakes W (hN.new n) (hD.new n))
  have KG:=Lib.hid (fun W (n:New w W)=>cr_great S W (hS.keep n))
  have KB:=Lib.hid (fun W (n:New w W)=>cr_Build C S tx tz W (hN.new n) (hD.new n) (hS.keep n))
  have KD:=Lib.hid (fun W (n:New w W)=>cr_Build C.more S tx tz W (hN.new n) (hD.new n) (hS.keep n))
  have HLS:=Lib.hid (fun h h1=>less_is (C:=C) (S:=S) (tx:=tx) (tz:=tz) h h1)
  have H81:=Lib.hid (corL_8 C S (tilB C tx tz))
  have H82:=Lib.hid (corL_8 C.more S (tilB C.more tx tz))
  unfold Built at KB KD
  have hmore:C.more=⟨C.cl+1,C.cb,C.ht,C.ri,C.ru,C.wd,C.dp⟩:=rfl
  generalize corL C (coA C S.ts S.bs) (tilB C tx tz)=L at *
  generalize corL C.more (coA C.more S.ts S.bs) (tilB C.more tx tz)=M at *
  generalize cobE C S tx tz=e1 at *
  generalize cobE C.more S tx tz=e2 at *
  generalize tilB C tx tz=b at *
  generalize tilB C.more tx tz=b2 at *
  rw[hmore]at KD
  clear hN hD hS hmore
  obtain⟨t0,ht0⟩:∃ q,q=S.ts.length:=⟨_,rfl⟩
  obtain⟨t1,ht1⟩:∃ q,q=S.bs.length:=⟨_,rfl⟩
  obtain⟨t2,ht2⟩:∃ q,q=S.hs.length:=⟨_,rfl⟩
  rw[←ht0,←ht1,←ht2]at KG KB KD
  rw[←ht0,←ht1,←ht2]
  clear ht0 ht1 ht2
  go_enter Tryz.func7,Tryz.ntmps7
  go_upto_region 1 with fail
  refine Code.at (fun W0 hW=>?_)
  have n0:New w W0:=by subst hW;exact nw
  have hc:CellsAt W0 w.heap.size 0 C.enc:=by subst hW;exact(cells_new w _ _).keep (by exact nw)
  have c7:W0.cell? ⟨w.heap.size+1,0,none⟩=some (.slice S.a0 t0 S.c0):=by subst hW;go_simp
  have c8:W0.cell? ⟨w.heap.size+1,1,none⟩=some (.slice S.a1 t1 S.c1):=by subst hW;go_simp
  have c9:W0.cell? ⟨w.heap.size+1,2,none⟩=some (.slice S.a2 t2 S.c2):=by subst hW;go_simp
  clear hW
  have HC:=Lib.hid (fun W (q:New W0 W)=>And.intro (CfgR.at (hc.keep q)) (And.intro (q.keep c7) (And.intro (q.keep c8) (q.keep c9))))
  have N0:=Lib.hid n0
  have KG0:=KG.out W0 n0
  obtain⟨c0,c1,c2,c3,c4,c5,c6⟩:=CfgR.at hc
  clear hc n0 KG
  go_cut [31] (fun s31 Z=>(∃ bb:Bool,s31=.bool bb∧(bb=false→0≤C.cl∧C.cl<3))∧New W0 Z)
  case first =>
    by_cases q1:C.cl<0
    · have d1:decide (C.cl<0)=true:=decide_eq_true q1
      clear q1
      go_wp2_with fail
      refine KG0.mono ?_
      rintro e w1 ⟨g,rfl,-,n1⟩
      replace c0:=n1.keep c0
      cases g
      all_goals
        go_wp2_with fail
        go_meet
        exact⟨⟨_,rfl,fun h=>(by cases h)⟩,n1⟩
    have d1:decide (C.cl<0)=false:=decide_eq_false q1
    by_cases q2:3≤C.cl
    · have d2:decide (3≤C.cl)=true:=decide_eq_true q2
      clear q1 q2
      go_wp2_with fail
      refine KG0.mono ?_
      rintro e w1 ⟨g,rfl,-,n1⟩
      replace c0:=n1.keep c0
      cases g
      all_goals
        go_wp2_with fail
        go_meet
        exact⟨⟨_,rfl,fun h=>(by cases h)⟩,n1⟩
    have d2:decide (3≤C.cl)=false:=decide_eq_false q2
    have HCL:=Lib.hid (show 0≤C.cl∧C.cl<3 by omega)
    clear q1 q2
    go_wp2_with fail
    refine KG0.mono ?_
    rintro e w1 ⟨g,rfl,-,n1⟩
    replace c0:=n1.keep c0
    cases g
    all_goals
      go_wp2_with fail
      go_meet
      exact⟨⟨_,rfl,fun _=>HCL.out⟩,n1⟩
  case rest =>
    obtain⟨⟨bb,rfl,hcl⟩,n1⟩:=hcut
    clear c0 c1 c2 c3 c4 c5 c6 c7 c8 c9 KG0
    cases bb
    rotate_left
    · have NZ:=N0.out.trans n1
      have KWH:=KW.out _ NZ
      have nn:=NZ
      go_wp2_with fail
      refine KWH.mono ?_
      rintro e wz ⟨rfl,nz⟩
      go_wp2_with fail
      go_ret
      exact⟨rfl,nn.trans nz⟩
    obtain⟨cl1,cl2⟩:=hcl rfl
    have hwr:IntKind.i64.wrap (C.cl+1)=C.cl+1:=IntWalk.i64_in _ (by omega)
    have N1:=Lib.hid n1
    clear hcl n1
    rename World=>Z
    obtain⟨⟨c0,c1,c2,c3,c4,c5,c6⟩,c7,c8,c9⟩:=HC.out _ N1.out
    have hzz:=World.block_lt_of_cell? _ _ c0
    simp only at hzz
    go_upto_region 5 with fail
    refine Code.at (fun W5 hW=>?_)
    have n5:New Z W5:=by subst hW;exact nw
    have dd0:W5.cell? ⟨Z.heap.size,0,none⟩=some (.int .i64 (C.cl+1)):=by subst hW;go_simp
    have dd1:W5.cell? ⟨Z.heap.size,1,none⟩=some (.int .i64 C.cb):=by subst hW;go_simp
    have dd2:W5.cell? ⟨Z.heap.size,2,none⟩=some (.int .i64 C.ht):=by subst hW;go_simp
    have dd3:W5.cell? ⟨Z.heap.size,3,none⟩=some (.int .i64 C.ri):=by subst hW;go_simp
    have dd4:W5.cell? ⟨Z.heap.size,4,none⟩=some (.int .i64 C.ru):=by subst hW;go_simp
    have dd5:W5.cell? ⟨Z.heap.size,5,none⟩=some (.int .i64 C.wd):=by subst hW;go_simp
    have dd6:W5.cell? ⟨Z.heap.size,6,none⟩=some (.int .i64 C.dp):=by subst hW;go_simp
    clear hW hwr cl1 cl2
    have N5:=Lib.hid (N1.out.trans n5)
    have HDD:=Lib.hid (fun W (q:New W5 W)=>And.intro (q.keep dd0) (And.intro (q.keep dd1) (And.intro (q.keep dd2) (And.intro (q.keep dd3) (And.intro (q.keep dd4) (And.intro (q.keep dd5) (q.keep dd6)))))))
    have KB5:=KB.out W5 (N0.out.trans N5.out)
    clear c0 c1 c2 c3 c4 c5 c6 c7 c8 c9 n5 dd0 dd1 dd2 dd3 dd4 dd5 dd6 N1 KB
    obtain⟨⟨c0,c1,c2,c3,c4,c5,c6⟩,c7,c8,c9⟩:=HC.out _ N5.out
    go_wp2_with fail
    refine KB5.mono ?_
    rintro e w6 ⟨G,rfl,hG,hg1,-,n6⟩
    have HG6:=Lib.hid (show RowsK Fl.enc 3 w6 (.slice G.ga G.L.length G.gc) G.L from hG)
    have HGF:=Lib.hid hg1
    have N6:=Lib.hid n6
    clear c0 c1 c2 c3 c4 c5 c6 c7 c8 c9 hG hg1 n6 KB5
    go_upto_region 6 with fail
    refine Code.at (fun W7 hW=>?_)
    have n7:New w6 W7:=by subst hW;exact nw
    have gg0:W7.cell? ⟨w6.heap.size,0,none⟩=some (.int .i64 G.x):=by subst hW;go_simp
    have gg1:W7.cell? ⟨w6.heap.size,1,none⟩=some (.int .i64 G.z):=by subst hW;go_simp
    have gg2:W7.cell? ⟨w6.heap.size,2,none⟩=some (.int .i64 G.w):=by subst hW;go_simp
    have gg3:W7.cell? ⟨w6.heap.size,3,none⟩=some (.int .i64 G.d):=by subst hW;go_simp
    have gg4:W7.cell? ⟨w6.heap.size,4,none⟩=some (.slice G.ga G.L.length G.gc):=by subst hW;go_simp
    clear hW
    have N57:=Lib.hid (N6.out.trans n7)
    have N7:=Lib.hid (N5.out.trans N57.out)
    have HG7:=Lib.hid (HG6.out.keep n7)
    have HGG:=Lib.hid (fun W (q:New W7 W)=>And.intro (q.keep gg0) (And.intro (q.keep gg1) (And.intro (q.keep gg2) (And.intro (q.keep gg3) (q.keep gg4)))))
    have KD7:=KD.out W7 (N0.out.trans N7.out)
    clear n7 gg0 gg1 gg2 gg3 gg4 KD HG6 N6
    obtain⟨-,c7,c8,c9⟩:=HC.out _ N7.out
    obtain⟨d0,d1,d2,d3,d4,d5,d6⟩:=HDD.out _ N57.out
    go_wp2_with fail
    refine KD7.mono ?_
    rintro e w8 ⟨H,rfl,hH,hh1,-,n8⟩
    have HH8:=Lib.hid (show RowsK Fl.enc 3 w8 (.slice H.ga H.L.length H.gc) H.L from hH)
    have HHF:=Lib.hid hh1
    have N8:=Lib.hid n8
    clear d0 d1 d2 d3 d4 d5 d6 c7 c8 c9 hH hh1 n8 KD7 HDD
    go_upto_region 7 with fail
    refine Code.at (fun W9 hW=>?_)
    have n9:New w8 W9:=by subst hW;exact nw
    have hh0:W9.cell? ⟨w8.heap.size,0,none⟩=some (.int .i64 H.x):=by subst hW;go_simp
    have hh1:W9.cell? ⟨w8.heap.size,1,none⟩=some (.int .i64 H.z):=by subst hW;go_simp
    have hh2:W9.cell? ⟨w8.heap.size,2,none⟩=some (.int .i64 H.w):=by subst hW;go_simp
    have hh3:W9.cell? ⟨w8.heap.size,3,none⟩=some (.int .i64 H.d):=by subst hW;go_simp
    have hh4:W9.cell? ⟨w8.heap.size,4,none⟩=some (.slice H.ga H.L.length H.gc):=by subst hW;go_simp
    clear hW
    have N79:=Lib.hid (N8.out.trans n9)
    have N9:=Lib.hid (N7.out.trans N79.out)
    have HG9:=Lib.hid (HG7.out.keep N79.out)
    have HH9:=Lib.hid (HH8.out.keep n9)
    obtain⟨gg0,gg1,gg2,gg3,gg4⟩:=HGG.out _ N79.out
    clear n9 HH8 HG7 HGG N8 N79 HC
    by_cases z1:e1=0
    rotate_left
    · have hne:(e1 != 0)=true:=by rw[bne_iff_ne];exact z1
      clear z1 gg0 gg1 gg2 gg3 gg4 hh0 hh1 hh2 hh3 hh4
      have KWH:=KW.out _ (N0.out.trans N9.out)
      have nn:=N0.out.trans N9.out
      go_wp2_with fail
      refine KWH.mono ?_
      rintro e wz ⟨rfl,nz⟩
      go_wp2_with fail
      go_ret
      exact⟨rfl,nn.trans nz⟩
    by_cases z2:e2=0
    rotate_left
    · have hne:(e2 != 0)=true:=by rw[bne_iff_ne];exact z2
      subst z1
      clear z2 gg0 gg1 gg2 gg3 gg4 hh0 hh1 hh2 hh3 hh4
      have KWH:=KW.out _ (N0.out.trans N9.out)
      have nn:=N0.out.trans N9.out
      go_wp2_with fail
      refine KWH.mono ?_
      rintro e wz ⟨rfl,nz⟩
      go_wp2_with fail
      go_ret
      exact⟨rfl,nn.trans nz⟩
    subst z1
    subst z2
    obtain⟨x1,x2,x3,x4,x5⟩:=HGF.out (by trivial)
    obtain⟨y1,y2,y3,y4,y5⟩:=HHF.out (by trivial)
    obtain⟨l1,l2,l3,l4⟩:=HLS.out (by trivial) (by trivial)
    subst l1
    rw[x1]at gg0
    rw[x2]at gg1
    rw[x3]at gg2
    rw[x4]at gg3
    rw[x5]at gg4 HG9
    rw[y1]at hh0
    rw[y2]at hh1
    rw[y3]at hh2
    rw[y4]at hh3
    rw[y5]at hh4 HH9
    have HL4:=Lib.hid l4
    obtain⟨n,hn⟩:∃ n,n=L.length:=⟨_,rfl⟩
    rw[←hn]at gg4 HG9 l2 l3
    rw[l2]at hh4 HH9
    have HNL:=Lib.hid hn
    have HNM:=Lib.hid l2
    have b0:(b2.x != b2.x)=false:=by simp
    have b1:(b2.z != b2.z)=false:=by simp
    have b3:(b2.w != b2.w)=false:=by simp
    have b4:(b2.d != b2.d)=false:=by simp
    have b5:((n:Int) != (n:Int))=false:=by simp
    have HGC:=Lib.hid (fun W (q:New W9 W)=>q.keep gg4)
    have HHC:=Lib.hid (fun W (q:New W9 W)=>q.keep hh4)
    clear x1 x2 x3 x4 x5 y1 y2 y3 y4 y5 l2 l4 HGF HHF HLS hn
    go_wp2_with fail
    clear gg0 gg1 gg2 gg3 gg4 hh0 hh1 hh2 hh3 hh4 b0 b1 b3 b4 b5
    go_loopg [99] n (fun gk s99 wr=>∃ i:Nat,s99=.int .i64 i∧i≤n∧n - i≤gk∧Hid (New W9 wr))
    case atStart=>exact⟨0,rfl,by omega,by omega,Lib.hid (New.refl _)⟩
    case round =>
      obtain⟨i,rfl,hi,hgk,HNW⟩:=hrel
      by_cases hlt:i<n
      rotate_left
      · obtain rfl:i=n:=by omega
        have KWH:=KW.out _ (N0.out.trans (N9.out.trans HNW.out))
        have nn:=N0.out.trans (N9.out.trans HNW.out)
        go_wp2_with fail
        refine KWH.mono ?_
        rintro e wz ⟨rfl,nz⟩
        go_wp2_with fail
        go_ret
        exact⟨rfl,nn.trans nz⟩
      have HGK:=Lib.hid hgk
      have hiL:i<L.length:=by rw[←HNL.out];exact hlt
      have hiM:i<M.length:=by rw[HNM.out];exact hlt
      obtain⟨bg,og,ag,dg,eg,xg,sg⟩:=(HG9.out.keep HNW.out).at i hiL
      obtain⟨bh,oh,ah,dh,eh,xh,sh⟩:=(HH9.out.keep HNW.out).at i hiM
      have hsub:=HL4.out i hiM hiL
      have hg8:=H81.out i hiL
      have hh8:=H82.out i hiM
      have gg4:=HGC.out _ HNW.out
      have hh4:=HHC.out _ HNW.out
      rw[eg]at gg4
      rw[eh]at hh4
      obtain⟨g,hg⟩:∃ g,g=L[i]:=⟨_,rfl⟩
      obtain⟨h,hh⟩:∃ g,g=M[i]:=⟨_,rfl⟩
      rw[←hg]at xg sg hg8 hsub
      rw[←hh]at xh sh hh8 hsub
      have HSG:=Lib.hid sg
      have HSH:=Lib.hid sh
      have HSUB:=Lib.hid hsub
      obtain⟨m,hm⟩:∃ m,m=h.length:=⟨_,rfl⟩
      obtain⟨k,hk⟩:∃ k,k=g.length:=⟨_,rfl⟩
      rw[←hm]at xh hh8
      rw[←hk]at xg hg8
      have HM:=Lib.hid hm
      have HK:=Lib.hid hk
      have HNR:=Lib.hid (N9.out.trans HNW.out)
      have HXG:=Lib.hid (fun W (q:New wr W)=>And.intro (q.keep gg4) (q.keep xg))
      clear hg hh sg sh hsub hgk hiL hiM hm hk eg eh
      rename World=>wr
      go_wp2_with fail
      clear gg4 hh4 xg xh
      go_loopg [108] m (fun gk s108 wq=>∃ j:Nat,s108=.int .i64 j∧j≤m∧m - j≤gk∧Hid (New wr wq))
      case atStart=>exact⟨0,rfl,by omega,by omega,Lib.hid (New.refl _)⟩
      case round =>
        obtain⟨j,rfl,hj,hgk,HNQ⟩:=hrel
        by_cases hjt:j<m
        rotate_left
        · obtain rfl:j=m:=by omega
          have hgk0:=HGK.out
          go_wp2_with fail
          go_roundg (n - (i+1))
          case measure=>omega
          case rel=>exact⟨i+1,by go_num,by omega,by omega,Lib.hid (HNW.out.trans HNQ.out)⟩
        have HGK2:=Lib.hid hgk
        have hjh:j<h.length:=by rw[←HM.out];exact hjt
        obtain⟨-,-,-,-,hrw⟩:=(HSH.out.keep HNQ.out).row'
        obtain⟨bx,ox,ex,hA⟩:=hrw (by omega)
        obtain⟨a0,a1,a2⟩:=Fl.cells hA j hjh
        have hin:=HSUB.out h[j] (List.getElem_mem hjh)
        obtain⟨f,hf⟩:∃ f,f=h[j]:=⟨_,rfl⟩
        rw[←hf]at a0 a1 a2 hin
        have HIN:=Lib.hid hin
        obtain⟨gg4,xg⟩:=HXG.out _ HNQ.out
        subst ex
        clear hgk hjh hrw hA hin hf
        rename World=>wq
        go_upto_region 17 with fail
        refine Code.at (fun Wf hW=>?_)
        have nf:New wq Wf:=by subst hW;exact nw
        have fa0:Wf.cell? ⟨wq.heap.size,0,none⟩=some (.int .i64 f.y):=by subst hW;go_simp
        have fa1:Wf.cell? ⟨wq.heap.size,1,none⟩=some (.int .i64 f.top):=by subst hW;go_simp
        have fa2:Wf.cell? ⟨wq.heap.size,2,none⟩=some (.int .i64 f.area):=by subst hW;go_simp
        clear hW a0 a1 a2
        have HFA:=Lib.hid (fun W (q:New Wf W)=>And.intro (q.keep fa0) (And.intro (q.keep fa1) (q.keep fa2)))
        replace gg4:=nf.keep gg4
        replace xg:=nf.keep xg
        have HNF:=Lib.hid (HNQ.out.trans nf)
        have hany:(g.take g.length).any f.eqB=true:=by
          rw[List.take_length,List.any_eq_true]
          exact⟨f,HIN.out,(Fl.eqB_iff _ _).2 rfl⟩
        rw[←HK.out]at hany
        have HANY:=Lib.hid hany
        clear nf fa0 fa1 fa2 hany
        go_wp2_with fail
        clear gg4 xg
        go_loopg [118,17] k (fun gk s118 s17 wp=>∃ q:Nat,s118=.int .i64 q∧s17=.bool ((g.take q).any f.eqB)∧q≤k∧k - q≤gk∧Hid (New Wf wp))
        case atStart=>exact⟨0,rfl,by simp,by omega,by omega,Lib.hid (New.refl _)⟩
        case round =>
          obtain⟨q,rfl,rfl,hq,hgk,HNP⟩:=hrel
          by_cases hqt:q<k
          rotate_left
          · obtain rfl:q=k:=by omega
            rw[HANY.out]
            have hgk0:=HGK2.out
            go_wp2_with fail
            go_roundg (m - (j+1))
            case measure=>omega
            case rel=>exact⟨j+1,by go_num,by omega,by omega,Lib.hid (HNF.out.trans HNP.out)⟩
          have hqg:q<g.length:=by rw[←HK.out];exact hqt
          obtain⟨-,-,-,-,hrw⟩:=(HSG.out.keep (HNF.out.trans HNP.out)).row'
          obtain⟨by_,oy,ey,hA⟩:=hrw (by omega)
          obtain⟨a0,a1,a2⟩:=Fl.cells hA q hqg
          obtain⟨f0,f1,f2⟩:=HFA.out _ HNP.out
          have hsn:(g.take (q+1)).any f.eqB=((g.take q).any f.eqB||f.eqB g[q]):=by rw[List.take_succ_eq_append_getElem hqg,List.any_append];simp
          obtain⟨y,hy⟩:∃ y,y=g[q]:=⟨_,rfl⟩
          rw[←hy]at a0 a1 a2 hsn
          have heq:=fun W=>fl_eql W f y
          subst ey
          have HSN:=Lib.hid hsn
          clear hA hrw hy hqg hsn
          cases hb:(g.take q).any f.eqB
          · have hsn:=HSN.out
            rw[hb,Bool.false_or]at hsn
            have HSN2:=Lib.hid hsn
            clear hb hsn HSN
            generalize f.eqB y=r at *
            have hzq:=World.block_lt_of_cell? _ _ f0
            simp only at hzq
            go_wp2_with fail
            go_roundg (k - (q+1))
            case measure=>omega
            case rel=>exact⟨q+1,by go_num,by rw[HSN2.out],by omega,by omega,Lib.hid (by have:=HNP.out;exact nw)⟩
          · have hsn:=HSN.out
            rw[hb,Bool.true_or]at hsn
            have HSN2:=Lib.hid hsn
            clear hb hsn HSN heq
            go_wp2_with fail
            go_roundg (k - (q+1))
            case measure=>omega
            case rel=>exact⟨q+1,by go_num,by rw[HSN2.out],by omega,by omega,Lib.hid (by have:=HNP.out;exact nw)⟩
end Go.Proofs.YtmhghnbgllaihaaGreatDoor
