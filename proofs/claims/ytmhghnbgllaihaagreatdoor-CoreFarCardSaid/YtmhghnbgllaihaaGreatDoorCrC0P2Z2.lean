import Derived.Test.YtmhghnbgllaihaaGreatDoorOgX0P2Z2
import Derived.Test.YtmhghnbgllaihaaGreatDoorArCP2Z2
import Derived.Test.YtmhghnbgllaihaaGreatDoorRaLP2Z2
import Derived.Maps.AppendAt
import Derived.Test.YtmhghnbgllaihaaGreatDoorArDP2Z2
import Derived.Test.YtmhghnbgllaihaaGreatDoorLooseEP2Z2
import Derived.Test.YtmhghnbgllaihaaGreatDoorLkGP2Z2
import Derived.Test.YtmhghnbgllaihaaGreatDoorRaQP2Z2
import Derived.Test.YtmhghnbgllaihaaGreatDoorOgIP2Z2
import Derived.Test.YtmhghnbgllaihaaGreatDoorSoETP2Z2
set_option linter.unusedVariables false
set_option maxHeartbeats 16000000
set_option maxRecDepth 100000

namespace Go.Proofs.YtmhghnbgllaihaaGreatDoor
open Go.RowKit Go.Shelf Go.Sort
attribute [local go_sem] Oper.semAt_some
theorem ar_rows_info:(Tryz.prog.info? 54).map (fun i=>(i.zero,i.size,i.bytes))=some (some (.slice none 0 0),1,24):=by kernel_rfl
theorem ar_fl_info:(Tryz.prog.info? 56).map (fun i=>(i.zero,i.size,i.bytes))=some (some (.agg #[.int .i64 0,.int .i64 0,.int .i64 0]),3,24):=by kernel_rfl
theorem ar_fl_new (w:World) (f:Fl) (t:TypeId) (q:Nat) (u:Value) (h:f.enc[q]? = some u):(w.alloc (.cells #[.int .i64 f.y,.int .i64 f.top,.int .i64 f.area] t)).cell? ((⟨w.heap.size,0,none⟩:Addr).add q)=some u:=by
 have hz:=World.alloc_heap_new w (.cells #[.int .i64 f.y,.int .i64 f.top,.int .i64 f.area] t)
 have hq:q<3:=(List.getElem?_eq_some_iff.1 h).1
 rcases(show q=0∨q=1∨q=2 by omega)with rfl|rfl|rfl <;> (simp[Fl.enc]at h;subst h;exact cell_of_heap hz rfl)
theorem allG_small {G:Gd} (hE:gE G=0):(allG G).length≤100000:=by
 have hb:=placeB_iff.1 (gd_is hE).1
 have h1:=mul_64 hb.2.2.1.1 hb.2.2.1.2 hb.2.2.2.1 hb.2.2.2.2
 have h2:=(gd_is hE).2.1
 have h3:=stTo_len hE G.L.length
 unfold allG
 omega
theorem st_ix {G:Gd} (hE:gE G=0) {s:St} (h:s∈allG G):ixS G s<G.L.length∧IntKind.i64.wrap (s.z - G.z)=s.z - G.z∧IntKind.i64.wrap ((s.z - G.z)*G.w)=(s.z - G.z)*G.w∧IntKind.i64.wrap ((s.z - G.z)*G.w+s.x)=(s.z - G.z)*G.w+s.x∧IntKind.i64.wrap ((s.z - G.z)*G.w+s.x - G.x)=(ixS G s:Int):=by
 obtain⟨i,f,hi,-,rfl⟩:=st_mem hE h
 have hb:=placeB_iff.1 (gd_is hE).1
 have hl:=(gd_is hE).2.1
 obtain⟨wN,hw⟩:∃ wN:Nat,G.w=wN:=⟨G.w.toNat,by omega⟩
 obtain⟨dN,hd⟩:∃ dN:Nat,G.d=dN:=⟨G.d.toNat,by omega⟩
 have hwt:G.w.toNat=wN:=by omega
 have hln:G.L.length=wN*dN:=by
  rw[hw,hd]at hl
  exact Int.ofNat.inj (by rw[←Int.natCast_mul]at hl;exact hl)
 have hw0:0<wN:=by
  rcases Nat.eq_zero_or_pos wN with q|q
  ·rw[q,Nat.zero_mul]at hln;omega
  ·exact q
 have hdiv:i / wN<dN:=Nat.div_lt_of_lt_mul (by rw[←hln];exact hi)
 have hmod:i % wN<wN:=Nat.mod_lt _ hw0
 have hst:stOf G i f=⟨G.x+((i % wN:Nat):Int),G.z+((i / wN:Nat):Int),f.y,f⟩:=by unfold stOf;rw[hwt]
 generalize i / wN=iz at *
 generalize i % wN=ix at *
 have hin:inG G (G.x+(ix:Int)) (G.z+(iz:Int))=true:=inG_iff.2 (by omega)
 obtain⟨q1,q2,q3,q4⟩:=ixG_is hE hin
 unfold ixS
 rw[hst]
 simp only
 have e1:IntKind.i64.wrap (G.z+(iz:Int) - G.z)=G.z+(iz:Int) - G.z:=IntWalk.i64_in _ (by omega)
 refine⟨q4,e1,IntWalk.i64_in _ (by omega),IntWalk.i64_in _ (by omega),?_⟩
 rw[q3,IntWalk.i64_in _ (by omega)]
 omega
theorem wpIn_act2 {F:Fence} {n:Nat} {P:Program} {c:Code} {Q:Exit→Act→World→Prop} {a:Act} {w:World} (h:∀ A,A=a→c.wpIn F n P Q A w):c.wpIn F n P Q a w:=h a rfl
theorem ar_marked (G:Gd) (hE:gE G=0) (at0:Option Addr) (l:List BoxR) (cap:Nat) (hl:l.length≤maxLen) (w:World) (hG:G.ok w) (H:RowIn BoxR.enc 8 w at0 l) :
  Calls Tryz.prog 113 #[.agg #[.int .i64 G.x,.int .i64 G.z,.int .i64 G.w,.int .i64 G.d,.slice G.ga G.L.length G.gc],.slice at0 l.length cap] w fun e w'=>∃ v,e=.returned v∧RowsN Fl.enc 3 54 56 w.heap.size w' v (markL G l)∧New w w':=by
 obtain⟨i0,hi,hz0,hz1,hz2⟩:=info_parts ar_rows_info
 have hcol:colG G=G:=by unfold colG;rw[if_pos hE]
 have KA:=Lib.hid (fun W n=>by have:=og_All G W (hG.keep (n:New w W));rw[hcol]at this;exact this)
 have KO:=Lib.hid (fun(s:St) W n=>ar_Of at0 l cap s.x s.z s.y hl W (H.keep (n:New w W)))
 have HL1:=Lib.hid (allG_small hE)
 have HIX:=Lib.hid (fun s (h:s∈allG G)=>st_ix hE h)
 have HALL:=Lib.hid (fun j (h:j<G.L.length)=>colS_all hE l h)
 have hml:markL G l=(List.range G.L.length).map (markC G l):=rfl
 rw[hml]
 have hn4:G.L.length≤4096:=by
  have hb:=placeB_iff.1 (gd_is hE).1
  have:=mul_64 hb.2.2.1.1 hb.2.2.1.2 hb.2.2.2.1 hb.2.2.2.2
  have:=(gd_is hE).2.1
  omega
 obtain⟨n,hn⟩:∃ q,q=G.L.length:=⟨_,rfl⟩
 obtain⟨ln,hln⟩:∃ q,q=l.length:=⟨_,rfl⟩
 rw[←hn]at KA HIX HALL hn4 ⊢
 rw[←hln]at KO ⊢
 clear hn hln hl hG H hE hml hcol
 refine(callsIn_wide (n:=9)).1 ?_
 refine callsIn_of_wp_marks Tryz.func113 rfl trivial ?_ rfl
 simp only[Tryz.ntmps113,List.size_toArray,List.length_cons,List.length_nil,Nat.reduceAdd,Nat.reduceSub,Array.replicate_succ,Array.replicate_zero,List.push_toArray,List.append_toArray,List.nil_append,List.cons_append]
 refine wpIn_wide.2 ?_
 go_upto_region 2 with fail
 refine Code.at (fun W0 hW=>?_)
 have n0:New w W0:=by subst hW;exact nw
 have z0:W0.heap.size=w.heap.size+3:=by subst hW;simp
 have bg:W0.heap[w.heap.size]? = some (.cells #[.int .i64 G.x,.int .i64 G.z,.int .i64 G.w,.int .i64 G.d,.slice G.ga n G.gc] 37 (0,0)):=by
  subst hW
  exact(((New.refl _).alloc _).alloc _).stays (World.alloc_heap_new w _)
 have bl:Boxed W0 (w.heap.size+1) 25 (.slice at0 ln cap):=by
  subst hW
  have h:=World.alloc_heap_new (w.alloc (.cells #[.int .i64 G.x,.int .i64 G.z,.int .i64 G.w,.int .i64 G.d,.slice G.ga n G.gc] 37)) (.cells #[.slice at0 ln cap] 25)
  rw[World.size_alloc]at h
  exact((New.refl _).alloc _).stays h
 have bc:Boxed W0 (w.heap.size+1+1) 35 (.slice none 0 0):=by
  subst hW
  have h:=World.alloc_heap_new ((w.alloc (.cells #[.int .i64 G.x,.int .i64 G.z,.int .i64 G.w,.int .i64 G.d,.slice G.ga n G.gc] 37)).alloc (.cells #[.slice at0 ln cap] 25)) (.cells #[.slice none 0 0] 35)
  rw[World.size_alloc,World.size_alloc]at h
  exact h
 clear hW
 have g4:W0.cell? ⟨w.heap.size,4,none⟩=some (.slice G.ga n G.gc):=cell_of_heap bg rfl
 obtain⟨Bg,hBg⟩:∃ q,q=w.heap.size:=⟨_,rfl⟩
 obtain⟨Bl,hBl⟩:∃ q,q=w.heap.size+1:=⟨_,rfl⟩
 obtain⟨P,hP⟩:∃ q,q=w.heap.size+1+1:=⟨_,rfl⟩
 rw[←hBl]at bl
 rw[←hP]at bc
 rw[←hBg]at bg g4
 rw[←hP,←hBl,←hBg]
 obtain⟨b0,hb0⟩:∃ q,q=W0.heap.size:=⟨_,rfl⟩
 have HB:=Lib.hid (And.intro hBg (And.intro hBl (And.intro hP (show b0=w.heap.size+3 by omega))))
 have HBG:=Lib.hid bg
 have HBL:=Lib.hid bl
 have hb0':b0≤W0.heap.size:=by omega
 clear hBg hBl hP z0 bg bl hb0
 go_wp2_with fail
 clear g4
 go_loopg [12] n (fun gk s12 wr=>∃ (i:Nat) (ra:Option Addr) (rn rc:Nat),s12=.int .i64 i∧i≤n∧n - i≤gk∧Hid (wr.ownsRow b0 54 1 (.slice ra rn rc) i (List.replicate i (.slice none 0 0)))∧Hid (Boxed wr P 35 (.slice ra rn rc))∧Hid (Bar b0 P W0 wr)∧Hid (New w wr))
 case atStart=>exact⟨0,none,0,0,rfl,by omega,by omega,Lib.hid (World.ownsRow_nil _ _ _ _),Lib.hid bc,Lib.hid (Bar.refl hb0'),Lib.hid n0⟩
 case round =>
  clear bc n0 hb0'
  obtain⟨i,ra,rn,rc,rfl,hi',hgk,HOW,HBX,HBA,HNW⟩:=hrel
  have c5:=HBX.out.cell
  have hPz:=HBX.out.lt
  have hbs:=HBA.out.1
  by_cases hlt:i<n
  ·have HOWA:=Lib.hid (own_new HOW.out (show New wr (wr.alloc (.cells #[.slice none 0 0] 54)) by exact nw))
   go_upto_region 5 with (at_builtin;refine wpList_append_own_at _ rfl _ _ 35 rfl b0 54 i0 (.slice none 0 0) 1 24 Tryz.underlying35 hi hz0 hz1 hz2 rfl (by decide) _ _ _ rfl HOWA.out ⟨wr.heap.size,0,none⟩ 1 1 [.slice none 0 0] rfl rfl (by intro j u hj;cases j with|zero=>(simp at hj;subst hj;exact cell_of_heap (heap_new _ _) rfl)|succ j=>simp at hj) (by intro u hu;rw[List.mem_singleton]at hu;subst hu;rfl) (by unfold maxLen;omega) (by omega) (by simp;omega) ?_;intro v' w4 hown' hgrow _ hat;obtain⟨a',d',N',hN',rfl⟩:=own_shape2 hown';clear hN';have hb4:=(Boxed.alloc HBX.out (.cells #[.slice none 0 0] 54)).kept hgrow (HBX.out.not_row (by decide) HOW.out);have c5:=hb4.cell;have f5:=hb4.frozen)
   refine Code.at (fun W9 hW=>?_)
   have hrow:∀ r,(Value.slice ra rn rc).ownBlock=some r→b0≤r:=fun r e=>own_block HOW.out r e
   have hA4:New wr (wr.alloc (.cells #[.slice none 0 0] 54)):=by exact nw
   have bar9:Hid (Bar b0 P W0 W9):=Lib.hid (by
    subst hW
    exact((HBA.out.new hA4).grown hgrow hrow).set 0 _)
   have new9:Hid (New w W9):=Lib.hid (by
    subst hW
    exact New.setB (p:=⟨P,0,none⟩) (by show w.heap.size≤P;have:=HB.out;omega) (newGrown (HNW.out.trans hA4) hgrow (fun r e=>by have:=hrow r e;have:=HB.out;omega)) _)
   have box9:Hid (Boxed W9 P 35 (.slice a' N' d')):=Lib.hid (by subst hW;exact hb4.set _)
   have own9:Hid (W9.ownsRow b0 54 1 (.slice a' N' d') (i+1) (List.replicate (i+1) (.slice none 0 0))):=Lib.hid (by
    subst hW
    rw[List.replicate_succ']
    exact ownsRow_setCell_below hown' (a:=⟨P,0,none⟩) (by show P<b0;have:=HB.out;omega) _)
   clear hW hgrow hat hown' hb4 c5 f5 hrow hA4 HOWA
   go_wp2_with fail
   go_roundg (n - (i+1))
   case measure=>omega
   case rel=>exact⟨i+1,a',N',d',by go_num,by omega,by omega,own9,box9,bar9,new9⟩
  ·obtain rfl:i=n:=by omega
   clear c5 hPz hgk
   have q0:wr.heap[Bg]? = some (.cells #[.int .i64 G.x,.int .i64 G.z,.int .i64 G.w,.int .i64 G.d,.slice G.ga i G.gc] 37 (0,0)):=HBA.out.blk (by have:=HB.out;omega) (by have:=HB.out;omega) HBG.out
   have g0:=cell_of_heap (o:=0) q0 rfl
   have g1:=cell_of_heap (o:=1) q0 rfl
   have g2:=cell_of_heap (o:=2) q0 rfl
   have g3:=cell_of_heap (o:=3) q0 rfl
   have g4:=cell_of_heap (o:=4) q0 rfl
   clear q0
   go_wp2_with fail
   refine(KA.out _ HNW.out).mono ?_
   rintro e W6 ⟨n6,B,at1,cap1,rfl,hSt,hSb⟩
   clear g0 g1 g2 g3 g4 KA
   obtain⟨A0,cap2,hGr,hv0,hvz,hA0,hAS,hAb,hAP⟩:∃ A0 cap2,Gr Fl.enc 3 54 56 W6 W6.heap.size A0 i (colS G l [])∧(0<i→Value.slice ra rn rc=.slice (some ⟨A0,0,none⟩) i cap2∧i≤cap2∧cap2≤maxLen)∧(i=0→Sl oneV 1 W6 (.slice ra rn rc) []∧W6.heap.size≤A0)∧w.heap.size≤A0∧(∀ b∈stS B at1 (allG G),b≠A0)∧b0≤A0∧(A0<W6.heap.size∨i=0):=by
    rcases Nat.eq_zero_or_pos i with e|h0
    ·subst e
     have hlt:=hSt.in_lt
     refine⟨W6.heap.size+5,0,fun h=>absurd h (by omega),fun h=>absurd h (by omega),fun _=>⟨(own_sl (enc:=oneV) (k:=1) (l:=[]) (fun _=>rfl) HOW.out).keep n6,by omega⟩,?_,fun b hb=>by have:=hlt b hb;omega,?_,.inr rfl⟩
     ·have:=HNW.out.size;have:=n6.size;omega
     ·have:=HBA.out.1;have:=n6.size;omega
    ·obtain⟨A0,cap2,e,h1,h2,h3,h4,h5⟩:=gr_nil (enc:=Fl.enc) (k:=3) (tS:=56) (n0:=W6.heap.size) HOW.out h0
     refine⟨A0,cap2,h5.new n6,fun _=>⟨e,h3,h4⟩,fun h=>absurd h (by omega),?_,fun b hb=>by have:=hSb b hb;omega,h1,.inl (by have:=n6.size;omega)⟩
     have:=HB.out
     omega
   have HVB:Hid (∀ b,(Value.slice ra rn rc).ownBlock=some b→w.heap.size≤b∧∃ cs,W6.heap[b]? = some (.cells cs 54 (0,0))):=Lib.hid (fun b hb=>by
    obtain⟨cur,hc,hbb⟩:=gr_cells HOW.out hb
    exact⟨by have:=HB.out;omega,cur,New.stays n6 hc⟩)
   have HN6:=Lib.hid (HNW.out.trans n6)
   have HBA6:=Lib.hid (HBA.out.new n6)
   have HBX6:=Lib.hid (New.stays n6 HBX.out)
   have hSlt:=hSt.in_lt
   have hrn:Hid (0<i→rn=i):=Lib.hid (fun h=>by have:=(hv0 h).1;injection this)
   have HV0:=Lib.hid (And.intro hv0 hvz)
   have HAA:=Lib.hid (And.intro hA0 (And.intro hAb hAP))
   have HAS:=Lib.hid hAS
   have hL1:=HL1.out
   have HSeq:=Lib.hid (og_all1 at1 (allG G) cap1 B hL1 8 (by omega) W6 hSt)
   have HGr:=Lib.hid hGr
   clear n6 hSt hSb hGr hv0 hvz hA0 hAS hAb hAP HBX HBA HNW HOW hbs hL1
   obtain⟨n0,hn0⟩:∃ q,q=W6.heap.size:=⟨_,rfl⟩
   rw[←hn0]at hSlt HGr
   have HN0:=Lib.hid hn0
   have HLT:Hid (Bg<n0∧Bl<n0∧P<n0):=Lib.hid (by have h1:=HBA6.out.1;have:=HB.out;omega)
   clear hn0
   obtain⟨S,hS⟩:∃ S,S=allG G:=⟨_,rfl⟩
   rw[←hS]at HSeq HIX hSlt HAS HALL HL1
   have HSS:=Lib.hid hS
   clear hS
   go_wp2_with fail
   refine(wpIn_wide (n:=9)).1 ?_
   refine wpIn_act2 fun A hA=>?_
   refine wpIn_rangeL rfl (by omega) (gf:=174) (lb:=#[.pointer (some ⟨B,0,none⟩)]) (by rw[hA];rfl) trivial (enters_of Tryz.func174 (by kernel_rfl) rfl) HSeq.out (fun h k=>h.trans k)
    (fun U o hr=>fun b hb=>World.putObj_heap_other (by have:=hSlt b hb;have:=HN0.out;omega)) (Below.refl _ _) (fun _=>rfl)
    (fun i' U=>Bar n0 A0 W6 U∧(Below w.heap.size w U∧Gr Fl.enc 3 54 56 U n0 A0 i (colS G l (S.take i'))))
    (fun _ _ _=>False)
    (OwnFrom.and (Bar.own (Nat.le_of_eq HN0.out)) (OwnFrom.and (ownFrom_below (Nat.le_refl _) HN6.out.size) (gr_own _ _ _ _ _ _ _ _ (fun i'=>colS G l (S.take i')))))
    (fun _ _ _ _ _ hs _ _=>hs)
    ⟨Bar.refl (Nat.le_of_eq HN0.out),HN6.out,by rw[List.take_zero];exact HGr.out⟩
    (fun i' a' U=>∃ (s:St) (Q1 Q2:Nat) (cs:Array Value),S[i']? = some s∧n0≤Q1∧Q1<Q2∧U.heap[Q1]? = some (.cells #[.int .i64 s.x,.int .i64 s.z,.int .i64 s.y] 93 (0,0))∧U.heap[Q2]? = some (.cells #[.int .i64 s.f.y,.int .i64 s.f.top,.int .i64 s.f.area] 56 (0,0))∧U.heap[A0]? = some (.cells cs 54 (0,0))∧(∀ k v,k<i→cs[k]? = some v→v.ownBlock≠some Q2)∧a'={ tmps:=(((A.tmps.setIfInBounds 20 (.agg #[.int .i64 s.x,.int .i64 s.z,.int .i64 s.y])).setIfInBounds 21 (.agg #[.int .i64 s.f.y,.int .i64 s.f.top,.int .i64 s.f.area])).setIfInBounds 6 (.pointer (some ⟨Q1,0,none⟩))).setIfInBounds 7 (.pointer (some ⟨Q2,0,none⟩)),defers:=[] })
    ?hAx ?assign ?body ?done ?stop
   case hAx =>
    rintro i' a' _ X Y row ⟨s,Q1,Q2,cs,h1,h2,h3,h4,h5,h6,h7,rfl⟩ hg hr
    exact⟨s,Q1,Q2,cs,h1,h2,h3,own_blk (β:=Unit) Q1 _ () X Y row h4 hg hr,own_blk (β:=Unit) Q2 _ () X Y row h5 hg hr,own_blk (β:=Unit) A0 _ () X Y row h6 hg hr,h7,rfl⟩
   case assign =>
    intro i' hi' U K hI hK
    generalize hkk:S[i']=s
    have hsm:s∈S:=by rw[←hkk];exact List.getElem_mem hi'
    have hip:0<i:=Nat.lt_of_le_of_lt (Nat.zero_le _) (HIX.out s hsm).1
    simp only[stA]
    rw[hA]
    simp only[List.zip_toArray,List.zip_cons_cons,List.zip_nil_right,List.foldl_toArray',List.foldl_cons,List.foldl_nil,List.setIfInBounds_toArray,List.set_cons_succ,List.set_cons_zero,List.size_toArray,List.length_cons,List.length_nil]
    gi_wp2
    obtain⟨hBr,hB,hGU⟩:=hI
    obtain⟨Q1,hQ1⟩:∃ q,q=U.heap.size:=⟨_,rfl⟩
    obtain⟨Q2,hQ2⟩:∃ q,q=U.heap.size+1:=⟨_,rfl⟩
    have nU:New U ((U.alloc (.cells #[.int .i64 s.x,.int .i64 s.z,.int .i64 s.y] 93)).alloc (.cells #[.int .i64 s.f.y,.int .i64 s.f.top,.int .i64 s.f.area] 56)):=by exact nw
    have q1:((U.alloc (.cells #[.int .i64 s.x,.int .i64 s.z,.int .i64 s.y] 93)).alloc (.cells #[.int .i64 s.f.y,.int .i64 s.f.top,.int .i64 s.f.area] 56)).heap[U.heap.size]? = some (.cells #[.int .i64 s.x,.int .i64 s.z,.int .i64 s.y] 93 (0,0)):=((New.refl _).alloc _).stays (World.alloc_heap_new U _)
    have q2:((U.alloc (.cells #[.int .i64 s.x,.int .i64 s.z,.int .i64 s.y] 93)).alloc (.cells #[.int .i64 s.f.y,.int .i64 s.f.top,.int .i64 s.f.area] 56)).heap[U.heap.size+1]? = some (.cells #[.int .i64 s.f.y,.int .i64 s.f.top,.int .i64 s.f.area] 56 (0,0)):=by
     have h:=World.alloc_heap_new (U.alloc (.cells #[.int .i64 s.x,.int .i64 s.z,.int .i64 s.y] 93)) (.cells #[.int .i64 s.f.y,.int .i64 s.f.top,.int .i64 s.f.area] 56)
     rw[World.size_alloc]at h
     exact h
    obtain⟨vs,hv⟩:=hGU hip
    obtain⟨cs,a1,a2,a3⟩:=hv.arr
    rw[←hQ1]at q1
    rw[←hQ2]at q2
    rw[←hQ2,←hQ1]
    have hBs:=hB.size
    have hBr1:=hBr.1
    refine hK _ _ (keepsFrom_new nU) (KeepS.new (fun b hb=>by have:=hSlt b hb;omega) nU) ⟨hBr.new nU,New.trans (show New w U from hB) nU,hGU.new nU⟩ ⟨s,Q1,Q2,cs,by rw[List.getElem?_eq_getElem hi',hkk],by omega,by omega,q1,q2,New.stays nU a1,fun k v hk hkv hvb=>?_,by rw[hA];simp only[List.setIfInBounds_toArray,List.set_cons_succ,List.set_cons_zero]⟩
    have e2:v=vs k:=Option.some.inj (hkv.symm.trans (a3 k hk))
    rw[e2]at hvb
    have:=((hv.rows k hk).lt _ hvb).2
    omega
   case body =>
    rintro i' hi' a' U - ⟨hBr,hB,hGU⟩ ⟨s,Q1,Q2,cs,hs,hq1,hq12,q1,q2,qa,hno,rfl⟩
    rw[hA]
    simp only[List.setIfInBounds_toArray,List.set_cons_succ,List.set_cons_zero]
    have hsi:S[i']=s:=by rw[List.getElem?_eq_getElem hi']at hs;exact Option.some.inj hs
    have hsm:s∈S:=by rw[←hsi];exact List.getElem_mem hi'
    have htk:S.take (i'+1)=S.take i'++[s]:=by rw[List.take_succ_eq_append_getElem hi',hsi]
    obtain⟨x1,x2,x3,x4,x5⟩:=HIX.out s hsm
    have HTK:=Lib.hid htk
    have hip:0<i:=Nat.lt_of_le_of_lt (Nat.zero_le _) x1
    obtain⟨vs,hv⟩:=hGU hip
    have hcsv:cs=cs:=rfl
    have hnv:∀ j,j<i→(vs j).ownBlock≠some Q2:=by
     obtain⟨cs',a1,a2,a3⟩:=hv.arr
     have e1:cs'=cs:=by rw[qa]at a1;injection a1 with a1;injection a1 with a1;exact a1.symm
     subst e1
     exact fun j hj=>hno j _ hj (a3 j hj)
    have hA2:Q2≠A0:=fun e=>by
     subst e
     rw[q2]at qa
     injection qa with qa
     injection qa with _ qa
     exact absurd qa (by decide)
    have hBn:New w U:=hB
    have hUs:=hBr.1
    have hlt:=HLT.out
    have hAA:=HAA.out
    have qg:U.heap[Bg]? = some (.cells #[.int .i64 G.x,.int .i64 G.z,.int .i64 G.w,.int .i64 G.d,.slice G.ga i G.gc] 37 (0,0)):=hBr.blk hlt.1 (by have:=HB.out;omega) (HBA6.out.blk (by have:=HB.out;omega) (by have:=HB.out;omega) HBG.out)
    have ql:Boxed U Bl 25 (.slice at0 ln cap):=hBr.blk hlt.2.1 (by have:=HB.out;omega) (HBA6.out.blk (by have:=HB.out;omega) (by have:=HB.out;omega) HBL.out)
    have qp:Boxed U P 35 (.slice ra rn rc):=hBr.blk hlt.2.2 (by have:=HB.out;omega) HBX6.out
    have HBr:=Lib.hid hBr
    have HBn:=Lib.hid hBn
    have HNV:=Lib.hid (And.intro hnv (And.intro hA2 (And.intro hq1 hq12)))
    have HV:=Lib.hid hv
    have HQ:=Lib.hid (fun W (q:New U W)=>And.intro (New.stays q q1) (And.intro (New.stays q q2) (And.intro (New.stays q qg) (New.stays q qp))))
    have HKS:=Lib.hid (fun s W n=>KO.out s W n)
    have p0:U.cell? ⟨Q1,0,none⟩=some (.int .i64 s.x):=cell_of_heap q1 rfl
    have p1:U.cell? ⟨Q1,1,none⟩=some (.int .i64 s.z):=cell_of_heap q1 rfl
    have p2:U.cell? ⟨Q1,2,none⟩=some (.int .i64 s.y):=cell_of_heap q1 rfl
    have l0:=ql.cell
    clear hv hnv hA2 hBn hlt hAA qg ql qp q1 q2 qa hno hs hsi hsm htk hBr hB hGU hcsv hip
    gi_wp2_with (refine⟨trivial,?_⟩;gi_at_call 139;refine(callsIn_in (KO.out s _ HBn.out)).mono ?_;rintro e U2 ⟨rfl,n3⟩;(obtain⟨q1,q2,qg,qp⟩:=HQ.out _ n3);(have y2:=cell_of_heap (o:=2) q2 rfl);(have f2:U2.frozen? ⟨Q2,2,none⟩=false:=frozen_of_heap q2);(have p0:=cell_of_heap (o:=0) q1 rfl);(have p1:=cell_of_heap (o:=1) q1 rfl);(have g0:=cell_of_heap (o:=0) qg rfl);(have g1:=cell_of_heap (o:=1) qg rfl);(have g2:=cell_of_heap (o:=2) qg rfl);have hq12:Q1≠Q2:=(by omega);have hq13:Bg≠Q2:=(by have:=HLT.out;omega))
    obtain⟨hnv,hA2,hq1,hq12'⟩:=HNV.out
    have hip:0<i:=by omega
    have hgs:U2.grownBy (U2.setCell ⟨Q2,2,none⟩ (.int .i64 (ofX l s.x s.z s.y))) (some Q2):=⟨rfl,rfl,rfl,by simp[World.setCell],fun k _ hk=>Below.heap_setCell _ _ _ _ (fun e=>hk (congrArg some (show k=Q2 from e)))⟩
    have hv:=(HV.out.new n3).other hgs hA2 hnv
    rw[(HV0.out.1 hip).1]at qp
    have qp8:(U2.setCell ⟨Q2,2,none⟩ (.int .i64 (ofX l s.x s.z s.y))).heap[P]? = some (.cells #[.slice (some ⟨A0,0,none⟩) i cap2] 35 (0,0)):=(hgs.block P (Array.getElem?_eq_some_iff.1 qp).1 (fun e=>by injection e with e;have:=HLT.out;omega)).trans qp
    have qf:=heap_setCell_same U2 Q2 2 _ _ (.int .i64 (ofX l s.x s.z s.y)) q2
    have hbar:=(HBr.out.new n3).above (show n0≤Q2 by omega) 2 (.int .i64 (ofX l s.x s.z s.y))
    have hnew:New w (U2.setCell ⟨Q2,2,none⟩ (.int .i64 (ofX l s.x s.z s.y))):=New.setB (p:=⟨Q2,2,none⟩) (by have:=HN6.out.size;have:=HN0.out;show w.heap.size≤Q2;omega) (HBn.out.trans n3) _
    have hkf:KeepsOthers U (U2.setCell ⟨Q2,2,none⟩ (.int .i64 (ofX l s.x s.z s.y))):=(show KeepsOthers U U2 from⟨n3.size,fun k o hk _=>New.stays n3 hk⟩).trans (KeepsOthers.setCell _ _ _)
    have hks:KeepS (stS B at1 S) U (U2.setCell ⟨Q2,2,none⟩ (.int .i64 (ofX l s.x s.z s.y))):=fun b hb=>by
     have h1:=hSlt b hb
     exact(Below.heap_setCell _ _ _ _ (show b≠Q2 by omega)).trans (n3.block b (by omega))
    clear q1 q2 qg qp y2 f2 p0 p1 g0 g1 g2 p2 l0 hgs n3
    generalize hW':U2.setCell ⟨Q2,2,none⟩ (.int .i64 (ofX l s.x s.z s.y))=W' at *
    clear hW'
    obtain⟨f,hf⟩:∃ f,f=mkX l s:=⟨_,rfl⟩
    have hfy:s.f.y=f.y:=by rw[hf];rfl
    have hft:s.f.top=f.top:=by rw[hf];rfl
    have hfa:ofX l s.x s.z s.y=f.area:=by rw[hf];rfl
    have HF:=Lib.hid hf
    have y0:W'.cell? ⟨Q2,0,none⟩=some (.int .i64 f.y):=by rw[←hfy];exact cell_of_heap qf rfl
    have y1:W'.cell? ⟨Q2,1,none⟩=some (.int .i64 f.top):=by rw[←hft];exact cell_of_heap qf rfl
    have y2:W'.cell? ⟨Q2,2,none⟩=some (.int .i64 f.area):=by rw[←hfa];exact cell_of_heap qf rfl
    clear hfy hft hfa hf
    have hqf:∃ cs',W'.heap[Q2]? = some (.cells cs' 56 (0,0)):=⟨_,qf⟩
    clear qf
    have q8:=cell_of_heap (o:=0) (v:=.slice (some ⟨A0,0,none⟩) i cap2) qp8 rfl
    obtain⟨qG,fG⟩:=hv.cell x1
    have hll:(colS G l (S.take i') (ixS G s)).length≤100000:=by
     refine Nat.le_trans (colS_len _ _ _ _) ?_
     have:=HL1.out
     rw[List.length_take]
     omega
    obtain⟨i1,hi1,hs0,hs1,hs2⟩:=info_parts ar_fl_info
    have hrow:=hv.rows (ixS G s) x1
    have nB:some Q2≠(vs (ixS G s)).ownBlock:=fun h=>hnv _ x1 h.symm
    have nG:some A0≠(vs (ixS G s)).ownBlock:=fun h=>by
     obtain⟨cur,hc,-⟩:=gr_cells hrow h.symm
     obtain⟨cs',q1,-,-⟩:=hv.arr
     rw[q1]at hc
     injection hc with hc
     injection hc with _ hc
     exact absurd hc (by decide)
    have nP:some P≠(vs (ixS G s)).ownBlock:=fun h=>by
     have:=own_block hrow P h.symm
     have:=HLT.out
     omega
    have HV2:=Lib.hid (And.intro hv (And.intro hbar (And.intro hnew (And.intro hkf hks))))
    have HR:=Lib.hid hrow
    have hWs:=hbar.1
    clear hv hbar hnew hkf hks hqf qp8 hrow hnv HNV
    obtain⟨va,hva⟩:∃ va,va=vs (ixS G s):=⟨_,rfl⟩
    rw[←hva]at qG nB nG nP HR
    have HVA:=Lib.hid hva
    clear hva
    obtain⟨x,hx⟩:∃ x,x=ixS G s:=⟨_,rfl⟩
    rw[←hx]at qG HR x1 hll HVA ⊢
    have HX:=Lib.hid hx
    clear hx x2 x3 x4 x5
    refine wpIn_region_loose 9 (fun j w1 w2=>if j=8 then w1.grownBy w2 va.ownBlock else New w1 w2) (fun listed w1=>W'.grownBy w1 va.ownBlock∧(listed.getD 8 false=false→New W' w1)) (fun i2 w' v=>match i2 with
     | 0=>v=.slice (some ⟨A0,0,none⟩) i cap2
     | 1=>v=.int .i64 x
     | 2=>v=.slice (some ⟨A0,0,none⟩) i cap2
     | 3=>v=.int .i64 x
     | 4=>v=.pointer (some ⟨A0,x,none⟩)
     | 5=>v=va
     | 6=>v=.agg #[.int .i64 f.y,.int .i64 f.top,.int .i64 f.area]
     | 7=>∃ p,v=.slice (some ⟨p,0,none⟩) 1 1∧some p≠va.ownBlock∧∀ q u,f.enc[q]? = some u→w'.cell? ((⟨p,0,none⟩:Addr).add q)=some u
     | 8=>w'.ownsRow n0 56 3 v ((colS G l (S.take i') x).length+1) ((colS G l (S.take i') x).flatMap Fl.enc++f.enc)∧W'.grownBy w' va.ownBlock∧(v.ownBlock=va.ownBlock∨∀ g,v.ownBlock=some g→W'.heap.size≤g)
     | _=>True) (by kernel_rfl) (by kernel_rfl) (by kernel_rfl) ?_ ?_ ?_ ?_ ?_
    ·intro i2 j' w1 w2 v hij h n
     match i2,h with
     | 0,h=>exact h
     | 1,h=>exact h
     | 2,h=>exact h
     | 3,h=>exact h
     | 4,h=>exact h
     | 5,h=>exact h
     | 6,h=>exact h
     | 7,⟨p,h1,h2,h3⟩ =>
      refine⟨p,h1,h2,fun q u hq=>?_⟩
      by_cases e8:j'=8
      ·rw[if_pos e8]at n
       exact n.cell (h3 q u hq) (by unfold Addr.add;split <;> exact h2)
      ·rw[if_neg e8]at n
       exact(gr_gro n).cell (h3 q u hq) (by simp)
     | 8,⟨h1,h2,h3⟩ =>
      rw[if_neg (fun h=>hij h.symm)]at n
      exact⟨own_new h1 n,h2.trans ⟨n.os,n.tape,n.output,n.size,fun k hk _=>n.block k hk⟩,h3⟩
     | i2+9,_=>trivial
    ·exact⟨⟨rfl,rfl,rfl,Nat.le_refl _,fun _ _ _=>rfl⟩,fun _=>Below.drew (Below.refl _ _)⟩
    ·intro listed j' w1 w2 hj' hs ⟨h1,h2⟩ n
     by_cases e8:j'=8
     ·rw[if_pos e8]at n
      refine⟨h1.trans n,fun h=>?_⟩
      subst e8
      simp[Array.getD_eq_getD_getElem?,hs]at h
     ·rw[if_neg e8]at n
      refine⟨h1.trans ⟨n.os,n.tape,n.output,n.size,fun k hk _=>n.block k hk⟩,fun h=>?_⟩
      rw[getD_set_ne false e8]at h
      exact(h2 h).trans n
    ·intro i2 o listed hi2 ho hls a' w' hKK hr hd
     rcases(show i2=0∨i2=1∨i2=2∨i2=3∨i2=4∨i2=5∨i2=6∨i2=7∨i2=8 by omega)with rfl|rfl|rfl|rfl|rfl|rfl|rfl|rfl|rfl <;> obtain rfl:=Option.some.inj ho
     ·have r5:(a'.tmps[5]?).getD undef=.pointer (some ⟨P,0,none⟩):=(eval_get a' 5).symm.trans (hr 5 (by kernel_rfl))
      have y8:=hKK.1.cell q8 nP
      exact⟨_,w',by go_simp,New.refl _,rfl⟩
     ·have r8:(a'.tmps[8]?).getD undef=.int .i64 x:=(eval_get a' 8).symm.trans (hr 8 (by kernel_rfl))
      exact⟨_,w',by go_simp,New.refl _,rfl⟩
     ·have r5:(a'.tmps[5]?).getD undef=.pointer (some ⟨P,0,none⟩):=(eval_get a' 5).symm.trans (hr 5 (by kernel_rfl))
      have y8:=hKK.1.cell q8 nP
      exact⟨_,w',by go_simp,New.refl _,rfl⟩
     ·have r8:(a'.tmps[8]?).getD undef=.int .i64 x:=(eval_get a' 8).symm.trans (hr 8 (by kernel_rfl))
      exact⟨_,w',by go_simp,New.refl _,rfl⟩
     ·have r42:(a'.tmps[42]?).getD undef=.slice (some ⟨A0,0,none⟩) i cap2:=(eval_get a' 42).symm.trans (hd 2 42 (by omega) (by kernel_rfl) (by kernel_rfl))
      have r43:(a'.tmps[43]?).getD undef=.int .i64 x:=(eval_get a' 43).symm.trans (hd 3 43 (by omega) (by kernel_rfl) (by kernel_rfl))
      exact⟨_,w',by go_simp,New.refl _,rfl⟩
     ·have r44:(a'.tmps[44]?).getD undef=.pointer (some ⟨A0,x,none⟩):=(eval_get a' 44).symm.trans (hd 4 44 (by omega) (by kernel_rfl) (by kernel_rfl))
      have yG:=hKK.1.cell qG nG
      exact⟨_,w',by go_simp,New.refl _,rfl⟩
     ·have r7:(a'.tmps[7]?).getD undef=.pointer (some ⟨Q2,0,none⟩):=(eval_get a' 7).symm.trans (hr 7 (by kernel_rfl))
      have y0:=hKK.1.cell y0 nB
      have y1:=hKK.1.cell y1 nB
      have y2:=hKK.1.cell y2 nB
      exact⟨_,w',by go_simp,New.refl _,rfl⟩
     ·have r46:(a'.tmps[46]?).getD undef=.agg #[.int .i64 f.y,.int .i64 f.top,.int .i64 f.area]:=(eval_get a' 46).symm.trans (hd 6 46 (by omega) (by kernel_rfl) (by kernel_rfl))
      refine⟨.slice (some ⟨w'.heap.size,0,none⟩) 1 1,w'.alloc (.cells #[.int .i64 f.y,.int .i64 f.top,.int .i64 f.area] 56),by go_simp,(New.refl _).alloc _,w'.heap.size,rfl,fun h=>?_,fun q u hq=>?_⟩
      ·have h1:=(HR.out.lt _ h.symm).2
       have h2:=hKK.1.size
       omega
      ·exact ar_fl_new w' f 56 q u hq
     ·have r45:(a'.tmps[45]?).getD undef=va:=(eval_get a' 45).symm.trans (hd 5 45 (by omega) (by kernel_rfl) (by kernel_rfl))
      obtain⟨p,hp1,hp2,hp3⟩:=hd 7 47 (by omega) (by kernel_rfl) (by kernel_rfl)
      have r47:(a'.tmps[47]?).getD undef=.slice (some ⟨p,0,none⟩) 1 1:=(eval_get a' 47).symm.trans hp1
      have nw:=hKK.2 hls
      obtain⟨v',w2,hrun,hown,hgrow,-,hat⟩:=run_append_own_at (P:=Tryz.prog) (w:=w') n0 54 54 56 i1 (.agg #[.int .i64 0,.int .i64 0,.int .i64 0]) 3 24 Tryz.underlying54 hi1 hs0 hs1 hs2 rfl (by decide) va _ _ (own_new HR.out nw) ⟨p,0,none⟩ 1 1 f.enc rfl hp3 (Fl.enc_one _) (by unfold maxLen;omega) (by omega) (by have:=hKK.1.size;omega)
      have e45:a'.eval (.tmp 45)=va:=(eval_get a' 45).trans r45
      have e47:a'.eval (.tmp 47)=.slice (some ⟨p,0,none⟩) 1 1:=(eval_get a' 47).trans r47
      refine⟨v',w2,by simp[execOp,resolve,invoke,builtin,e45,e47,hrun,Result.andThen],?_,hown,hKK.1.trans hgrow,?_⟩
      ·exact hgrow
      ·rcases hat with h|h
       ·exact .inl h
       ·refine .inr fun g hg=>?_
        rw[h]at hg
        injection hg with hg
        have:=hKK.1.size
        omega
    ·intro vs' w' hv'
     have e40:=hv' 0 (by omega)
     have e41:=hv' 1 (by omega)
     obtain⟨hown,hgrow,hat⟩:=hv' 8 (by omega)
     obtain⟨g',cap',e48⟩:=ownsRow_succ hown
     rw[e48]at hown hat
     rw[HVA.out]at hgrow hat
     have hxi:=x1
     obtain⟨p1,p2,p3,p4,p5,p6,p7⟩:=HV2.out.1.put (by decide) x1 hown hgrow hat
     simp only[]at e40 e41
     clear hv' hown hgrow hat
     simp only[List.take_succ_cons,List.take_zero,List.drop_succ_cons,List.drop_zero,putL,Act.put,List.setIfInBounds_toArray,List.set_cons_zero,List.set_cons_succ,Nat.reduceAdd,Nat.zero_add]
     rw[e40,e41,e48]
     gi_wp2_with fail
     obtain⟨-,hbar,hnew,hkf,hks⟩:=HV2.out
     have hW6:=HN6.out.size
     have hn06:=HN0.out
     refine⟨(hkf.trans p4).from _,fun b hb=>?_,⟨by have:=hbar.1;have:=p4.size;omega,fun b hb hbA=>?_⟩,p6 w hnew (by omega) HAA.out.1,p3.congr fun k hk=>?_⟩
     ·have h1:=hSlt b hb
      exact(p7 b h1 (by omega) (HAS.out b hb)).trans (hks b hb)
     ·exact(p7 b hb (by omega) hbA).trans (hbar.2 b hb hbA)
     ·rw[HTK.out,colS_snoc,←HX.out,←HF.out]
      by_cases e:x=k
      ·subst e
       rw[if_pos rfl]
      ·rw[if_neg e,if_neg (fun h=>e h.symm)]
   case done =>
    rintro U ⟨hBr,hB,hGU⟩ hD
    rw[hA]
    rw[List.take_length]at hGU
    have qp:Boxed U P 35 (.slice ra rn rc):=hBr.blk HLT.out.2.2 (by have:=HAA.out;have:=HB.out;omega) HBX6.out
    have q8:=qp.cell
    have HGU:=Lib.hid hGU
    have HBU:=Lib.hid hB
    clear hGU hB qp
    go_wp2_with fail
    refine ret_mark hD fun U2 hU2 hk=>⟨_,by simp[results,Tryz.results113,go_sem],.slice ra rn rc,rfl,?_,?_⟩
    ·have hG2:Gr Fl.enc 3 54 56 U2 n0 A0 i (colS G l S):=by
      rw[hU2]
      exact(gr_own (β:=Unit) Fl.enc 3 _ _ n0 A0 i W6.heap.size (fun _=>colS G l S)).putObj (s:=()) _ HGU.out (Nat.le_refl _) hD rfl
     rcases Nat.eq_zero_or_pos i with e|h0
     ·obtain⟨⟨a,c,e1,h2,h3,h4,-⟩,hA5⟩:=HV0.out.2 e
      rw[e]
      refine⟨[],rfl,⟨⟨a,c,e1,h2,h3,h4,RowIn.nil⟩,fun b hb=>?_⟩,fun j hj=>absurd hj (by simp)⟩
      obtain⟨h5,cs,h6⟩:=HVB.out b hb
      have hb6:=(Array.getElem?_eq_some_iff.1 h6).1
      have hn06:=HN0.out
      have h7:=hBr.2 b (by omega) (by omega)
      exact⟨h5,cs,(hk b (by omega)).trans (h7.trans h6)⟩
     ·have h1:=HV0.out.1 h0
      have h2:=hG2.rowsK (cap:=cap2) (base:=w.heap.size) Fl.enc_len h0 h1 HAA.out.1 (by have:=HN6.out.size;have:=HN0.out;omega)
      have e:(List.range i).map (colS G l S)=(List.range i).map (markC G l):=List.map_congr_left fun j hj=>HALL.out j (List.mem_range.1 hj)
      rw[e]at h2
      exact h2
    ·rw[hU2]
     exact Go.RowKit.Below.trans HBU.out (belowK_b (w:=w) (Nat.le_refl _) _ _ _ _ HN6.out.size hD rfl rfl)
   case stop =>
    rintro i' q U _ _ h _
    exact h.elim
end Go.Proofs.YtmhghnbgllaihaaGreatDoor

namespace Go.Proofs.YtmhghnbgllaihaaGreatDoor
open Go.RowKit
theorem Gd.enc_one (G:Gd):∀ u∈G.enc,u.oneCell'=true:=by
 intro u hu
 simp[Gd.enc]at hu
 rcases hu with rfl|rfl|rfl|rfl|rfl <;> rfl
theorem rowsN_nil {α:Type} {enc:α→List Value} {k base:Nat} {tG tS:TypeId} {w:World}:RowsN enc k tG tS base w (.slice none 0 0) ([]:List (List α)) :=
 ⟨[],rfl,⟨Sl.nil,fun b e=>by simp[Value.ownBlock]at e⟩,fun j h=>absurd h (by simp)⟩
def Outs (er:Int) (x z wi d:Int) (F:List (List Fl)) (w:World) (e:Ending) (w':World):Prop :=
 ∃ O:Gd,e=.returned (.tuple #[.agg #[.int .i64 O.x,.int .i64 O.z,.int .i64 O.w,.int .i64 O.d,.slice O.ga O.L.length O.gc],.int .i64 er])∧RowsN Fl.enc 3 54 56 w.heap.size w' (.slice O.ga O.L.length O.gc) O.L∧(er=0→O.x=x∧O.z=z∧O.w=wi∧O.d=d∧O.L=F)∧(er≠0→O.x=0∧O.z=0∧O.w=0∧O.d=0∧O.L=[])∧New w w'
theorem ar_Mark (C:CfgR) (G:Gd) (at0:Option Addr) (l:List BoxR) (cap:Nat) (hl:l.length≤maxLen) (w:World) (hN:Nowhere w) (hG:G.ok w) (H:RowIn BoxR.enc 8 w at0 l) :
  Calls Tryz.prog 69 #[.agg #[.int .i64 C.cl,.int .i64 C.cb,.int .i64 C.ht,.int .i64 C.ri,.int .i64 C.ru,.int .i64 C.wd,.int .i64 C.dp],.agg #[.int .i64 G.x,.int .i64 G.z,.int .i64 G.w,.int .i64 G.d,.slice G.ga G.L.length G.gc],.slice at0 l.length cap] w (Outs (markE C G l) G.x G.z G.w G.d (markL G l) w):=by
 have KC:=Lib.hid (fun W n=>ar_check C G at0 l cap hl W (hN.new (n:New w W)) (hG.keep n) (H.keep n))
 have KM:=Lib.hid (fun h W n=>ar_marked G h at0 l cap hl W (hG.keep (n:New w W)) (H.keep n))
 have HZ:Hid (markE C G l=0→gE G=0):=Lib.hid (fun h=>(markE_is h).2.1)
 have HGL:Hid (New w w→Gd.ok G w):=Lib.hid (fun _=>hG)
 generalize markE C G l=er at *
 generalize markL G l=F at *
 obtain⟨n,hn⟩:∃ q,q=G.L.length:=⟨_,rfl⟩
 obtain⟨ln,hln⟩:∃ q,q=l.length:=⟨_,rfl⟩
 rw[←hn]at KC KM ⊢
 rw[←hln]at KC KM ⊢
 clear hn hln hl hG H hN
 obtain⟨Q,hQ⟩:∃ Q,Q=Outs er G.x G.z G.w G.d F w:=⟨_,rfl⟩
 rw[←hQ]
 have HQ:=Lib.hid hQ
 clear hQ
 go_enter Tryz.func69,Tryz.ntmps69
 go_upto_region 1 with fail
 refine Code.at (fun W0 hW=>?_)
 have n0:New w W0:=by subst hW;exact nw
 have z0:W0.heap.size=w.heap.size+3:=by subst hW;simp
 have c0:W0.cell? ⟨w.heap.size,0,none⟩=some (.int .i64 C.cl):=by subst hW;go_simp
 have c1:W0.cell? ⟨w.heap.size,1,none⟩=some (.int .i64 C.cb):=by subst hW;go_simp
 have c2:W0.cell? ⟨w.heap.size,2,none⟩=some (.int .i64 C.ht):=by subst hW;go_simp
 have c3:W0.cell? ⟨w.heap.size,3,none⟩=some (.int .i64 C.ri):=by subst hW;go_simp
 have c4:W0.cell? ⟨w.heap.size,4,none⟩=some (.int .i64 C.ru):=by subst hW;go_simp
 have c5:W0.cell? ⟨w.heap.size,5,none⟩=some (.int .i64 C.wd):=by subst hW;go_simp
 have c6:W0.cell? ⟨w.heap.size,6,none⟩=some (.int .i64 C.dp):=by subst hW;go_simp
 have bg:W0.heap[w.heap.size+1]? = some (.cells #[.int .i64 G.x,.int .i64 G.z,.int .i64 G.w,.int .i64 G.d,.slice G.ga n G.gc] 37 (0,0)):=by
  subst hW
  have h:=World.alloc_heap_new (w.alloc (.cells #[.int .i64 C.cl,.int .i64 C.cb,.int .i64 C.ht,.int .i64 C.ri,.int .i64 C.ru,.int .i64 C.wd,.int .i64 C.dp] 23)) (.cells #[.int .i64 G.x,.int .i64 G.z,.int .i64 G.w,.int .i64 G.d,.slice G.ga n G.gc] 37)
  rw[World.size_alloc]at h
  exact((New.refl _).alloc _).stays h
 have hth:Thr W0 (w.heap.size+1+1) 5:=by
  subst hW
  exact Thr.new _ _ _ _ (by simp)
 have br:W0.heap[w.heap.size+1+1]? = some (.cells #[.int .i64 0,.int .i64 0,.int .i64 0,.int .i64 0,.slice none 0 0] 37 (0,0)):=by
  subst hW
  have h:=World.alloc_heap_new ((w.alloc (.cells #[.int .i64 C.cl,.int .i64 C.cb,.int .i64 C.ht,.int .i64 C.ri,.int .i64 C.ru,.int .i64 C.wd,.int .i64 C.dp] 23)).alloc (.cells #[.int .i64 G.x,.int .i64 G.z,.int .i64 G.w,.int .i64 G.d,.slice G.ga n G.gc] 37)) (.cells #[.int .i64 0,.int .i64 0,.int .i64 0,.int .i64 0,.slice none 0 0] 37)
  rw[World.size_alloc,World.size_alloc]at h
  exact h
 clear hW
 have HBR:=Lib.hid (fun W (q:New W0 W)=>New.stays q br)
 have HTH:=Lib.hid (fun W (q:New W0 W)=>hth.keep q)
 have g0:=cell_of_heap (o:=0) (v:=.int .i64 G.x) bg rfl
 have g1:=cell_of_heap (o:=1) (v:=.int .i64 G.z) bg rfl
 have g2:=cell_of_heap (o:=2) (v:=.int .i64 G.w) bg rfl
 have g3:=cell_of_heap (o:=3) (v:=.int .i64 G.d) bg rfl
 have g4:=cell_of_heap (o:=4) (v:=.slice G.ga n G.gc) bg rfl
 have HBG:=Lib.hid (fun W (q:New W0 W)=>New.stays q bg)
 have N0:=Lib.hid n0
 clear bg br hth n0
 go_wp2_with fail
 refine(KC.out _ N0.out).mono ?_
 rintro e W1 ⟨rfl,n1⟩
 have N1:=Lib.hid n1
 clear c0 c1 c2 c3 c4 c5 c6 g0 g1 g2 g3 g4 n1 KC
 by_cases her:er=0
 rotate_left
 ·have hne:(er != 0)=true:=by rw[bne_iff_ne];exact her
  have HER:=Lib.hid her
  have hth:=HTH.out _ N1.out
  clear her
  go_wp2_with (refine wpList_store_sto rfl 37 _ _ rfl _ _ rfl rfl hth (by kernel_rfl) (Gd.enc_one Gd.zero) (fun Z nZ kZ cZ=>?_))
  obtain⟨k0,k1,k2,k3,k4⟩:=Gd.at (G:=Gd.zero) cZ.at'
  have nz:=nZ w (N0.out.trans N1.out) (by omega)
  clear nZ kZ cZ hth
  refine bodyPost_ret (v:=.tuple #[.agg #[.int .i64 Gd.zero.x,.int .i64 Gd.zero.z,.int .i64 Gd.zero.w,.int .i64 Gd.zero.d,.slice Gd.zero.ga Gd.zero.L.length Gd.zero.gc],.int .i64 er]) (by simp[results,Tryz.results69,go_sem, *]) rfl ?_
  rw[HQ.out]
  exact⟨Gd.zero,rfl,rowsN_nil,fun h=>absurd h HER.out,fun _=>⟨rfl,rfl,rfl,rfl,rfl⟩,nz⟩
 subst her
 have bg:=HBG.out _ N1.out
 have g0:=cell_of_heap (o:=0) (v:=.int .i64 G.x) bg rfl
 have g1:=cell_of_heap (o:=1) (v:=.int .i64 G.z) bg rfl
 have g2:=cell_of_heap (o:=2) (v:=.int .i64 G.w) bg rfl
 have g3:=cell_of_heap (o:=3) (v:=.int .i64 G.d) bg rfl
 have g4:=cell_of_heap (o:=4) (v:=.slice G.ga n G.gc) bg rfl
 clear bg
 go_wp2_with fail
 refine(KM.out (HZ.out trivial) _ (N0.out.trans N1.out)).mono ?_
 rintro e W2 ⟨v,rfl,hv,n2⟩
 clear g0 g1 g2 g3 g4
 have HV:=Lib.hid hv
 obtain⟨va,vc,rfl⟩:=hv.rows.shape
 obtain⟨fn,hfn⟩:∃ q,q=F.length:=⟨_,rfl⟩
 rw[←hfn]at HV ⊢
 have HFN:=Lib.hid hfn
 have N12:=Lib.hid (N1.out.trans n2)
 have bg:=HBG.out _ N12.out
 have bgT:=Lib.hid bg
 have f4:=frozen_of_heap (o:=4) bg
 have g4:=cell_of_heap (o:=4) (v:=.slice G.ga n G.gc) bg rfl
 have hs:=heap_setCell_same W2 (w.heap.size+1) 4 _ _ (.slice va fn vc) bg
 have hz1:=N1.out.size
 have hz2:=n2.size
 have hth:=HTH.out _ N12.out
 clear hv hfn n2 bg
 go_upto_region 5 with fail
 refine Code.at (fun W3 hW=>?_)
 have nb:∀ b,b≠w.heap.size+1→W3.heap[b]? = W2.heap[b]? := fun b hb=>by subst hW;exact Below.heap_setCell _ _ _ _ hb
 have hrt:=Lib.hid ((nb (w.heap.size+1+1) (by omega)).trans (HBR.out _ N12.out))
 have q:=hs
 rw[←hW]at q
 have hth3:Thr W3 (w.heap.size+1+1) 5:=fun j hj=>by
  obtain⟨⟨u,hu⟩,hf⟩:=hth j hj
  exact⟨⟨u,(World.cell?_of_block (nb _ (by show w.heap.size+1+1≠_;omega))).trans hu⟩,(World.frozen?_of_block (nb _ (by show w.heap.size+1+1≠_;omega))).trans hf⟩
 have n3:New w W3:=by subst hW;exact New.setB (p:=⟨w.heap.size+1,4,none⟩) (by show w.heap.size≤w.heap.size+1;omega) (N0.out.trans N12.out) _
 have HV3:=Lib.hid (HV.out.kept (W:=W3) (fun b cs t hb ht hc=>nb b (fun e=>by subst e;rw[bgT.out]at hc;injection hc with hc;injection hc with _ hc;rcases ht with rfl|rfl <;> exact absurd hc (by decide))))
 clear hW hs nb hth g4 f4
 have g0:=cell_of_heap (o:=0) (v:=.int .i64 G.x) q rfl
 have g1:=cell_of_heap (o:=1) (v:=.int .i64 G.z) q rfl
 have g2:=cell_of_heap (o:=2) (v:=.int .i64 G.w) q rfl
 have g3:=cell_of_heap (o:=3) (v:=.int .i64 G.d) q rfl
 have g4:=cell_of_heap (o:=4) (v:=.slice va fn vc) q rfl
 clear q
 obtain⟨O,hO⟩:∃ O:Gd,O=⟨G.x,G.z,G.w,G.d,F,va,vc⟩:=⟨_,rfl⟩
 have e0:O.x=G.x:=by rw[hO]
 have e1:O.z=G.z:=by rw[hO]
 have e2:O.w=G.w:=by rw[hO]
 have e3:O.d=G.d:=by rw[hO]
 have e4:O.L=F:=by rw[hO]
 have e5:O.ga=va:=by rw[hO]
 have e6:O.gc=vc:=by rw[hO]
 have HO:=Lib.hid (And.intro e0 (And.intro e1 (And.intro e2 (And.intro e3 e4))))
 rw[HFN.out]at HV3 g4
 rw[←e4,←e5,←e6]at HV3 g4
 rw[←e0]at g0
 rw[←e1]at g1
 rw[←e2]at g2
 rw[←e3]at g3
 clear hO e0 e1 e2 e3 e4 e5 e6
 go_wp2_with (refine wpList_store_blk rfl 37 _ _ rfl _ _ rfl rfl hth3 (by kernel_rfl) (Gd.enc_one O) (fun Z nZ kZ cZ=>?_))
 obtain⟨k0,k1,k2,k3,k4⟩:=Gd.at (G:=O) cZ
 have nz:=nZ w n3 (by omega)
 have HVZ:=Lib.hid (HV3.out.kept (W:=Z) (fun b cs t hb ht hc=>kZ b (fun e=>by subst e;rw[hrt.out]at hc;injection hc with hc;injection hc with _ hc;rcases ht with rfl|rfl <;> exact absurd hc (by decide))))
 clear nZ kZ cZ hth3 g0 g1 g2 g3 g4
 refine bodyPost_ret (v:=.tuple #[.agg #[.int .i64 O.x,.int .i64 O.z,.int .i64 O.w,.int .i64 O.d,.slice O.ga O.L.length O.gc],.int .i64 0]) (by simp[results,Tryz.results69,go_sem, *]) rfl ?_
 rw[HQ.out]
 exact⟨O,rfl,HVZ.out.mono (by omega),fun _=>HO.out,fun h=>absurd rfl h,nz⟩
theorem arN_eq {α:Type} [DecidableEq α] {go1 go2:α→Int→Option α} {s:α} (h:∀ d:Nat,d<4→go1 s d=go2 s d∧diaP go1 s d (nextD d)=diaP go2 s d (nextD d)):∀ n,n≤4→arN go1 s n=arN go2 s n
 | 0,_=>rfl
 | n+1,hn=>by
  obtain⟨a,b⟩:=h n (by omega)
  simp only[arN,arN_eq h n (by omega),a,b]
theorem next_one {d:Nat} (h:d<4):(-1≤dxD d+dxD (nextD d)∧dxD d+dxD (nextD d)≤1)∧(-1≤dzD d+dzD (nextD d)∧dzD d+dzD (nextD d)≤1):=by
 rcases(show d=0∨d=1∨d=2∨d=3 by omega)with rfl|rfl|rfl|rfl <;> decide
def flI (A:Int→Int→List Fl) (s:Sdk):Option Fl:=if 0≤s.k then (A s.x s.z)[s.k.toNat]? else none
def toI (C:CfgR) (A:Int→Int→List Fl) (s:Sdk) (d:Int):Option Sdk:=match flI A s with
 | some a=>if okD d=true then ((A (s.x+dxD d) (s.z+dzD d)).findIdx? (lkB C a)).map (fun n:Nat=>(⟨s.x+dxD d,s.z+dzD d,n⟩:Sdk))else none
 | none=>none
theorem toS_I (C:CfgR) (G:Gd):toS C G=toI C (atG G):=rfl
theorem toI_place {C:CfgR} {A:Int→Int→List Fl} {s t:Sdk} {d:Int} (h:toI C A s d=some t):t.x=s.x+dxD d∧t.z=s.z+dzD d:=by
 unfold toI at h
 split at h
 ·split at h
  ·rw[Option.map_eq_some_iff]at h
   obtain⟨n,-,rfl⟩:=h
   exact⟨rfl,rfl⟩
  ·cases h
 ·cases h
theorem toI_same {C:CfgR} {A B:Int→Int→List Fl} {s:Sdk} {d:Int} (h0:A s.x s.z=B s.x s.z) (h1:A (s.x+dxD d) (s.z+dzD d)=B (s.x+dxD d) (s.z+dzD d)):toI C A s d=toI C B s d:=by
 unfold toI flI
 rw[h0,h1]
def Agree (A B:Int→Int→List Fl) (n:Nat) (x z:Int):Prop:=∀ a b:Int,(x - n≤a∧a≤x+n)→(z - n≤b∧b≤z+n)→A a b=B a b
theorem Agree.symm {A B:Int→Int→List Fl} {n:Nat} {x z:Int} (h:Agree A B n x z):Agree B A n x z:=fun a b ha hb=>(h a b ha hb).symm
theorem Agree.le {A B:Int→Int→List Fl} {n m:Nat} {x z:Int} (h:Agree A B m x z) (hn:n≤m):Agree A B n x z:=fun a b ha hb=>h a b (by omega) (by omega)
theorem Agree.step {A B:Int→Int→List Fl} {n:Nat} {x z x' z':Int} (h:Agree A B (n+1) x z) (hx : -1≤x' - x∧x' - x≤1) (hz : -1≤z' - z∧z' - z≤1):Agree A B n x' z':=fun a b ha hb=>h a b (by omega) (by omega)
theorem near_I {C:CfgR} {A B:Int→Int→List Fl} {n:Nat} {s:Sdk} (h:Agree A B (n+1) s.x s.z):(∀ d:Nat,d<4→toI C A s d=toI C B s d∧diaP (toI C A) s d (nextD d)=diaP (toI C B) s d (nextD d))∧∀ t∈arP (toI C B) s,Agree A B n t.x t.z:=by
 have h00:A s.x s.z=B s.x s.z:=h _ _ (by omega) (by omega)
 have oneP:∀ d:Int,toI C A s d=toI C B s d:=fun d=>by
  have a:=dxD_small d
  have b:=dzD_small d
  exact toI_same h00 (h _ _ (by omega) (by omega))
 have rnd:∀ (d e:Int),(-1≤dxD d+dxD e∧dxD d+dxD e≤1)→(-1≤dzD d+dzD e∧dzD d+dzD e≤1)→rndP (toI C A) s d e=rndP (toI C B) s d e:=fun d e hx hz=>by
  unfold rndP
  rw[oneP d]
  cases q:toI C B s d with
  | none=>rfl
  | some m =>
   obtain⟨m1,m2⟩:=toI_place q
   have a:=dxD_small d
   have b:=dzD_small d
   exact toI_same (h _ _ (by omega) (by omega)) (h _ _ (by omega) (by omega))
 refine⟨fun d hd=>⟨oneP d,?_⟩,fun t ht=>?_⟩
 ·obtain⟨x1,x2⟩:=next_one hd
  unfold diaP
  rw[rnd _ _ x1 x2,rnd (nextD d) d (by omega) (by omega)]
 ·obtain⟨d,hd,q|q⟩:=mem_arN.1 ht
  ·obtain⟨m1,m2⟩:=toI_place q
   have a:=dxD_small d
   have b:=dzD_small d
   exact h.step (by omega) (by omega)
  ·obtain⟨x1,x2⟩:=next_one hd
   obtain⟨q1,-⟩:=bothP_is q
   unfold rndP at q1
   split at q1
   ·rename_i m hm
    obtain⟨m1,m2⟩:=toI_place hm
    obtain⟨m3,m4⟩:=toI_place q1
    exact h.step (by omega) (by omega)
   ·cases q1
theorem ge_loc {C:CfgR} {A B:Int→Int→List Fl}:∀ (n:Nat) (s:Sdk),Agree A B n s.x s.z→geB (toI C B) n s=true→geB (toI C A) n s=true
 | 0,_,_,_=>rfl
 | n+1,s,hs,q=>by
  obtain⟨a,b⟩:=(geB_succ n s).1 q
  obtain⟨h1,h2⟩:=near_I (C:=C) hs
  have e:arP (toI C A) s=arP (toI C B) s:=arN_eq h1 4 (Nat.le_refl _)
  refine(geB_succ n s).2 ⟨?_,fun t ht=>?_⟩
  ·unfold fulP at a ⊢
   rw[e]
   exact a
  ·rw[e]at ht
   exact ge_loc n t (h2 t ht) (b t ht)
theorem ge_eq {C:CfgR} {A B:Int→Int→List Fl} {n:Nat} {s:Sdk} (h:Agree A B n s.x s.z):geB (toI C A) n s=geB (toI C B) n s:=by
 rw[Bool.eq_iff_iff]
 exact⟨ge_loc n s h.symm,ge_loc n s h⟩
section
variable {α:Type}
def keepT (l:List α) (p:Nat→Bool) (n:Nat):List α:=(List.range n).filterMap fun k=>if p k=true then l[k]? else none
def keepL (l:List α) (p:Nat→Bool):List α:=keepT l p l.length
theorem keepT_yes {l:List α} {p:Nat→Bool} {n:Nat} (hn:n<l.length) (h:p n=true):keepT l p (n+1)=keepT l p n++[l[n]]:=by
 unfold keepT
 rw[List.range_succ,List.filterMap_append,List.filterMap_cons,List.filterMap_nil,if_pos h,List.getElem?_eq_getElem hn]
theorem keepT_no {l:List α} {p:Nat→Bool} {n:Nat} (h:p n=false):keepT l p (n+1)=keepT l p n:=by
 unfold keepT
 rw[List.range_succ,List.filterMap_append,List.filterMap_cons,List.filterMap_nil,if_neg (by rw[h];simp),List.append_nil]
theorem keepT_len (l:List α) (p:Nat→Bool) (n:Nat):(keepT l p n).length≤n:=by
 have:=List.length_filterMap_le (fun k=>if p k=true then l[k]? else none) (List.range n)
 rw[List.length_range]at this
 exact this
theorem keepT_congr {l m:List α} {p q:Nat→Bool} {n:Nat} (h:∀ k,k<n→p k=q k) (e:∀ k,k<n→q k=true→l[k]? = m[k]?):keepT l p n=keepT m q n:=by
 have key:∀ n,(∀ k,k<n→p k=q k)→(∀ k,k<n→q k=true→l[k]? = m[k]?)→keepT l p n=keepT m q n:=by
  intro n
  induction n with
  | zero=>intro _ _;rfl
  | succ n ih =>
   intro h e
   have i:=ih (fun k hk=>h k (by omega)) (fun k hk=>e k (by omega))
   unfold keepT at i ⊢
   rw[List.range_succ,List.filterMap_append,List.filterMap_append,i]
   congr 1
   rw[List.filterMap_cons,List.filterMap_nil,List.filterMap_cons,List.filterMap_nil,h n (by omega)]
   by_cases c:q n=true
   ·rw[if_pos c,if_pos c,e n (by omega) c]
   ·rw[if_neg c,if_neg c]
 exact key n h e
theorem keepL_congr {l:List α} {p q:Nat→Bool} (h:∀ k,k<l.length→p k=q k):keepL l p=keepL l q:=keepT_congr h (fun _ _ _=>rfl)
theorem mem_keepT {l:List α} {p:Nat→Bool} {n:Nat} {x:α}:x∈keepT l p n↔∃ k,k<n∧p k=true∧l[k]? = some x:=by
 unfold keepT
 rw[List.mem_filterMap]
 constructor
 ·rintro⟨k,hk,h⟩
  by_cases c:p k=true
  ·rw[if_pos c]at h
   exact⟨k,List.mem_range.1 hk,c,h⟩
  ·rw[if_neg c]at h;cases h
 ·rintro⟨k,hk,c,h⟩
  exact⟨k,List.mem_range.2 hk,by rw[if_pos c];exact h⟩
theorem keepT_map {β:Type} (f:α→β) (l:List α) (p:Nat→Bool):∀ n,n≤l.length→keepT (l.map f) p n=(keepT l p n).map f:=by
 intro n
 induction n with
 | zero=>intro _;rfl
 | succ n ih =>
  intro hn
  cases c:p n
  ·rw[keepT_no c,keepT_no c,ih (by omega)]
  ·rw[keepT_yes (by simp;omega) c,keepT_yes (by omega) c,List.map_append,ih (by omega)]
   simp
end
section
variable {β:Type}
def gridT (w d:Nat) (g:Nat→Nat→β):List β:=(List.range (d*w)).map fun n=>g (n % w) (n / w)
theorem gridT_len (w d:Nat) (g:Nat→Nat→β):(gridT w d g).length=d*w:=by unfold gridT;simp
theorem gridT_at {w d:Nat} {g:Nat→Nat→β} {n:Nat} (h:n<(gridT w d g).length):(gridT w d g)[n]=g (n % w) (n / w):=by
 unfold gridT at h ⊢
 rw[List.getElem_map,List.getElem_range]
theorem gridT_get {w d:Nat} {g:Nat→Nat→β} {n:Nat} (h:n<d*w):(gridT w d g)[n]? = some (g (n % w) (n / w)):=by
 rw[List.getElem?_eq_getElem (by rw[gridT_len];exact h),gridT_at]
theorem gridT_congr {w d:Nat} {g f:Nat→Nat→β} (hw:0<w) (h:∀ i j,i<w→j<d→g i j=f i j):gridT w d g=gridT w d f:=by
 unfold gridT
 refine List.map_congr_left fun n hn=>?_
 have:=List.mem_range.1 hn
 exact h _ _ (Nat.mod_lt _ hw) ((Nat.div_lt_iff_lt_mul hw).2 this)
theorem row_div {w j i:Nat} (h:i<w):(j*w+i) % w=i∧(j*w+i) / w=j:=by
 have hw:0<w:=by omega
 refine⟨?_,?_⟩
 ·rw[Nat.add_comm,Nat.add_mul_mod_self_right,Nat.mod_eq_of_lt h]
 ·rw[Nat.add_comm,Nat.add_mul_div_right _ _ hw,Nat.div_eq_of_lt h,Nat.zero_add]
theorem gridT_rows {w:Nat} (hw:0<w) (g:Nat→Nat→β):∀ d,gridT w d g=(List.range d).flatMap fun j=>(List.range w).map fun i=>g i j
 | 0=>by unfold gridT;rw[Nat.zero_mul];rfl
 | d+1=>by
  have ih:=gridT_rows hw g d
  unfold gridT at ih ⊢
  rw[Nat.add_mul,Nat.one_mul,List.range_add,List.map_append,ih,List.range_succ,List.flatMap_append]
  congr 1
  rw[List.map_map,List.flatMap_cons,List.flatMap_nil,List.append_nil]
  refine List.map_congr_left fun i hi=>?_
  obtain⟨a,b⟩:=row_div (j:=d) (List.mem_range.1 hi)
  show g ((d*w+i) % w) ((d*w+i) / w)=g i d
  rw[a,b]
theorem rows_flat {w:Nat} (f:Nat→Option β):∀ d,(List.range (d*w)).filterMap f=(List.range d).flatMap fun j=>(List.range w).filterMap fun i=>f (j*w+i)
 | 0=>by rw[Nat.zero_mul];rfl
 | d+1=>by
  rw[Nat.add_mul,Nat.one_mul,List.range_add,List.filterMap_append,rows_flat f d,List.range_succ,List.flatMap_append]
  congr 1
  rw[List.filterMap_map,List.flatMap_cons,List.flatMap_nil,List.append_nil]
  rfl
theorem part_flat {γ:Type} (n x0 w:Nat) (h:x0+w≤n) (f:Nat→List γ) (h0:∀ i,i<n→¬ (x0≤i∧i<x0+w)→f i=[]):(List.range n).flatMap f=(List.range w).flatMap fun i=>f (x0+i):=by
 obtain⟨r,rfl⟩:∃ r,n=x0+(w+r):=⟨n - (x0+w),by omega⟩
 rw[List.range_add,List.range_add,List.flatMap_append,List.map_append,List.flatMap_append]
 have e1:(List.range x0).flatMap f=[]:=List.flatMap_eq_nil_iff.2 fun i hi=>by
  have:=List.mem_range.1 hi
  exact h0 i (by omega) (by omega)
 have e2:(((List.range r).map (w+·)).map (x0+·)).flatMap f=[]:=List.flatMap_eq_nil_iff.2 fun i hi=>by
  obtain⟨a,ha,rfl⟩:=List.mem_map.1 hi
  obtain⟨b,hb,rfl⟩:=List.mem_map.1 ha
  have:=List.mem_range.1 hb
  exact h0 _ (by omega) (by omega)
 rw[e1,e2,List.nil_append,List.append_nil,List.flatMap_map]
theorem filterMap_flat {γ:Type} (l:List Nat) (f:Nat→Option γ):l.filterMap f=l.flatMap fun i=>(f i).toList:=by
 induction l with
 | nil=>rfl
 | cons a l ih =>
  rw[List.filterMap_cons,List.flatMap_cons,ih]
  cases f a <;> rfl
theorem keep_sub {rows:List β} {f:Nat→Nat→β} {p:Nat→Bool} {pw pd x0 z0 w d:Nat} (hlen:rows.length=pd*pw) (hrow:∀ i j,i<pw→j<pd→rows[j*pw+i]? = some (f i j))
  (hp:∀ i j,i<pw→j<pd→(p (j*pw+i)=true↔(x0≤i∧i<x0+w)∧z0≤j∧j<z0+d)) (hx:x0+w≤pw) (hz:z0+d≤pd) (hw:0<w):keepL rows p=gridT w d fun i j=>f (x0+i) (z0+j):=by
 unfold keepL keepT
 rw[hlen,rows_flat,gridT_rows hw,part_flat pd z0 d hz]
 ·rw[List.flatMap_def,List.flatMap_def]
  congr 1
  refine List.map_congr_left fun j hj=>?_
  have hj':=List.mem_range.1 hj
  rw[filterMap_flat,part_flat pw x0 w hx]
  ·have e:(List.range w).map (fun i=>f (x0+i) (z0+j))=(List.range w).flatMap fun i=>[f (x0+i) (z0+j)]:=by
    rw[List.flatMap_def,List.map_eq_flatMap,List.flatMap_def]
   rw[e,List.flatMap_def,List.flatMap_def]
   congr 1
   refine List.map_congr_left fun i hi=>?_
   have hi':=List.mem_range.1 hi
   rw[if_pos ((hp _ _ (by omega) (by omega)).2 (by omega)),hrow _ _ (by omega) (by omega)]
   rfl
  ·intro i hi hn
   rw[if_neg (fun c=>hn ((hp i _ hi (by omega)).1 c).1)]
   rfl
 ·intro j hj hn
  rw[filterMap_flat]
  refine List.flatMap_eq_nil_iff.2 fun i hi=>?_
  rw[if_neg (fun c=>hn ((hp i j (List.mem_range.1 hi) hj).1 c).2)]
  rfl
end
structure Bd where
 (x z w d:Int)
def Bd.zero:Bd:=⟨0,0,0,0⟩
def tlR (n:Int):Int:=Int.tdiv (n - 1) 8+1
def tlW (C:CfgR):Int:=if C.err=0 then tlR C.wd else 0
def tlD (C:CfgR):Int:=if C.err=0 then tlR C.dp else 0
def tilOk (C:CfgR) (tx tz:Int):Bool:=wiB tx 0 (tlW C - 1)&&wiB tz 0 (tlD C - 1)
def tilB (C:CfgR) (tx tz:Int):Bd:=if tilOk C tx tz=true then ⟨8*tx,8*tz,min 8 (C.wd - 8*tx),min 8 (C.dp - 8*tz)⟩else Bd.zero
def padB (C:CfgR) (b:Bd):Bd:=⟨b.x - (C.cl+4),b.z - (C.cl+4),b.w+2*(C.cl+4),b.d+2*(C.cl+4)⟩
def padT (C:CfgR) (tx tz:Int):Bd:=if tilOk C tx tz=true then padB C (tilB C tx tz)else Bd.zero
theorem cfg_in {C:CfgR} (h:C.err=0):(0≤C.cl∧C.cl≤3)∧(1≤C.wd∧C.wd≤32)∧(1≤C.dp∧C.dp≤32):=by
 unfold CfgR.err checkE checkB at h
 split at h
 ·rename_i h2
  simp only[Bool.and_eq_true,decide_eq_true_eq]at h2
  omega
 ·cases h
theorem tlR_is {n:Int} (h:1≤n):tlR n=(n - 1) / 8+1:=by
 unfold tlR
 rw[Int.tdiv_eq_ediv_of_nonneg (by omega)]
structure Til (C:CfgR) (b:Bd):Prop where
 e:C.err=0
 x:0≤b.x∧b.x≤24
 z:0≤b.z∧b.z≤24
 w:1≤b.w∧b.w≤8
 d:1≤b.d∧b.d≤8
 wd:b.x+b.w≤C.wd
 dp:b.z+b.d≤C.dp
theorem til_ok {C:CfgR} {tx tz:Int} (h:tilOk C tx tz=true):Til C (tilB C tx tz)∧tilB C tx tz=⟨8*tx,8*tz,min 8 (C.wd - 8*tx),min 8 (C.dp - 8*tz)⟩∧(0≤tx∧tx≤3)∧(0≤tz∧tz≤3):=by
 have e:tilB C tx tz=⟨8*tx,8*tz,min 8 (C.wd - 8*tx),min 8 (C.dp - 8*tz)⟩:=by unfold tilB;rw[if_pos h]
 unfold tilOk at h
 rw[Bool.and_eq_true,wiB_iff,wiB_iff]at h
 unfold tlW tlD at h
 by_cases hC:C.err=0
 ·rw[if_pos hC,if_pos hC]at h
  obtain⟨h1,h2,h3⟩:=cfg_in hC
  rw[tlR_is (by omega),tlR_is (by omega)]at h
  refine⟨?_,e,by omega,by omega⟩
  rw[e]
  exact⟨hC,by dsimp only;omega,by dsimp only;omega,by dsimp only;omega,by dsimp only;omega,by dsimp only;omega,by dsimp only;omega⟩
 ·rw[if_neg hC,if_neg hC]at h
  omega
def Bd.has (b:Bd) (x z:Int):Bool:=wiB x b.x (b.x+b.w - 1)&&wiB z b.z (b.z+b.d - 1)
theorem Bd.has_iff {b:Bd} {x z:Int}:b.has x z=true↔(b.x≤x∧x≤b.x+b.w - 1)∧b.z≤z∧z≤b.z+b.d - 1:=by unfold Bd.has;rw[Bool.and_eq_true,wiB_iff,wiB_iff]
structure Box4 (b:Bd):Prop where
 x : -64≤b.x∧b.x≤64
 z : -64≤b.z∧b.z≤64
 w:1≤b.w∧b.w≤64
 d:1≤b.d∧b.d≤64
theorem Til.box {C:CfgR} {b:Bd} (h:Til C b):Box4 b:=by obtain⟨h1,h2,h3,h4,h5,-,-⟩:=h;exact⟨by omega,by omega,by omega,by omega⟩
theorem Til.pad {C:CfgR} {b:Bd} (h:Til C b):Box4 (padB C b):=by
 obtain⟨h1,-,-⟩:=cfg_in h.e
 obtain⟨h0,h2,h3,h4,h5,-,-⟩:=h
 unfold padB
 exact⟨by dsimp only;omega,by dsimp only;omega,by dsimp only;omega,by dsimp only;omega⟩
theorem Box4.nat {b:Bd} (h:Box4 b):∃ w d:Nat,b.w=w∧b.d=d∧1≤w∧w≤64∧1≤d∧d≤64∧b.w.toNat=w∧b.d.toNat=d:=by
 obtain⟨-,-,h3,h4⟩:=h
 exact⟨b.w.toNat,b.d.toNat,by omega,by omega,by omega,by omega,by omega,by omega,rfl,rfl⟩
end Go.Proofs.YtmhghnbgllaihaaGreatDoor
