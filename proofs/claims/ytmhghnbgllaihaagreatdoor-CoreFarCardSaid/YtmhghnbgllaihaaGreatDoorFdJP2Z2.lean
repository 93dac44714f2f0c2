import Derived.Test.YtmhghnbgllaihaaGreatDoorLkIP2Z2
import Derived.Test.YtmhghnbgllaihaaGreatDoorOgX0P2Z2
import Derived.Test.YtmhghnbgllaihaaGreatDoorWholeMP2Z2
import Derived.Test.YtmhghnbgllaihaaGreatDoorLooseEP2Z2
import Derived.Maps.AppendAt
set_option linter.unusedVariables false
set_option maxHeartbeats 16000000
set_option maxRecDepth 100000

namespace Go.Proofs.YtmhghnbgllaihaaGreatDoor
open Go.RowKit
theorem OnAt.blk {C:CfgR} {G:Gd} {n:Nat} {W W':World} {B:Nat} (h:OnAt C G n W B) (e:W'.heap[B]? = W.heap[B]?):OnAt C G n W' B:=by
 have k:∀ (o:Nat) (v:Value),W.cell? ⟨B,o,none⟩=some v→W'.cell? ⟨B,o,none⟩=some v:=fun o v hc=>(World.cell?_of_block (a:=⟨B,o,none⟩) e).trans hc
 exact⟨k _ _ h.c0,k _ _ h.c1,k _ _ h.c2,k _ _ h.c3,k _ _ h.c4,k _ _ h.c5,k _ _ h.c6,k _ _ h.g0,k _ _ h.g1,k _ _ h.g2,k _ _ h.g3,k _ _ h.g4⟩
theorem SdAt.blk {s:Sdk} {W W':World} {B:Nat} (h:SdAt s W B) (e:W'.heap[B]? = W.heap[B]?):SdAt s W' B:=by
 have k:∀ (o:Nat) (v:Value),W.cell? ⟨B,o,none⟩=some v→W'.cell? ⟨B,o,none⟩=some v:=fun o v hc=>(World.cell?_of_block (a:=⟨B,o,none⟩) e).trans hc
 exact⟨k _ _ h.c0,k _ _ h.c1,k _ _ h.c2⟩
def LiAt (f:Nat→Int) (W:World) (P:Nat):Prop:=∀ j,j<4→W.cell? ⟨P,j,none⟩=some (.int .i64 (f j))∧W.frozen? ⟨P,j,none⟩=false
theorem LiAt.new {f:Nat→Int} {W W':World} {P:Nat} (h:LiAt f W P) (q:New W W'):LiAt f W' P:=fun j hj=>⟨q.keep (h j hj).1,q.keepF (h j hj).1 (h j hj).2⟩
theorem LiAt.blk {f:Nat→Int} {W W':World} {P:Nat} (h:LiAt f W P) (e:W'.heap[P]? = W.heap[P]?):LiAt f W' P:=fun j hj =>
 ⟨(World.cell?_of_block (a:=⟨P,j,none⟩) e).trans (h j hj).1,(World.frozen?_of_block (a:=⟨P,j,none⟩) e).trans (h j hj).2⟩
theorem LiAt.put {f:Nat→Int} {W:World} {P:Nat} (h:LiAt f W P) {i:Nat} (hi:i<4) (a:Int) {g:Nat→Int} (hg:∀ j,j<4→g j=if j=i then a else f j):LiAt g (W.setCell ⟨P,i,none⟩ (.int .i64 a)) P:=fun j hj=>by
 refine⟨?_,by rw[World.frozen?_setCell];exact(h j hj).2⟩
 rw[hg j hj]
 by_cases e:j=i
 ·subst e
  rw[if_pos rfl]
  exact World.cell?_setCell_same _ _ _ (h j hj).1
 ·rw[if_neg e,World.cell?_setCell_other _ _ _ _ (by intro q;injection q with _ q;exact e q.symm)]
  exact(h j hj).1
def lkTo (C:CfgR) (G:Gd) (s:Sdk) (i j:Nat):Int:=if j<i then oneL (toS C G s j)else 0
theorem lkTo_succ (C:CfgR) (G:Gd) (s:Sdk) (i j:Nat):lkTo C G s (i+1) j=if j=i then oneL (toS C G s i)else lkTo C G s i j:=by
 unfold lkTo
 by_cases h:j=i
 ·subst h;simp
 ·rw[if_neg h]
  by_cases h2:j<i
  ·rw[if_pos h2,if_pos (by omega)]
  ·rw[if_neg h2,if_neg (by omega)]
theorem lk_links (C:CfgR) (G:Gd) (hE:gE G=0) (s:Sdk) (w0 w:World) (hn0:New w0 w) (h:G.ok w0) (hD:Dirs w):Calls Tryz.prog 142 #[.agg #[.int .i64 C.cl,.int .i64 C.cb,.int .i64 C.ht,.int .i64 C.ri,.int .i64 C.ru,.int .i64 C.wd,.int .i64 C.dp,.int .i64 G.x,.int .i64 G.z,.int .i64 G.w,.int .i64 G.d,.slice G.ga G.L.length G.gc],.agg #[.int .i64 s.x,.int .i64 s.z,.int .i64 s.k]] w fun e w'=>e=.returned (.agg #[.int .i64 (lkS C G s).a,.int .i64 (lkS C G s).b,.int .i64 (lkS C G s).c,.int .i64 (lkS C G s).d])∧New w w':=by
 have KT:=Lib.hid (fun d W (q:New w W)=>lk_to C G hE s d w0 W (hn0.trans q) h (hD.new q))
 obtain⟨n,hn⟩:∃ n,n=G.L.length:=⟨_,rfl⟩
 rw[←hn]at KT ⊢
 clear hn h hD
 have HS:=Lib.hid (fun i j=>lkTo_succ C G s i j)
 have H4:Hid (lkTo C G s 4 0=(lkS C G s).a∧lkTo C G s 4 1=(lkS C G s).b∧lkTo C G s 4 2=(lkS C G s).c∧lkTo C G s 4 3=(lkS C G s).d):=Lib.hid ⟨rfl,rfl,rfl,rfl⟩
 have H0:Hid (∀ j,lkTo C G s 0 j=0):=Lib.hid (fun j=>by unfold lkTo;rw[if_neg (by omega)])
 generalize lkTo C G s=lt at *
 generalize lkS C G s=x at *
 generalize toS C G s=tn at *
 go_enter Tryz.func142,Tryz.ntmps142
 go_upto_region 2 with fail
 refine Code.at (fun W2 hW=>?_)
 have N2:Hid (New w W2):=Lib.hid (by subst hW;exact nw)
 have HG:Hid (OnAt C G n W2 w.heap.size):=Lib.hid (by subst hW;exact⟨by go_simp,by go_simp,by go_simp,by go_simp,by go_simp,by go_simp,by go_simp,by go_simp,by go_simp,by go_simp,by go_simp,by go_simp⟩)
 have HP:Hid (SdAt s W2 (w.heap.size+1)):=Lib.hid (by subst hW;exact⟨by go_simp,by go_simp,by go_simp⟩)
 have HR:Hid (LiAt (fun _=>0) W2 (w.heap.size+1+1)):=Lib.hid (by
  subst hW
  intro j hj
  rcases(show j=0∨j=1∨j=2∨j=3 by omega)with rfl|rfl|rfl|rfl <;> exact⟨by go_simp,by go_simp⟩)
 have HL:Hid (LiAt (lt 0) W2 (w.heap.size+1+1+1)):=Lib.hid (by
  subst hW
  intro j hj
  rw[H0.out]
  rcases(show j=0∨j=1∨j=2∨j=3 by omega)with rfl|rfl|rfl|rfl <;> exact⟨by go_simp,by go_simp⟩)
 have HZ:Hid (W2.heap.size=w.heap.size+4):=Lib.hid (by subst hW;simp)
 clear hW
 obtain⟨P,hP⟩:∃ P,P=w.heap.size+1+1+1:=⟨_,rfl⟩
 rw[←hP]at HL ⊢
 have HPP:=Lib.hid hP
 clear hP
 obtain⟨b0,hb0⟩:∃ b,b=W2.heap.size:=⟨_,rfl⟩
 have HB0:=Lib.hid hb0
 clear hb0
 go_wp2_with fail
 go_loopg [9] 4 (fun gk s9 wr=>∃ i:Nat,s9=.int .i64 i∧i≤4∧4 - i≤gk∧Hid (LiAt (lt i) wr P)∧Hid (Bar b0 P W2 wr)∧Hid (New w wr))
 case atStart=>exact⟨0,rfl,by omega,by omega,HL,Lib.hid (Bar.refl (Nat.le_of_eq HB0.out)),N2⟩
 case round =>
  obtain⟨i,rfl,hi,hgk,HLr,HBr,HNr⟩:=hrel
  have hbb:∀ b,b<b0→b≠P→wr.heap[b]? = W2.heap[b]? := HBr.out.2
  have HGr:=Lib.hid (HG.out.blk (hbb _ (by have:=HB0.out;have:=HZ.out;omega) (by have:=HPP.out;omega)))
  have HPr:=Lib.hid (HP.out.blk (hbb _ (by have:=HB0.out;have:=HZ.out;omega) (by have:=HPP.out;omega)))
  have HRr:=Lib.hid (HR.out.blk (hbb _ (by have:=HB0.out;have:=HZ.out;omega) (by have:=HPP.out;omega)))
  clear hbb
  by_cases hlt:i<4
  ·obtain⟨l0,l1⟩:=HLr.out i hlt
   go_upto_region 6 with fail
   refine Code.at (fun W5 hW=>?_)
   have HL5:Hid (LiAt (fun j=>if j=i then -1 else lt i j) W5 P):=Lib.hid (by subst hW;exact HLr.out.put hlt (-1) (fun j _=>rfl))
   have HB5:Hid (Bar b0 P W2 W5):=Lib.hid (by subst hW;exact HBr.out.set _ _)
   have HN5:Hid (New w W5):=Lib.hid (by subst hW;exact New.setB (p:=⟨P,i,none⟩) (by have:=HPP.out;show w.heap.size≤P;omega) HNr.out _)
   have HG5:Hid (OnAt C G n W5 w.heap.size):=Lib.hid (by subst hW;exact HGr.out.blk (Below.heap_setCell _ _ _ _ (show w.heap.size≠P by have:=HPP.out;omega)))
   have HP5:Hid (SdAt s W5 (w.heap.size+1)):=Lib.hid (by subst hW;exact HPr.out.blk (Below.heap_setCell _ _ _ _ (show w.heap.size+1≠P by have:=HPP.out;omega)))
   clear hW l0 l1 HGr HPr HRr HLr HBr HNr
   have KTi:=Lib.hid (KT.out i)
   have HSi:=Lib.hid (HS.out i)
   obtain⟨o,ho⟩:∃ o,o=tn i:=⟨_,rfl⟩
   rw[←ho]at KTi HSi
   clear ho
   obtain⟨c0,c1,c2,c3,c4,c5,c6,g0,g1,g2,g3,g4⟩:=HG5.out
   obtain⟨p0,p1,p2⟩:=HP5.out
   go_wp2_with fail
   refine(KTi.out _ HN5.out).mono ?_
   rintro e w6 ⟨rfl,n6⟩
   clear c0 c1 c2 c3 c4 c5 c6 g0 g1 g2 g3 g4
   clear p0 p1 p2 HG5 HP5 KTi
   replace HL5:=Lib.hid (HL5.out.new n6)
   replace HB5:=Lib.hid (HB5.out.new n6)
   replace HN5:=Lib.hid (HN5.out.trans n6)
   have hPz:P<w6.heap.size:=World.block_lt_of_cell? _ _ (HL5.out 0 (by omega)).1
   clear n6
   go_upto_region 7 with fail
   refine Code.at (fun W7 hW=>?_)
   have n7:New w6 W7:=by subst hW;exact nw
   have q2:W7.cell? ⟨w6.heap.size,2,none⟩=some (.int .i64 (sdO o).k):=by subst hW;go_simp
   clear hW
   replace HL5:=Lib.hid (HL5.out.new n7)
   replace HB5:=Lib.hid (HB5.out.new n7)
   replace HN5:=Lib.hid (HN5.out.trans n7)
   clear n7
   obtain⟨l0,l1⟩:=HL5.out i hlt
   have hne:P≠w6.heap.size:=by omega
   rcases o with _|t
   ·simp only[Option.isSome_none]
    have hnx:Hid (LiAt (lt (i+1)) W7 P):=Lib.hid (fun j hj=>by
     have:=HL5.out j hj
     rw[HSi.out j]
     exact this)
    go_wp2_with fail
    go_roundg (4 - (i+1))
    case measure=>omega
    case rel=>exact⟨i+1,by go_num,by omega,by omega,hnx,HB5,HN5⟩
   ·simp only[Option.isSome_some]
    have hnx:Hid (LiAt (lt (i+1)) (W7.setCell ⟨P,i,none⟩ (.int .i64 t.k)) P):=Lib.hid (HL5.out.put hlt t.k (fun j hj=>by
     rw[HSi.out j]
     by_cases e:j=i
     ·simp[e,oneL]
     ·simp[e]))
    have q2':W7.cell? ⟨w6.heap.size,2,none⟩=some (.int .i64 t.k):=q2
    have HB6:=Lib.hid (HB5.out.set i (.int .i64 t.k))
    have HN6:Hid (New w (W7.setCell ⟨P,i,none⟩ (.int .i64 t.k))):=Lib.hid (New.setB (p:=⟨P,i,none⟩) (by have:=HPP.out;show w.heap.size≤P;omega) HN5.out _)
    clear q2 HL5 HB5 HN5
    go_wp2_with fail
    go_roundg (4 - (i+1))
    case measure=>omega
    case rel=>exact⟨i+1,by go_num,by omega,by omega,hnx,HB6,HN6⟩
  ·obtain rfl:i=4:=by omega
   have l0:=(HLr.out 0 (by omega)).1
   have l1:=(HLr.out 1 (by omega)).1
   have l2:=(HLr.out 2 (by omega)).1
   have l3:=(HLr.out 3 (by omega)).1
   rw[H4.out.1]at l0
   rw[H4.out.2.1]at l1
   rw[H4.out.2.2.1]at l2
   rw[H4.out.2.2.2]at l3
   obtain⟨z0,f0⟩:=HRr.out 0 (by omega)
   obtain⟨z1,f1⟩:=HRr.out 1 (by omega)
   obtain⟨z2,f2⟩:=HRr.out 2 (by omega)
   obtain⟨z3,f3⟩:=HRr.out 3 (by omega)
   have nn:=HNr.out
   clear HGr HPr HRr HLr HBr HNr
   go_wp2_with fail
   generalize hW5:World.setCell _ _ _=W5
   have n5:New w W5:=by subst hW5;exact nw
   have k0:W5.cell? ⟨w.heap.size+1+1,0,none⟩=some (.int .i64 x.a):=by subst hW5;go_simp
   have k1:W5.cell? ⟨w.heap.size+1+1,1,none⟩=some (.int .i64 x.b):=by subst hW5;go_simp
   have k2:W5.cell? ⟨w.heap.size+1+1,2,none⟩=some (.int .i64 x.c):=by subst hW5;go_simp
   have k3:W5.cell? ⟨w.heap.size+1+1,3,none⟩=some (.int .i64 x.d):=by subst hW5;go_simp
   clear hW5 z0 z1 z2 z3 f0 f1 f2 f3 l0 l1 l2 l3
   refine bodyPost_ret (v:=.agg #[.int .i64 x.a,.int .i64 x.b,.int .i64 x.c,.int .i64 x.d]) (by simp[results,Tryz.results142,go_sem, *]) rfl ?_
   exact⟨rfl,n5⟩
theorem lk_info:(Tryz.prog.info? 185).map (fun i=>(i.zero,i.size,i.bytes))=some (some (.agg #[.int .i64 0,.int .i64 0,.int .i64 0,.int .i64 0]),4,32):=by kernel_rfl
theorem lks_info:(Tryz.prog.info? 183).map (fun i=>(i.zero,i.size,i.bytes))=some (some (.slice none 0 0),1,24):=by kernel_rfl
theorem lk_new (w:World) (s:Lnk) (t:TypeId):Sl Lnk.enc 4 (w.alloc (.cells #[.int .i64 s.a,.int .i64 s.b,.int .i64 s.c,.int .i64 s.d] t)) (.slice (some ⟨w.heap.size,0,none⟩) 1 1) [s] :=
 ⟨_,_,rfl,Nat.le_refl _,by unfold maxLen;omega,fun h=>(by cases h),fun _=>⟨w.heap.size,0,rfl,fun j hj i hi=>by
  have hj':j=0:=by simpa using hj
  subst hj'
  have hi':i<4:=hi
  have hz:=heap_new w (.cells #[.int .i64 s.a,.int .i64 s.b,.int .i64 s.c,.int .i64 s.d] t)
  rcases(show i=0∨i=1∨i=2∨i=3 by omega)with rfl|rfl|rfl|rfl <;> exact cell_of_heap hz rfl⟩⟩
theorem lkC_take (C:CfgR) (G:Gd) (i:Nat) {k:Nat} (h:k<(gcol G i).length):(lkC C G i).take (k+1)=(lkC C G i).take k++[lkS C G (sdI G i k)]:=by
 have e:(lkC C G i)[k]? = some (lkS C G (sdI G i k)):=by
  unfold lkC
  rw[List.getElem?_map,List.getElem?_range h]
  rfl
 obtain⟨h2,h3⟩:=List.getElem?_eq_some_iff.1 e
 rw[List.take_succ_eq_append_getElem h2,h3]
theorem lkL_take (C:CfgR) (G:Gd) (i:Nat):(List.range (i+1)).map (lkC C G)=(List.range i).map (lkC C G)++[lkC C G i]:=by
 rw[List.range_succ,List.map_append]
 rfl
theorem lk_columns (C:CfgR) (G:Gd) (hE:gE G=0) (w:World) (h:G.ok w) (hD:Dirs w):Calls Tryz.prog 141 #[.agg #[.int .i64 G.x,.int .i64 G.z,.int .i64 G.w,.int .i64 G.d,.slice G.ga G.L.length G.gc],.func (.func 142) #[.agg #[.int .i64 C.cl,.int .i64 C.cb,.int .i64 C.ht,.int .i64 C.ri,.int .i64 C.ru,.int .i64 C.wd,.int .i64 C.dp,.int .i64 G.x,.int .i64 G.z,.int .i64 G.w,.int .i64 G.d,.slice G.ga G.L.length G.gc]] #[]] w fun e w'=>∃ v,e=.returned v∧RowsK Lnk.enc 4 w' v (lkL C G)∧New w w':=by
 obtain⟨i0,hi0,hz0,hz1,hz2⟩:=info_parts lk_info
 obtain⟨i1,hi1,hy0,hy1,hy2⟩:=info_parts lks_info
 have KT:=Lib.hid (fun s W (q:New w W)=>lk_links C G hE s w W q h (hD.new q))
 have HH:Hid (RowsK Fl.enc 3 w (.slice G.ga G.L.length G.gc) G.L):=Lib.hid h
 have hb:=placeB_iff.1 (gd_is hE).1
 have HE:=Lib.hid hE
 have HLN:=Lib.hid (gd_is hE).2.1
 have hlen:G.L.length≤4096:=by
  have:=mul_64 hb.2.2.1.1 hb.2.2.1.2 hb.2.2.2.1 hb.2.2.2.2
  have:=(gd_is hE).2.1
  omega
 obtain⟨n,hn⟩:∃ n,n=G.L.length:=⟨_,rfl⟩
 rw[←hn]at KT HH hlen ⊢
 have HN:=Lib.hid hn
 obtain⟨ga,hga⟩:∃ q,q=G.ga:=⟨_,rfl⟩
 rw[←hga]at KT HH ⊢
 obtain⟨wN,hwN⟩:∃ q,q=G.w.toNat:=⟨_,rfl⟩
 have HW:=Lib.hid hwN
 have hwi:G.w=wN:=by omega
 have HWI:=Lib.hid hwi
 rw[hwi]at KT ⊢
 have hw64:wN≤64:=by omega
 have hx64 : -64≤G.x∧G.x≤64:=by omega
 have hz64 : -64≤G.z∧G.z≤64:=by omega
 have hwp:Hid (0<n→0<wN):=Lib.hid (fun hp=>by
  have h1:=HLN.out
  rw[hwi,←hn]at h1
  rcases Nat.eq_zero_or_pos wN with q|q
  ·rw[q]at h1;simp at h1;omega
  ·exact q)
 have hdv:Hid (∀ i,i<n→i / wN≤4096):=Lib.hid (fun i h=>by have:=Nat.div_le_self i wN;omega)
 have HLL:Hid (lkL C G=(List.range n).map (lkC C G)):=Lib.hid (by unfold lkL;rw[←hn])
 have HTK:=Lib.hid (fun i k (q:k<(gcol G i).length)=>lkC_take C G i q)
 have HTL:=Lib.hid (fun i=>lkL_take C G i)
 have HCL:=Lib.hid (fun i=>lkC_len C G i)
 generalize lkL C G=LL at *
 clear hn h hE hga hwN hwi hb hD
 go_enter Tryz.func141,Tryz.ntmps141
 go_upto_region 2 with fail
 refine Code.at (fun W0 hW=>?_)
 have n0:New w W0:=by subst hW;exact nw
 have g0:W0.cell? ⟨w.heap.size,0,none⟩=some (.int .i64 G.x):=by subst hW;go_simp
 have g1:W0.cell? ⟨w.heap.size,1,none⟩=some (.int .i64 G.z):=by subst hW;go_simp
 have g2:W0.cell? ⟨w.heap.size,2,none⟩=some (.int .i64 wN):=by subst hW;go_simp
 have g3:W0.cell? ⟨w.heap.size,3,none⟩=some (.int .i64 G.d):=by subst hW;go_simp
 have g4:W0.cell? ⟨w.heap.size,4,none⟩=some (.slice ga n G.gc):=by subst hW;go_simp
 clear hW
 have HG:=Lib.hid (fun W (q:New W0 W)=>And.intro (q.keep g0) (And.intro (q.keep g1) (And.intro (q.keep g2) (And.intro (q.keep g3) (q.keep g4)))))
 obtain⟨base,hbase⟩:∃ q,q=W0.heap.size:=⟨_,rfl⟩
 have HBS:=Lib.hid hbase
 have N0:=Lib.hid n0
 clear hbase n0
 go_wp2_with fail
 clear g0 g1 g2 g3 g4
 go_loopg [13,5] n (fun gk s13 s5 wr=>∃ (i:Nat) (ra:Option Addr) (rn rc:Nat) (us:List Value),s13=.int .i64 i∧s5=.slice ra rn rc∧i≤n∧n - i≤gk∧Hid (RowsOK Lnk.enc 4 183 base wr (.slice ra rn rc) us ((List.range i).map (lkC C G)))∧Hid (New W0 wr))
 case atStart=>exact⟨0,none,0,0,[],rfl,rfl,by omega,by omega,Lib.hid RowsOK.nil,Lib.hid (New.refl _)⟩
 case round =>
  obtain⟨i,ra,rn,rc,us,rfl,rfl,hi',hgk,HRO,hnr⟩:=hrel
  by_cases hlt:i<n
  ·have HGK:=Lib.hid hgk
   have hil:i<G.L.length:=by rw[←HN.out];exact hlt
   obtain⟨b,off,a,c,rfl,hc,hs⟩:=(HH.out.keep (N0.out.trans hnr.out)).at i hil
   have hc8:=gcol_len HE.out i
   have hcl:=gcol_at hil
   rw[←hcl]at hc hs
   obtain⟨m,hm⟩:∃ q,q=(gcol G i).length:=⟨_,rfl⟩
   rw[←hm]at hc8 hc
   have HM:=Lib.hid hm
   rename World=>Wo
   obtain⟨base2,hb2⟩:∃ q,q=Wo.heap.size:=⟨_,rfl⟩
   have HB2:=Lib.hid hb2
   clear hb2 hgk hm hcl hs
   go_wp2_with fail
   clear hc
   go_loopg [20,8] m (fun gk s20 s8 wr=>∃ (k:Nat) (ca:Option Addr) (cn cc:Nat),s20=.int .i64 k∧s8=.slice ca cn cc∧k≤m∧m - k≤gk∧Hid (wr.ownsRow base2 185 4 (.slice ca cn cc) ((lkC C G i).take k).length (((lkC C G i).take k).flatMap Lnk.enc))∧Hid (New Wo wr))
   case atStart=>exact⟨0,none,0,0,rfl,rfl,by omega,by omega,Lib.hid (by rw[List.take_zero];exact World.ownsRow_nil _ _ _ _),Lib.hid (New.refl _)⟩
   case round =>
    obtain⟨k,ca,cn,cc,rfl,rfl,hk,hgk,hown,hnk⟩:=hrel
    by_cases hkt:k<m
    ·have hkl:k<(gcol G i).length:=by rw[←HM.out];exact hkt
     have hsu:=HTK.out i k hkl
     have hst:sdI G i k=⟨G.x+((i % wN:Nat):Int),G.z+((i / wN:Nat):Int),k⟩:=by unfold sdI;rw[←HW.out]
     rw[hst]at hsu
     have hsl:((lkC C G i).take k).length≤k:=by rw[List.length_take];omega
     have hwp':=hwp.out (by omega)
     have hmod:i % wN<wN:=Nat.mod_lt _ hwp'
     have hdv':=hdv.out i hlt
     obtain⟨xm,hxm⟩:∃ q,q=i % wN:=⟨_,rfl⟩
     obtain⟨zm,hzm⟩:∃ q,q=i / wN:=⟨_,rfl⟩
     have hr1:((i:Int).tmod (wN:Int))=(xm:Int):=by rw[hxm];rfl
     have hr2:((i:Int).tdiv (wN:Int))=(zm:Int):=by rw[hzm];rfl
     rw[←hxm]at hmod hsu
     rw[←hzm]at hdv' hsu
     have HSU:=Lib.hid hsu
     have hxw:IntKind.i64.wrap (G.x+(xm:Int))=G.x+xm:=IntWalk.i64_in _ (by omega)
     have hzw:IntKind.i64.wrap (G.z+(zm:Int))=G.z+zm:=IntWalk.i64_in _ (by omega)
     have hw1:IntKind.i64.wrap (xm:Int)=xm:=IntWalk.i64_in _ (by omega)
     have hw2:IntKind.i64.wrap (zm:Int)=zm:=IntWalk.i64_in _ (by omega)
     have hwne:¬ wN=0:=by omega
     have KTi:=Lib.hid (fun W q=>KT.out ⟨G.x+(xm:Nat),G.z+(zm:Nat),k⟩ W q)
     obtain⟨x,hx⟩:∃ x,x=lkS C G ⟨G.x+(xm:Nat),G.z+(zm:Nat),k⟩:=⟨_,rfl⟩
     rw[←hx]at KTi HSU
     obtain⟨pre,hpre⟩:∃ q,q=(lkC C G i).take k:=⟨_,rfl⟩
     rw[←hpre]at HSU hown hsl
     have hn3:=N0.out.trans (hnr.out.trans hnk.out)
     have HN3:=Lib.hid hn3
     have hr5:base2≤wr.heap.size:=by rw[HB2.out];exact hnk.out.size
     clear hxm hzm hst hsu hx hpre hn3
     obtain⟨g0,g1,g2,g3,g4⟩:=HG.out _ (hnr.out.trans hnk.out)
     clear g3 g4
     go_upto_region 9 with fail
     refine wp_region_loose 20 (fixV [.slice ca cn cc,.func (.func 142) #[.agg #[.int .i64 C.cl,.int .i64 C.cb,.int .i64 C.ht,.int .i64 C.ri,.int .i64 C.ru,.int .i64 C.wd,.int .i64 C.dp,.int .i64 G.x,.int .i64 G.z,.int .i64 (wN:Nat),.int .i64 G.d,.slice (some ⟨b,off,none⟩) n G.gc]] #[],.pointer (some ⟨w.heap.size,0,none⟩),.int .i64 G.x,.int .i64 (i:Nat),.pointer (some ⟨w.heap.size,2,none⟩),.int .i64 (wN:Nat),.int .i64 (xm:Nat),.int .i64 (G.x+(xm:Nat)),.pointer (some ⟨w.heap.size,1,none⟩),.int .i64 G.z,.int .i64 (i:Nat),.pointer (some ⟨w.heap.size,2,none⟩),.int .i64 (wN:Nat),.int .i64 (zm:Nat),.int .i64 (G.z+(zm:Nat)),.int .i64 (k:Nat),.agg #[.int .i64 (G.x+(xm:Nat)),.int .i64 (G.z+(zm:Nat)),.int .i64 (k:Nat)],.agg #[.int .i64 x.a,.int .i64 x.b,.int .i64 x.c,.int .i64 x.d]] (fun W v=>Sl Lnk.enc 4 W v [x])) (by kernel_rfl) (by kernel_rfl) (fixV_keep (fun _ _ _ h n=>h.keep n) _) ?_ ?_
     ·intro i' o hi2 ho a' w' nn hr hdd
      rcases(show i'=0∨i'=1∨i'=2∨i'=3∨i'=4∨i'=5∨i'=6∨i'=7∨i'=8∨i'=9∨i'=10∨i'=11∨i'=12∨i'=13∨i'=14∨i'=15∨i'=16∨i'=17∨i'=18∨i'=19 by omega)with rfl|rfl|rfl|rfl|rfl|rfl|rfl|rfl|rfl|rfl|rfl|rfl|rfl|rfl|rfl|rfl|rfl|rfl|rfl|rfl <;> obtain rfl:=Option.some.inj ho
      ·have r8:(a'.tmps[8]?).getD undef=.slice ca cn cc:=(eval_get a' 8).symm.trans (hr 8 (by kernel_rfl))
       exact yields_value (.slice ca cn cc) (by go_simp) ⟨New.refl _,rfl⟩
      ·have r1:(a'.tmps[1]?).getD undef=.func (.func 142) #[.agg #[.int .i64 C.cl,.int .i64 C.cb,.int .i64 C.ht,.int .i64 C.ri,.int .i64 C.ru,.int .i64 C.wd,.int .i64 C.dp,.int .i64 G.x,.int .i64 G.z,.int .i64 (wN:Nat),.int .i64 G.d,.slice (some ⟨b,off,none⟩) n G.gc]] #[]:=(eval_get a' 1).symm.trans (hr 1 (by kernel_rfl))
       exact yields_value (.func (.func 142) #[.agg #[.int .i64 C.cl,.int .i64 C.cb,.int .i64 C.ht,.int .i64 C.ri,.int .i64 C.ru,.int .i64 C.wd,.int .i64 C.dp,.int .i64 G.x,.int .i64 G.z,.int .i64 (wN:Nat),.int .i64 G.d,.slice (some ⟨b,off,none⟩) n G.gc]] #[]) (by go_simp) ⟨New.refl _,rfl⟩
      ·have r2:(a'.tmps[2]?).getD undef=.pointer (some ⟨w.heap.size,0,none⟩):=(eval_get a' 2).symm.trans (hr 2 (by kernel_rfl))
       exact yields_value (.pointer (some ⟨w.heap.size,0,none⟩)) (by go_simp) ⟨New.refl _,rfl⟩
      ·have r25:(a'.tmps[25]?).getD undef=.pointer (some ⟨w.heap.size,0,none⟩):=(eval_get a' 25).symm.trans (hdd 2 25 (by omega) (by kernel_rfl) (by kernel_rfl))
       replace g0:=nn.keep g0
       exact yields_value (.int .i64 G.x) (by go_simp) ⟨New.refl _,rfl⟩
      ·have r6:(a'.tmps[6]?).getD undef=.int .i64 (i:Nat):=(eval_get a' 6).symm.trans (hr 6 (by kernel_rfl))
       exact yields_value (.int .i64 (i:Nat)) (by go_simp) ⟨New.refl _,rfl⟩
      ·have r2:(a'.tmps[2]?).getD undef=.pointer (some ⟨w.heap.size,0,none⟩):=(eval_get a' 2).symm.trans (hr 2 (by kernel_rfl))
       exact yields_value (.pointer (some ⟨w.heap.size,2,none⟩)) (by go_simp) ⟨New.refl _,rfl⟩
      ·have r28:(a'.tmps[28]?).getD undef=.pointer (some ⟨w.heap.size,2,none⟩):=(eval_get a' 28).symm.trans (hdd 5 28 (by omega) (by kernel_rfl) (by kernel_rfl))
       replace g2:=nn.keep g2
       exact yields_value (.int .i64 (wN:Nat)) (by go_simp) ⟨New.refl _,rfl⟩
      ·have r27:(a'.tmps[27]?).getD undef=.int .i64 (i:Nat):=(eval_get a' 27).symm.trans (hdd 4 27 (by omega) (by kernel_rfl) (by kernel_rfl))
       have r29:(a'.tmps[29]?).getD undef=.int .i64 (wN:Nat):=(eval_get a' 29).symm.trans (hdd 6 29 (by omega) (by kernel_rfl) (by kernel_rfl))
       exact yields_value (.int .i64 (xm:Nat)) (by go_simp) ⟨New.refl _,rfl⟩
      ·have r26:(a'.tmps[26]?).getD undef=.int .i64 G.x:=(eval_get a' 26).symm.trans (hdd 3 26 (by omega) (by kernel_rfl) (by kernel_rfl))
       have r30:(a'.tmps[30]?).getD undef=.int .i64 (xm:Nat):=(eval_get a' 30).symm.trans (hdd 7 30 (by omega) (by kernel_rfl) (by kernel_rfl))
       exact yields_value (.int .i64 (G.x+(xm:Nat))) (by go_simp) ⟨New.refl _,rfl⟩
      ·have r2:(a'.tmps[2]?).getD undef=.pointer (some ⟨w.heap.size,0,none⟩):=(eval_get a' 2).symm.trans (hr 2 (by kernel_rfl))
       exact yields_value (.pointer (some ⟨w.heap.size,1,none⟩)) (by go_simp) ⟨New.refl _,rfl⟩
      ·have r32:(a'.tmps[32]?).getD undef=.pointer (some ⟨w.heap.size,1,none⟩):=(eval_get a' 32).symm.trans (hdd 9 32 (by omega) (by kernel_rfl) (by kernel_rfl))
       replace g1:=nn.keep g1
       exact yields_value (.int .i64 G.z) (by go_simp) ⟨New.refl _,rfl⟩
      ·have r6:(a'.tmps[6]?).getD undef=.int .i64 (i:Nat):=(eval_get a' 6).symm.trans (hr 6 (by kernel_rfl))
       exact yields_value (.int .i64 (i:Nat)) (by go_simp) ⟨New.refl _,rfl⟩
      ·have r2:(a'.tmps[2]?).getD undef=.pointer (some ⟨w.heap.size,0,none⟩):=(eval_get a' 2).symm.trans (hr 2 (by kernel_rfl))
       exact yields_value (.pointer (some ⟨w.heap.size,2,none⟩)) (by go_simp) ⟨New.refl _,rfl⟩
      ·have r35:(a'.tmps[35]?).getD undef=.pointer (some ⟨w.heap.size,2,none⟩):=(eval_get a' 35).symm.trans (hdd 12 35 (by omega) (by kernel_rfl) (by kernel_rfl))
       replace g2:=nn.keep g2
       exact yields_value (.int .i64 (wN:Nat)) (by go_simp) ⟨New.refl _,rfl⟩
      ·have r34:(a'.tmps[34]?).getD undef=.int .i64 (i:Nat):=(eval_get a' 34).symm.trans (hdd 11 34 (by omega) (by kernel_rfl) (by kernel_rfl))
       have r36:(a'.tmps[36]?).getD undef=.int .i64 (wN:Nat):=(eval_get a' 36).symm.trans (hdd 13 36 (by omega) (by kernel_rfl) (by kernel_rfl))
       exact yields_value (.int .i64 (zm:Nat)) (by go_simp) ⟨New.refl _,rfl⟩
      ·have r33:(a'.tmps[33]?).getD undef=.int .i64 G.z:=(eval_get a' 33).symm.trans (hdd 10 33 (by omega) (by kernel_rfl) (by kernel_rfl))
       have r37:(a'.tmps[37]?).getD undef=.int .i64 (zm:Nat):=(eval_get a' 37).symm.trans (hdd 14 37 (by omega) (by kernel_rfl) (by kernel_rfl))
       exact yields_value (.int .i64 (G.z+(zm:Nat))) (by go_simp) ⟨New.refl _,rfl⟩
      ·have r9:(a'.tmps[9]?).getD undef=.int .i64 (k:Nat):=(eval_get a' 9).symm.trans (hr 9 (by kernel_rfl))
       exact yields_value (.int .i64 (k:Nat)) (by go_simp) ⟨New.refl _,rfl⟩
      ·have r31:(a'.tmps[31]?).getD undef=.int .i64 (G.x+(xm:Nat)):=(eval_get a' 31).symm.trans (hdd 8 31 (by omega) (by kernel_rfl) (by kernel_rfl))
       have r38:(a'.tmps[38]?).getD undef=.int .i64 (G.z+(zm:Nat)):=(eval_get a' 38).symm.trans (hdd 15 38 (by omega) (by kernel_rfl) (by kernel_rfl))
       have r39:(a'.tmps[39]?).getD undef=.int .i64 (k:Nat):=(eval_get a' 39).symm.trans (hdd 16 39 (by omega) (by kernel_rfl) (by kernel_rfl))
       exact yields_value (.agg #[.int .i64 (G.x+(xm:Nat)),.int .i64 (G.z+(zm:Nat)),.int .i64 (k:Nat)]) (by go_simp) ⟨New.refl _,rfl⟩
      ·have r24:(a'.tmps[24]?).getD undef=.func (.func 142) #[.agg #[.int .i64 C.cl,.int .i64 C.cb,.int .i64 C.ht,.int .i64 C.ri,.int .i64 C.ru,.int .i64 C.wd,.int .i64 C.dp,.int .i64 G.x,.int .i64 G.z,.int .i64 (wN:Nat),.int .i64 G.d,.slice (some ⟨b,off,none⟩) n G.gc]] #[]:=(eval_get a' 24).symm.trans (hdd 1 24 (by omega) (by kernel_rfl) (by kernel_rfl))
       have r40:(a'.tmps[40]?).getD undef=.agg #[.int .i64 (G.x+(xm:Nat)),.int .i64 (G.z+(zm:Nat)),.int .i64 (k:Nat)]:=(eval_get a' 40).symm.trans (hdd 17 40 (by omega) (by kernel_rfl) (by kernel_rfl))
       exact yields_enter 142 #[.agg #[.int .i64 C.cl,.int .i64 C.cb,.int .i64 C.ht,.int .i64 C.ri,.int .i64 C.ru,.int .i64 C.wd,.int .i64 C.dp,.int .i64 G.x,.int .i64 G.z,.int .i64 (wN:Nat),.int .i64 G.d,.slice (some ⟨b,off,none⟩) n G.gc],.agg #[.int .i64 (G.x+(xm:Nat)),.int .i64 (G.z+(zm:Nat)),.int .i64 (k:Nat)]] (by go_simp) ((KTi.out w' (HN3.out.trans nn)).mono fun e w'' ⟨he,hn⟩=>⟨_,he,hn,rfl⟩)
      ·have r41:(a'.tmps[41]?).getD undef=.agg #[.int .i64 x.a,.int .i64 x.b,.int .i64 x.c,.int .i64 x.d]:=(eval_get a' 41).symm.trans (hdd 18 41 (by omega) (by kernel_rfl) (by kernel_rfl))
       exact yields_value (w':=w'.alloc (.cells #[.int .i64 x.a,.int .i64 x.b,.int .i64 x.c,.int .i64 x.d] 185)) (.slice (some ⟨w'.heap.size,0,none⟩) 1 1) (by go_simp) ⟨(New.refl w').alloc _,lk_new w' x _⟩
     ·intro vs w' nn hv
      have e0:vs 0=.slice ca cn cc:=hv 0 (by omega)
      have s19:Sl Lnk.enc 4 w' (vs 19) [x]:=hv 19 (by omega)
      simp only[List.take_succ_cons,List.take_zero,List.drop_succ_cons,List.drop_zero,putL,Act.put,List.setIfInBounds_toArray,List.set_cons_zero,List.set_cons_succ,Nat.reduceAdd,Nat.zero_add]
      rw[e0]
      generalize vs 19=u19 at *
      have nn5:=hnk.out.trans nn
      have own6:=own_new hown.out nn
      have hr6:base2≤w'.heap.size:=by rw[HB2.out];exact nn5.size
      clear hv e0 nn g0 g1 g2 hr5
      replace s19:=Lib.hid s19
      go_wp2_with (at_builtin;refine wpList_append_sl rfl _ _ 183 rfl Lnk.enc_len Lnk.enc_one base2 185 i0 _ 32 Tryz.underlying183 hi0 hz0 hz1 hz2 rfl (by decide) _ pre rfl own6 _ [x] rfl s19.out (by unfold maxLen;simp;omega) (by simp;omega) hr6 ?_;intro v' w1 hown' hnew _;obtain⟨a',d',N',hN',rfl⟩:=own_shape2 hown';clear hN';have nw1:=hnew Wo nn5 (Nat.le_of_eq HB2.out.symm))
      go_roundg (m - (k+1))
      case measure=>omega
      case rel=>exact⟨k+1,a',N',d',by go_num,rfl,by omega,by omega,Lib.hid (by rw[HSU.out];exact hown'),Lib.hid nw1⟩
    ·obtain rfl:k=m:=by omega
     have HOW:Hid (wr.ownsRow base2 185 4 (.slice ca cn cc) (lkC C G i).length ((lkC C G i).flatMap Lnk.enc)):=Lib.hid (by
      have h:=hown.out
      rw[List.take_of_length_le (by rw[HCL.out,HM.out];exact Nat.le_refl _)]at h
      exact h)
     have HRn:=Lib.hid (HRO.out.new hnk.out)
     have HNN:=Lib.hid (hnr.out.trans hnk.out)
     have hbz:base≤wr.heap.size:=by rw[HBS.out];exact HNN.out.size
     have hsl:=own_sl Lnk.enc_len HOW.out
     have hcn:(lkC C G i).length=cn:=by obtain⟨a1,c1,e1,-⟩:=hsl;injection e1 with _ e1;exact e1.symm
     have HSL:=Lib.hid hsl
     have HT:=Lib.hid (HTL.out i)
     have HOB:=Lib.hid (fun g e=>own_block HOW.out g e)
     generalize lkC C G i=col at *
     clear hown hsl hgk
     go_upto_region 12 with (at_builtin;refine wpList_append_own_at _ rfl _ _ 151 rfl base 183 i1 (.slice none 0 0) 1 24 Tryz.underlying151 hi1 hy0 hy1 hy2 rfl (by decide) _ _ _ rfl (own_new HRn.out.own ((New.refl _).alloc _)) ⟨wr.heap.size,0,none⟩ 1 1 [.slice ca cn cc] rfl rfl (by intro j u hj;cases j with|zero=>(simp at hj;subst hj;go_simp)|succ j=>simp at hj) (by intro u hu;rw[List.mem_singleton]at hu;subst hu;rfl) (by have:=HRn.out.len;unfold maxLen;simp at this;omega) (by have:=HRn.out.len;simp at this;omega) (by simp;omega) ?_;intro v' w4 hown' hgrow _ hat;obtain⟨a',d',N',hN',rfl⟩:=own_shape2 hown';clear hN')
     have hgrow':(wr.alloc (.cells #[.slice ca cn cc] 183)).grownBy w4 (Value.slice ra rn rc).ownBlock:=hgrow
     have hat':(Value.slice a' N' d').ownBlock=(Value.slice ra rn rc).ownBlock∨(Value.slice a' N' d').ownBlock=some (wr.alloc (.cells #[.slice ca cn cc] 183)).heap.size:=hat
     have na:New wr (wr.alloc (.cells #[.slice ca cn cc] 183)):=(New.refl _).alloc _
     have HP:Hid (RowsOK Lnk.enc 4 183 base w4 (.slice a' N' d') (us++[.slice ca cn cc]) ((List.range (i+1)).map (lkC C G))):=Lib.hid (by
      rw[HT.out]
      refine(HRn.out.new na).push Lnk.enc_len (by omega) (HSL.out.keep na) (fun _ g e e2=>?_) hown' hgrow' hat'
      have q1:=HOB.out g e
      have q2:=(HRO.out.own.lt g e2).2
      have q3:=HB2.out
      omega)
     have HN4:Hid (New W0 w4):=Lib.hid (newGrown (HNN.out.trans na) hgrow' (fun j hj=>by have:=(HRO.out.own.lt j hj).1;have:=HBS.out;omega))
     clear hgrow hgrow' hat hat' hown' na hcn
     go_wp2_with fail
     go_roundg (n - (i+1))
     case measure=>have:=HGK.out;omega
     case rel=>exact⟨i+1,a',N',d',_,by go_num,rfl,by omega,by omega,HP,HN4⟩
  ·obtain rfl:i=n:=by omega
   have HO:Hid (RowsK Lnk.enc 4 wr (.slice ra rn rc) LL):=Lib.hid (by
    rw[HLL.out]
    exact HRO.out.rows)
   go_wp2_with fail
   go_ret
   exact⟨_,rfl,HO.out,N0.out.trans hnr.out⟩
theorem rndP_is {C:CfgR} {G:Gd} (s:Sdk) (d e:Int):rndP (toS C G) s d e=rndS C G s d e:=by
 unfold rndP rndS
 cases toS C G s d <;> rfl
theorem diaP_is {C:CfgR} {G:Gd} (s:Sdk) {d e:Int} (h:okD d=true→okD e=true→axB d e=false):diaP (toS C G) s d e=diaS C G s d e:=by
 rw[diaS_rnd h]
 unfold diaP bothP
 rw[rndP_is,rndP_is]
 cases rndS C G s d e <;> cases rndS C G s e d <;> rfl
theorem ax_next {d:Int} (h:okD d=true):okD (nextD d)=true∧axB d (nextD d)=false∧backD (nextD d)=nextD (backD d):=by
 rcases okD_cases h with rfl|rfl|rfl|rfl <;> exact⟨by decide,by decide,by decide⟩
theorem okD_nat {d:Nat} (h:d<4):okD d=true:=by
 rcases(show d=0∨d=1∨d=2∨d=3 by omega)with rfl|rfl|rfl|rfl <;> decide
theorem okD_is {d:Int} (h:okD d=true):∃ n:Nat,d=n∧n<4:=by
 rcases okD_cases h with rfl|rfl|rfl|rfl
 ·exact⟨0,rfl,by omega⟩
 ·exact⟨1,rfl,by omega⟩
 ·exact⟨2,rfl,by omega⟩
 ·exact⟨3,rfl,by omega⟩
theorem mem_sd {C:CfgR} {G:Gd} {s t:Sdk}:t∈arP (toS C G) s↔∃ d,okD d=true∧(toS C G s d=some t∨diaS C G s d (nextD d)=some t):=by
 unfold arP
 rw[mem_arN]
 constructor
 ·rintro⟨d,hd,h⟩
  refine⟨d,okD_nat hd,?_⟩
  rw[←diaP_is s (fun q _=>(ax_next q).2.1)]
  exact h
 ·rintro⟨d,hd,h⟩
  obtain⟨n,rfl,hn⟩:=okD_is hd
  refine⟨n,hn,?_⟩
  rw[diaP_is s (fun q _=>(ax_next q).2.1)]
  exact h
theorem sd_sym {C:CfgR} {G:Gd} (hC:C.err=0) (hE:gE G=0) {s t:Sdk} (h:t∈arP (toS C G) s):s∈arP (toS C G) t:=by
 obtain⟨d,hd,h|h⟩:=mem_sd.1 h
 ·exact mem_sd.2 ⟨backD d,(backD_ok hd).1,.inl (toS_back hC hE h)⟩
 ·refine mem_sd.2 ⟨backD d,(backD_ok hd).1,.inr ?_⟩
  have:=(diaS_back hC hE h).1
  rw[(ax_next hd).2.2]at this
  exact this
def spG (G:Gd) (t:Sdk):Sp:=⟨ixG G t.x t.z,t.k.toNat⟩
def sdS (G:Gd) (s:Sp):Sdk:=sdI G s.c s.k
def goS (C:CfgR) (G:Gd) (s:Sp) (d:Int):Option Sp:=(toS C G (sdS G s) d).map (spG G)
theorem colM_lk {C:CfgR} {G:Gd} (c:Nat):(colM (lkL C G) c).length=(gcol G c).length:=by
 unfold colM lkL
 by_cases h:c<G.L.length
 ·rw[List.getElem?_map,List.getElem?_range h]
  exact lkC_len C G c
 ·rw[List.getElem?_map,List.getElem?_eq_none (by simp;omega)]
  unfold gcol
  rw[List.getElem?_eq_none (by omega)]
  rfl
theorem spIn_is {C:CfgR} {G:Gd} {s:Sp}:SpIn (lkL C G) s↔s.c<G.L.length∧s.k<(gcol G s.c).length:=by
 unfold SpIn
 rw[lkL_len,colM_lk]
section
variable {C:CfgR} {G:Gd} (hC:C.err=0) (hE:gE G=0)
include hE
theorem wd_pos {c:Nat} (h:c<G.L.length):0<G.w∧G.w≤64∧0<G.d∧G.d≤64∧c / G.w.toNat<G.d.toNat:=by
 obtain⟨hp,hl,-⟩:=gd_is hE
 have hb:=placeB_iff.1 hp
 have h1:0<G.w:=by
  rcases Int.lt_or_le 0 G.w with q|q
  ·exact q
  ·have:G.w=0:=by omega
   rw[this,Int.zero_mul]at hl
   omega
 have h2:0<G.d:=by
  rcases Int.lt_or_le 0 G.d with q|q
  ·exact q
  ·have:G.d=0:=by omega
   rw[this,Int.mul_zero]at hl
   omega
 refine⟨h1,by omega,h2,by omega,?_⟩
 rw[Nat.div_lt_iff_lt_mul (by omega)]
 have e:((G.d.toNat*G.w.toNat:Nat):Int)=G.d*G.w:=by
  rw[Int.natCast_mul,Int.toNat_of_nonneg (by omega),Int.toNat_of_nonneg (by omega)]
 rw[Int.mul_comm]at hl
 omega
theorem sdS_in {s:Sp} (h:s.c<G.L.length):inG G (sdS G s).x (sdS G s).z=true∧ixG G (sdS G s).x (sdS G s).z=s.c:=by
 obtain⟨h1,h2,h3,h4,h5⟩:=wd_pos hE h
 have hm:s.c % G.w.toNat<G.w.toNat:=Nat.mod_lt _ (by omega)
 have hdm:=Nat.div_add_mod s.c G.w.toNat
 unfold sdS sdI
 simp only
 generalize s.c / G.w.toNat=q at *
 generalize s.c % G.w.toNat=r at *
 refine⟨inG_iff.2 ⟨⟨by omega,by omega⟩,by omega,by omega⟩,?_⟩
 unfold ixG
 have e:(G.z+((q:Nat):Int) - G.z)*G.w+(G.x+((r:Nat):Int) - G.x)=((s.c:Nat):Int):=by
  rw[show G.z+((q:Nat):Int) - G.z=((q:Nat):Int) by omega,show G.x+((r:Nat):Int) - G.x=((r:Nat):Int) by omega]
  have e2:((q:Nat):Int)*G.w=((G.w.toNat*q:Nat):Int):=by
   rw[Int.natCast_mul,Int.toNat_of_nonneg (by omega),Int.mul_comm]
  rw[e2,←Int.natCast_add,hdm]
 rw[e]
 simp
theorem atG_col {x z:Int} (h:inG G x z=true):atG G x z=gcol G (ixG G x z):=by
 rw[atG_in hE h,gcol_at (ixG_is hE h).2.2.2]
theorem sdS_spG {t:Sdk} {b:Fl} (h:flG G t=some b):sdS G (spG G t)=t∧(spG G t).c<G.L.length∧(spG G t).k<(gcol G (spG G t).c).length∧((spG G t).k:Int)=t.k:=by
 have hin:=flG_in h
 obtain⟨k,hk,hkl,-⟩:=flG_is h
 obtain⟨i1,i2,i3,i4⟩:=ixG_is hE hin
 rw[atG_col hE hin]at hkl
 have hb:=inG_iff.1 hin
 obtain⟨h1,h2,h3,h4,h5⟩:=wd_pos hE i4
 obtain⟨tx,tz,tk⟩:=t
 simp only at hk hkl i1 i2 i3 i4 hb h5
 subst hk
 refine⟨?_,i4,by unfold spG;simpa using hkl,by unfold spG;simp⟩
 unfold sdS spG sdI
 simp only[Int.toNat_natCast]
 have e1:(ixG G tx tz:Int)=((tz - G.z).toNat*G.w.toNat+(tx - G.x).toNat:Nat):=by
  rw[i3,Int.natCast_add,Int.natCast_mul,Int.toNat_of_nonneg (by omega),Int.toNat_of_nonneg (by omega),Int.toNat_of_nonneg (by omega)]
 have e2:ixG G tx tz=(tx - G.x).toNat+G.w.toNat*(tz - G.z).toNat:=by
  rw[Nat.mul_comm,Nat.add_comm]
  exact Int.ofNat_inj.1 e1
 have hlt:(tx - G.x).toNat<G.w.toNat:=by omega
 rw[e2,Nat.add_mul_mod_self_left,Nat.mod_eq_of_lt hlt,Nat.add_mul_div_left _ _ (by omega),Nat.div_eq_of_lt hlt]
 simp only[Nat.zero_add,Sdk.mk.injEq,and_true]
 omega
theorem goS_is {s t:Sp} {d:Int} (h:goS C G s d=some t):okD d=true∧toS C G (sdS G s) d=some (sdS G t)∧t.c<G.L.length∧t.k<(gcol G t.c).length:=by
 unfold goS at h
 obtain⟨u,hu,rfl⟩:=Option.map_eq_some_iff.1 h
 obtain⟨hd,a,b,ha,hb,-⟩:=toS_is hu
 obtain⟨e1,e2,e3,e4⟩:=sdS_spG hE hb
 exact⟨hd,by rw[e1];exact hu,e2,e3⟩
theorem goS_hom:HomP (goS C G) (toS C G) (sdS G) (fun s=>s.c<G.L.length∧s.k<(gcol G s.c).length) where
 goes s hs d:=by
  cases q:toS C G (sdS G s) d with
  | none=>unfold goS;rw[q];rfl
  | some t =>
   obtain⟨-,a,b,ha,hb,-⟩:=toS_is q
   unfold goS
   rw[q]
   show some t=some (sdS G (spG G t))
   rw[(sdS_spG hE hb).1]
 kept s hs d t h:=(goS_is hE h).2.2
 inj s t hs ht e:=by
  have h1:=(sdS_in hE hs.1).2
  have h2:=(sdS_in hE ht.1).2
  rw[e,h2]at h1
  have h3:((s.k:Nat):Int)=t.k:=by
   have:(sdS G s).k=(sdS G t).k:=by rw[e]
   exact this
  obtain⟨sc,sk⟩:=s
  obtain⟨tc,tk⟩:=t
  rw[Sp.mk.injEq]
  simp only at h1 h3
  omega
include hC
def fdN:Net where
 W:=G.w.toNat
 M:=lkL C G
 go:=goS C G
 len:=by
  rw[lkL_len]
  have hb:=placeB_iff.1 (gd_is hE).1
  have:=mul_64 hb.2.2.1.1 hb.2.2.1.2 hb.2.2.2.1 hb.2.2.2.2
  have:=(gd_is hE).2.1
  omega
 col c:=by rw[colM_lk];exact gcol_len hE c
 wle:=by have hb:=placeB_iff.1 (gd_is hE).1;omega
 dir s d t h:=(goS_is hE h).1
 is s h d hd:=by
  have hs:=spIn_is.1 h
  have e:(colM (lkL C G) s.c)[s.k]'h.2=lkS C G (sdS G s):=by
   have h1:colM (lkL C G) s.c=lkC C G s.c:=by
    unfold colM lkL
    rw[List.getElem?_map,List.getElem?_range hs.1]
    rfl
   simp only[h1]
   unfold lkC
   rw[List.getElem_map,List.getElem_range]
   rfl
  rw[e]
  have e2:lkD (lkS C G (sdS G s)) d=oneL (toS C G (sdS G s) d):=by
   rcases okD_cases hd with rfl|rfl|rfl|rfl <;> rfl
  rw[e2]
  unfold goS
  cases q:toS C G (sdS G s) d with
  | none=>rfl
  | some t =>
   obtain⟨-,a,b,ha,hb,-⟩:=toS_is q
   exact(sdS_spG hE hb).2.2.2.symm
 lead s h d t q:=by
  have hs:=spIn_is.1 h
  obtain⟨hd,h1,h2,h3⟩:=goS_is hE q
  refine⟨spIn_is.2 ⟨h2,h3⟩,?_⟩
  obtain⟨-,_,_,-,-,-,hx,hz⟩:=toS_is h1
  obtain⟨w1,w2,w3,w4,w5⟩:=wd_pos hE hs.1
  obtain⟨s1,s2⟩:=sdS_in hE hs.1
  obtain⟨t1,t2⟩:=sdS_in hE h2
  have i1:=(ixG_is hE s1).2.2.1
  have i2:=(ixG_is hE t1).2.2.1
  rw[s2]at i1
  rw[t2]at i2
  rw[hx,hz]at i2
  have e1:((sdS G s).z+dzD d - G.z)*G.w=((sdS G s).z - G.z)*G.w+dzD d*G.w:=by rw[←Int.add_mul];congr 1;omega
  have e2:((G.w.toNat:Nat):Int)=G.w:=Int.toNat_of_nonneg (by omega)
  rw[e2]
  omega
 sym s h t ht:=by
  have hs:=spIn_is.1 h
  have H:=goS_hom (C:=C) hE
  have hv:=arN_kept H hs ht
  refine⟨spIn_is.2 hv,?_⟩
  have h1:sdS G t∈arP (toS C G) (sdS G s):=by
   unfold arP
   rw[arN_hom H hs]
   exact List.mem_map_of_mem ht
  have h2:=sd_sym hC hE h1
  unfold arP at h2
  rw[arN_hom H hv]at h2
  obtain⟨u,hu,e⟩:=List.mem_map.1 h2
  have:=H.inj u s (arN_kept H hv hu) hs e
  rw[←this]
  exact hu
end
def lkT (C:CfgR) (G:Gd):List (List Lnk):=if lkE C G=0 then lkL C G else []
def LBuilt (er:Int) (L:List (List Lnk)) (w:World) (e:Ending) (w':World):Prop:=∃ v,e=.returned (.tuple #[v,.int .i64 er])∧RowsK Lnk.enc 4 w' v L∧New w w'
theorem lk_Build (C:CfgR) (G:Gd) (w:World) (h:G.ok w) (hD:Dirs w):Calls Tryz.prog 114 #[.agg #[.int .i64 C.cl,.int .i64 C.cb,.int .i64 C.ht,.int .i64 C.ri,.int .i64 C.ru,.int .i64 C.wd,.int .i64 C.dp],.agg #[.int .i64 G.x,.int .i64 G.z,.int .i64 G.w,.int .i64 G.d,.slice G.ga G.L.length G.gc]] w (LBuilt (lkE C G) (lkT C G) w):=by
 have KG:=Lib.hid (fun W (q:New w W)=>lk_groundOf C G W (h.keep q))
 have KB:=Lib.hid (fun q=>grV_bad (C:=C) (G:=G) q)
 have KF:=Lib.hid (fun q=>grV_fine (C:=C) (G:=G) q)
 have KL:Hid (lkE C G=0→∀ W,New w W→Calls Tryz.prog 141 #[.agg #[.int .i64 G.x,.int .i64 G.z,.int .i64 G.w,.int .i64 G.d,.slice G.ga G.L.length G.gc],.func (.func 142) #[.agg #[.int .i64 C.cl,.int .i64 C.cb,.int .i64 C.ht,.int .i64 C.ri,.int .i64 C.ru,.int .i64 C.wd,.int .i64 C.dp,.int .i64 G.x,.int .i64 G.z,.int .i64 G.w,.int .i64 G.d,.slice G.ga G.L.length G.gc]] #[]] W fun e w'=>∃ v,e=.returned v∧RowsK Lnk.enc 4 w' v (lkL C G)∧New W w'):=Lib.hid (fun q W n=>lk_columns C G (lkE_is.1 q).2 W (h.keep n) (hD.new n))
 have HT:Hid (lkT C G=if lkE C G=0 then lkL C G else []):=Lib.hid rfl
 generalize lkT C G=T at *
 generalize lkL C G=L at *
 generalize grV C G=gv at *
 obtain⟨n,hn⟩:∃ n,n=G.L.length:=⟨_,rfl⟩
 rw[←hn]at KG KF KL ⊢
 clear hn h hD
 generalize lkE C G=le at *
 obtain⟨Q,hQ⟩:∃ Q,Q=LBuilt le T w:=⟨_,rfl⟩
 rw[←hQ]
 have HQ:=Lib.hid hQ
 clear hQ
 by_cases hle:le=0
 ·have hT:T=L:=by rw[HT.out,if_pos hle]
  have hv:=KF.out hle
  have KL2:=Lib.hid (KL.out hle)
  subst hle
  rw[hv]at KG
  clear HT KB KF KL hv
  subst hT
  go_enter Tryz.func114,Tryz.ntmps114
  go_wp2_with fail
  refine Calls.at (fun W hW=>?_)
  have n0:New w W:=by subst hW;exact nw
  have g0:W.cell? ⟨w.heap.size+1,0,none⟩=some (.int .i64 G.x):=by subst hW;go_simp
  have g1:W.cell? ⟨w.heap.size+1,1,none⟩=some (.int .i64 G.z):=by subst hW;go_simp
  have g2:W.cell? ⟨w.heap.size+1,2,none⟩=some (.int .i64 G.w):=by subst hW;go_simp
  have g3:W.cell? ⟨w.heap.size+1,3,none⟩=some (.int .i64 G.d):=by subst hW;go_simp
  have g4:W.cell? ⟨w.heap.size+1,4,none⟩=some (.slice G.ga n G.gc):=by subst hW;go_simp
  clear hW
  refine(KG.out _ n0).mono ?_
  rintro e w1 ⟨rfl,n1⟩
  replace g0:=n1.keep g0
  replace g1:=n1.keep g1
  replace g2:=n1.keep g2
  replace g3:=n1.keep g3
  replace g4:=n1.keep g4
  have N1:=n0.trans n1
  have hz3:=World.block_lt_of_cell? _ _ g0
  simp only[]at hz3
  clear n0 n1 KG
  go_wp2_with fail
  refine Calls.at (fun W2 hW=>?_)
  have N2:New w W2:=by subst hW;exact nw
  clear hW g0 g1 g2 g3 g4
  refine(KL2.out _ N2).mono ?_
  rintro e w3 ⟨v,rfl,hr,n3⟩
  have N3:=N2.trans n3
  have HR:=Lib.hid hr
  clear n3 N2 N1 KL2 hr
  go_wp2_with fail
  rw[HQ.out]
  exact⟨v,rfl,HR.out,N3⟩
 ·have hT:T=[]:=by rw[HT.out,if_neg hle]
  have hv:=KB.out hle
  rw[hv]at KG
  have hne:(le != 0)=true:=by rw[bne_iff_ne];exact hle
  clear HT KB KF KL hv hle
  subst hT
  go_enter Tryz.func114,Tryz.ntmps114
  go_wp2_with fail
  refine Calls.at (fun W hW=>?_)
  have n0:New w W:=by subst hW;exact nw
  clear hW
  refine(KG.out _ n0).mono ?_
  rintro e w1 ⟨rfl,n1⟩
  have N1:=n0.trans n1
  clear n0 n1 KG
  go_wp2_with fail
  rw[HQ.out]
  exact⟨_,rfl,RowsK.nil,by exact nw⟩
def capC (C:CfgR):Int:=if C.err=0 then C.cl+3 else 0
theorem fine_cl {C:CfgR} (h:C.err=0):0≤C.cl∧C.cl≤3:=by
 unfold CfgR.err checkE checkB at h
 split at h
 ·rename_i h2
  simp only[Bool.and_eq_true,decide_eq_true_eq]at h2
  omega
 ·cases h
def capN (C:CfgR):Nat:=(C.cl+3).toNat
theorem capN_is {C:CfgR} (h:C.err=0):((capN C:Nat):Int)=C.cl+3∧1≤capN C∧capN C≤6∧capC C=((capN C:Nat):Int):=by
 have:=fine_cl h
 unfold capC capN
 rw[if_pos h]
 omega
def fdC (C:CfgR) (G:Gd) (i:Nat):List Int:=(List.range (gcol G i).length).map fun k=>((clr (toS C G) (capN C) (sdI G i k):Nat):Int)
def fdL (C:CfgR) (G:Gd):List (List Int):=(List.range G.L.length).map (fdC C G)
def fdT (C:CfgR) (G:Gd):List (List Int):=if lkE C G=0 then fdL C G else []
theorem fdL_len (C:CfgR) (G:Gd):(fdL C G).length=G.L.length:=by unfold fdL;simp
theorem fdL_is {C:CfgR} {G:Gd} (hC:C.err=0) (hE:gE G=0):clL (fdN hC hE) (capN C)=fdL C G:=by
 unfold clL clT fdL
 have e:(fdN hC hE).M.length=G.L.length:=lkL_len C G
 rw[e]
 refine List.map_congr_left (fun i hi=>?_)
 have hi':=List.mem_range.1 hi
 unfold fcC fdC
 have e2:(colM (fdN hC hE).M i).length=(gcol G i).length:=colM_lk i
 rw[e2]
 refine List.map_congr_left (fun k hk=>?_)
 have hk':=List.mem_range.1 hk
 have:=clr_hom (goS_hom (C:=C) hE) (capN C) (s:=⟨i,k⟩) ⟨hi',hk'⟩
 exact congrArg (fun n:Nat=>(n:Int)) this.symm
def FBuiltN (er:Int) (L:List (List Int)) (w:World) (e:Ending) (w':World):Prop:=∃ v,e=.returned (.tuple #[v,.int .i64 er])∧RowsA iE 1 w.heap.size w' v L∧New w w'
theorem fd_Cap (C:CfgR) (w:World):Calls Tryz.prog 116 #[.agg #[.int .i64 C.cl,.int .i64 C.cb,.int .i64 C.ht,.int .i64 C.ri,.int .i64 C.ru,.int .i64 C.wd,.int .i64 C.dp]] w fun e w'=>e=.returned (.int .i64 (capC C))∧New w w':=by
 have KC:Hid (∀ W,Calls Tryz.prog 30 #[.agg #[.int .i64 C.cl,.int .i64 C.cb,.int .i64 C.ht,.int .i64 C.ri,.int .i64 C.ru,.int .i64 C.wd,.int .i64 C.dp]] W fun e w'=>e=.returned (.int .i64 C.err)∧New W w'):=Lib.hid (fun W=>(check_any C.cl C.cb C.ht C.ri C.ru C.wd C.dp W).mono fun e w' h=>⟨h.1,h.2.1⟩)
 have h1:=err_or C
 have hf:=Lib.hid (fun h=>fine_cl (C:=C) h)
 unfold capC
 generalize C.err=ce at *
 go_enter Tryz.func116,Tryz.ntmps116
 go_wp2_with fail
 refine Calls.at (fun W hW=>?_)
 have n0:New w W:=by subst hW;exact nw
 have c0:W.cell? ⟨w.heap.size,0,none⟩=some (.int .i64 C.cl):=by subst hW;go_simp
 clear hW
 refine(KC.out _).mono ?_
 rintro e w1 ⟨rfl,n1⟩
 replace c0:=n1.keep c0
 have N1:=Lib.hid (n0.trans n1)
 clear n0 n1 KC
 rcases h1 with rfl|rfl
 ·have:=hf.out rfl
  have hw:IntKind.i64.wrap (C.cl+3)=C.cl+3:=IntWalk.i64_in _ (by omega)
  clear this hf
  go_wp2_with fail
  go_ret
  exact⟨rfl,N1.out⟩
 ·clear hf
  go_wp2_with fail
  go_ret
  exact⟨rfl,N1.out⟩
theorem fd_BuildN (C:CfgR) (G:Gd) (w:World) (h:G.ok w) (hD:Dirs w):Calls Tryz.prog 70 #[.agg #[.int .i64 C.cl,.int .i64 C.cb,.int .i64 C.ht,.int .i64 C.ri,.int .i64 C.ru,.int .i64 C.wd,.int .i64 C.dp],.agg #[.int .i64 G.x,.int .i64 G.z,.int .i64 G.w,.int .i64 G.d,.slice G.ga G.L.length G.gc]] w (FBuiltN (lkE C G) (fdT C G) w):=by
 have KB:=Lib.hid (fun W (q:New w W)=>lk_Build C G W (h.keep q) (hD.new q))
 have KP:=Lib.hid (fun W=>fd_Cap C W)
 have HD:=Lib.hid hD
 unfold LBuilt at KB
 have HT:Hid (fdT C G=if lkE C G=0 then fdL C G else []):=Lib.hid rfl
 by_cases hle:lkE C G=0
 ·obtain⟨hC,hE⟩:=lkE_is.1 hle
  obtain⟨p1,p2,p3,p4⟩:=capN_is hC
  have hT:fdT C G=fdL C G:=by rw[HT.out,if_pos hle]
  have hlk:lkT C G=lkL C G:=by unfold lkT;rw[if_pos hle]
  rw[hT]
  rw[hlk,hle]at KB
  rw[hle]
  rw[p4]at KP
  have hb:=placeB_iff.1 (gd_is hE).1
  have hw:G.w=((G.w.toNat:Nat):Int):=by omega
  have KK:Hid (∀ W a c,New w W→RowsK Lnk.enc 4 W (.slice a (lkL C G).length c) (lkL C G)→Calls Tryz.prog 115 #[.agg #[.int .i64 G.w,.slice a (lkL C G).length c],.int .i64 ((capN C:Nat):Int)] W fun e w'=>∃ v,e=.returned v∧RowsA iE 1 W.heap.size w' v (fdL C G)∧New W w'):=Lib.hid (fun W a c q hr=>by
   have:=fd_clearances (fdN hC hE) a c (capN C) p2 p3 W hr (HD.out.new q)
   rw[fdL_is hC hE]at this
   have e:(((fdN hC hE).W:Nat):Int)=G.w:=hw.symm
   rw[e]at this
   exact this)
  clear HT hT hlk hle p2 p3 p4 hb hw HD hD h
  generalize lkL C G=L at *
  generalize fdL C G=R at *
  generalize capN C=m at *
  clear hC hE p1
  obtain⟨gn,hgn⟩:∃ n,n=G.L.length:=⟨_,rfl⟩
  rw[←hgn]at KB ⊢
  clear hgn
  obtain⟨ln,hln⟩:∃ n,n=L.length:=⟨_,rfl⟩
  rw[←hln]at KK
  have HLN:=Lib.hid hln
  clear hln
  obtain⟨Q,hQ⟩:∃ Q,Q=FBuiltN 0 R w:=⟨_,rfl⟩
  rw[←hQ]
  have HQ:=Lib.hid hQ
  clear hQ
  go_enter Tryz.func70,Tryz.ntmps70
  go_wp2_with fail
  refine Calls.at (fun W hW=>?_)
  have n0:New w W:=by subst hW;exact nw
  ((have c0:W.cell? ⟨w.heap.size,0,none⟩=some (.int .i64 C.cl):=(by subst hW;go_simp));(have c1:W.cell? ⟨w.heap.size,1,none⟩=some (.int .i64 C.cb):=(by subst hW;go_simp));(have c2:W.cell? ⟨w.heap.size,2,none⟩=some (.int .i64 C.ht):=(by subst hW;go_simp));(have c3:W.cell? ⟨w.heap.size,3,none⟩=some (.int .i64 C.ri):=(by subst hW;go_simp));(have c4:W.cell? ⟨w.heap.size,4,none⟩=some (.int .i64 C.ru):=(by subst hW;go_simp));(have c5:W.cell? ⟨w.heap.size,5,none⟩=some (.int .i64 C.wd):=(by subst hW;go_simp));(have c6:W.cell? ⟨w.heap.size,6,none⟩=some (.int .i64 C.dp):=(by subst hW;go_simp)))
  have g2:W.cell? ⟨w.heap.size+1,2,none⟩=some (.int .i64 G.w):=by subst hW;go_simp
  clear hW
  have HC:=Lib.hid (fun W2 (q:New W W2)=>And.intro (q.keep c0) (And.intro (q.keep c1) (And.intro (q.keep c2) (And.intro (q.keep c3) (And.intro (q.keep c4) (And.intro (q.keep c5) (q.keep c6)))))))
  clear c0 c1 c2 c3 c4 c5 c6
  refine(KB.out _ n0).mono ?_
  rintro e w1 ⟨v,rfl,hr,n1⟩
  obtain⟨la,lc,rfl⟩:=hr.shape
  rw[←HLN.out]at hr ⊢
  have HR:=Lib.hid hr
  have N1:=Lib.hid n1
  have N0:=Lib.hid n0
  replace g2:=n1.keep g2
  clear hr n1 n0 KB
  go_upto_region 5 with fail
  refine Code.at (fun W2 hW=>?_)
  have n2:New w1 W2:=by subst hW;exact nw
  have o0:W2.cell? ⟨w1.heap.size,0,none⟩=some (.int .i64 G.w):=by subst hW;go_simp
  have o1:W2.cell? ⟨w1.heap.size,1,none⟩=some (.slice la ln lc):=by subst hW;go_simp
  clear hW g2
  have HR2:=Lib.hid (HR.out.keep n2)
  have N2:=Lib.hid (N1.out.trans n2)
  have NW:=Lib.hid (N0.out.trans (N1.out.trans n2))
  clear n2 N1 HR
  have hz1:=World.block_lt_of_cell? _ _ o0
  simp only[]at hz1
  refine wp_region_loose 4 (fun i' w' v=>match i' with
   | 0=>v=.agg #[.int .i64 G.w,.slice la ln lc]
   | 1=>v=.agg #[.int .i64 C.cl,.int .i64 C.cb,.int .i64 C.ht,.int .i64 C.ri,.int .i64 C.ru,.int .i64 C.wd,.int .i64 C.dp]
   | 2=>v=.int .i64 (m:Nat)
   | 3=>RowsA iE 1 w.heap.size w' v R
   | _=>True) (by kernel_rfl) (by kernel_rfl) ?_ ?_ ?_
  ·intro i' w1 w2 v h nq
   match i',h with
   | 0,h=>exact h
   | 1,h=>exact h
   | 2,h=>exact h
   | 3,h=>exact RowsA.new iE_len (by omega) h nq
   | i'+4,_=>trivial
  ·intro i' o hi2 ho a' w' nn hr hd
   rcases(show i'=0∨i'=1∨i'=2∨i'=3 by omega)with rfl|rfl|rfl|rfl <;> obtain rfl:=Option.some.inj ho
   ·have r8:(a'.tmps[8]?).getD undef=.pointer (some ⟨w1.heap.size,0,none⟩):=(eval_get a' 8).symm.trans (hr 8 (by kernel_rfl))
    replace o0:=nn.keep o0
    replace o1:=nn.keep o1
    exact yields_value (.agg #[.int .i64 G.w,.slice la ln lc]) (by go_simp) ⟨New.refl _,rfl⟩
   ·have r2:(a'.tmps[2]?).getD undef=.pointer (some ⟨w.heap.size,0,none⟩):=(eval_get a' 2).symm.trans (hr 2 (by kernel_rfl))
    obtain⟨c0,c1,c2,c3,c4,c5,c6⟩:=HC.out _ (N2.out.trans nn)
    exact yields_value (.agg #[.int .i64 C.cl,.int .i64 C.cb,.int .i64 C.ht,.int .i64 C.ri,.int .i64 C.ru,.int .i64 C.wd,.int .i64 C.dp]) (by go_simp) ⟨New.refl _,rfl⟩
   ·have e1:a'.eval (.tmp 23)=.agg #[.int .i64 C.cl,.int .i64 C.cb,.int .i64 C.ht,.int .i64 C.ri,.int .i64 C.ru,.int .i64 C.wd,.int .i64 C.dp]:=hd 1 23 (by omega) (by kernel_rfl) (by kernel_rfl)
    have r1:(a'.tmps[23]?).getD undef=_:=(eval_get a' 23).symm.trans e1
    exact yields_enter 116 #[.agg #[.int .i64 C.cl,.int .i64 C.cb,.int .i64 C.ht,.int .i64 C.ri,.int .i64 C.ru,.int .i64 C.wd,.int .i64 C.dp]] (by go_simp) ((KP.out w').mono fun e w'' ⟨he,hn⟩=>⟨_,he,hn,rfl⟩)
   ·have e0:a'.eval (.tmp 22)=.agg #[.int .i64 G.w,.slice la ln lc]:=hd 0 22 (by omega) (by kernel_rfl) (by kernel_rfl)
    have e2:a'.eval (.tmp 24)=.int .i64 (m:Nat):=hd 2 24 (by omega) (by kernel_rfl) (by kernel_rfl)
    have r0:(a'.tmps[22]?).getD undef=_:=(eval_get a' 22).symm.trans e0
    have r2:(a'.tmps[24]?).getD undef=_:=(eval_get a' 24).symm.trans e2
    exact yields_enter 115 #[.agg #[.int .i64 G.w,.slice la ln lc],.int .i64 (m:Nat)] (by go_simp) ((KK.out w' la lc (NW.out.trans nn) (HR2.out.keep nn)).mono fun e w'' ⟨v,he,hr,hn⟩=>⟨v,he,hn,hr.mono (NW.out.trans nn).size⟩)
  ·intro vs w' nn hv
   have e0:vs 0=.agg #[.int .i64 G.w,.slice la ln lc]:=hv 0 (by omega)
   have e1:vs 1=.agg #[.int .i64 C.cl,.int .i64 C.cb,.int .i64 C.ht,.int .i64 C.ri,.int .i64 C.ru,.int .i64 C.wd,.int .i64 C.dp]:=hv 1 (by omega)
   have e2:vs 2=.int .i64 (m:Nat):=hv 2 (by omega)
   have e3:RowsA iE 1 w.heap.size w' (vs 3) R:=hv 3 (by omega)
   simp only[List.take_succ_cons,List.take_zero,List.drop_succ_cons,List.drop_zero,putL,Act.put,List.setIfInBounds_toArray,List.set_cons_zero,List.set_cons_succ,Nat.reduceAdd,Nat.zero_add]
   rw[e0,e1,e2]
   generalize vs 3=v3 at *
   have HE:=Lib.hid (And.intro e3 (NW.out.trans nn))
   clear hv e0 e1 e2 e3 nn o0 o1
   go_wp2_with fail
   rw[HQ.out]
   exact⟨v3,rfl,HE.out.1,HE.out.2⟩
 ·have hT:fdT C G=[]:=by rw[HT.out,if_neg hle]
  rw[hT]
  generalize lkE C G=le at *
  generalize lkT C G=L at *
  have hne:(le != 0)=true:=by rw[bne_iff_ne];exact hle
  clear HT hT hle KP HD hD h
  obtain⟨gn,hgn⟩:∃ n,n=G.L.length:=⟨_,rfl⟩
  rw[←hgn]at KB ⊢
  clear hgn
  obtain⟨Q,hQ⟩:∃ Q,Q=FBuiltN le [] w:=⟨_,rfl⟩
  rw[←hQ]
  have HQ:=Lib.hid hQ
  clear hQ
  go_enter Tryz.func70,Tryz.ntmps70
  go_wp2_with fail
  refine Calls.at (fun W hW=>?_)
  have n0:New w W:=by subst hW;exact nw
  clear hW
  refine(KB.out _ n0).mono ?_
  rintro e w1 ⟨v,rfl,-,n1⟩
  have N1:=Lib.hid (n0.trans n1)
  clear n0 n1 KB
  go_wp2_with fail
  rw[HQ.out]
  exact⟨_,rfl,RowsA.nil,N1.out⟩
end Go.Proofs.YtmhghnbgllaihaaGreatDoor
