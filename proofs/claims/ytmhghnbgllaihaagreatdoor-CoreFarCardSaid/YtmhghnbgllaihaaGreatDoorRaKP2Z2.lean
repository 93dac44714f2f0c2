import Derived.Test.YtmhghnbgllaihaaGreatDoorRaQP2Z2
import Derived.Test.YtmhghnbgllaihaaGreatDoorRaFP2Z2
import Derived.Test.YtmhghnbgllaihaaGreatDoorRaLP2Z2
import Derived.Shelf.Abstract
import Derived.WalkKit
import Derived.OwnWalkIn
import Derived.TacticsInMore
import Derived.LoopIn
import Derived.Sort.WalkA
set_option linter.unusedVariables false
set_option maxHeartbeats 16000000
set_option maxRecDepth 100000

namespace Go.Proofs.YtmhghnbgllaihaaGreatDoor
open Go.RowKit Go.Shelf Go.Sort
attribute [local go_sem] Oper.semAt_some
theorem But.blk {G:Nat} {w w':World} (h:But G w w') {b:Nat} {o:Obj} (hb:w.heap[b]? = some o) (hn:b≠G):w'.heap[b]? = some o:=(h.block b (Array.getElem?_eq_some_iff.1 hb).1 hn).trans hb
theorem span_info:(Tryz.prog.info? 180).map (fun i=>(i.zero,i.size,i.bytes))=some (some (.agg #[.int .i64 0,.int .i64 0,.bool false]),3,24):=by kernel_rfl
theorem sl_cells {α:Type} {enc:α→List Value} {k:Nat} {w w':World} {v:Value} {l:List α} (hc:∀ b o u,w.cell? ⟨b,o,none⟩=some u→w'.cell? ⟨b,o,none⟩=some u) (h:Sl enc k w v l):Sl enc k w' v l:=by
 obtain⟨a,c,rfl,h1,h2,h3,h4⟩:=h
 refine⟨a,c,rfl,h1,h2,h3,fun h0=>?_⟩
 obtain⟨b,off,rfl,hr⟩:=h4 h0
 exact⟨b,off,rfl,fun j hj i hi=>hc _ _ _ (hr j hj i hi)⟩
theorem rows_cells {w w':World} {v:Value} {L:List (List Sn)} (hc:∀ b o u,w.cell? ⟨b,o,none⟩=some u→w'.cell? ⟨b,o,none⟩=some u) (h:RowsV w v L):RowsV w' v L:=by
 obtain⟨us,h1,h2,h3⟩:=h
 exact⟨us,h1,sl_cells hc h2,fun j hj=>by obtain⟨u,e,hs⟩:=h3 j hj;exact⟨u,e,sl_cells hc hs⟩⟩
theorem shut_cells {Ds:List Nat} {W W':World} (h:Shut Ds W W') (hM:Marked Ds W) (b o:Nat) (u:Value) (hu:W.cell? ⟨b,o,none⟩=some u):W'.cell? ⟨b,o,none⟩=some u:=by
 have hb:b∉Ds:=fun hb=>by
  have:=hM b hb
  simp[World.cell?,this]at hu
 exact(World.cell?_of_block (w:=W) (a:=⟨b,o,none⟩) (h.block b hb)).trans hu
theorem shut_new {Ds:List Nat} {w W W':World} (h:Shut Ds W W') (hw:New w W) (hD:∀ D∈Ds,w.heap.size≤D):New w W' :=
 ⟨h.os.trans hw.os,h.tape.trans hw.tape,h.output.trans hw.output,by rw[h.size];exact hw.size,fun k hk=>(h.block k (fun hk'=>by have:=hD k hk';omega)).trans (hw.block k hk)⟩
theorem ra_sn_new (w:World) (x:Sn) (t:TypeId):∀ q u,x.enc[q]? = some u→(w.alloc (.cells #[.int .i64 x.lo,.int .i64 x.hi,.bool x.wk] t)).cell? ((⟨w.heap.size,0,none⟩:Addr).add q)=some u:=by
 intro q u hq
 unfold Sn.enc at hq
 match q,hq with
 | 0,hq=>simp at hq;subst hq;simp[Addr.add]
 | 1,hq=>simp at hq;subst hq;simp[Addr.add]
 | 2,hq=>simp at hq;subst hq;simp[Addr.add]
theorem three_own {β:Type} (C:CfgR) (T:TriR) (b:Bx) (Bc Bt Bb D:Nat):OwnFrom D (fun(_:β) W=>Three C T b Bc Bt Bb W):=fun s X Y row h hg hr =>
 ⟨blk_own Bc D s X Y row h.c hg hr,blk_own Bt D s X Y row h.t hg hr,blk_own Bb D s X Y row h.b hg hr⟩
def PcAx {N:Nat} (G:Nat) (f:El N→Nat→Array Value) (e:El N) (a':Act) (W:World):Prop:=∃ (Bp:Nat) (cs:Array Value),W.heap[Bp]? = some (.cells #[.int .i64 e.1.2.lo,.int .i64 e.1.2.hi,.bool e.1.2.wk] 180 (0,0))∧W.heap[G]? = some (.cells cs 147 (0,0))∧(∀ (k:Nat) (v:Value),cs[k]? = some v→v.ownBlock≠some Bp)∧a'={ tmps:=f e Bp,defers:=[] }
theorem pcAx_own {N:Nat} (G:Nat) (f:El N→Nat→Array Value) (D:Nat) (e:El N) (a':Act):OwnFrom D (fun(_:Unit) W=>PcAx G f e a' W):=fun s X Y row ⟨Bp,cs,h,h1,h2,e1⟩ hg hr=>⟨Bp,cs,blk_own Bp D s X Y row h hg hr,blk_own G D s X Y row h1 hg hr,h2,e1⟩
def withL {N:Nat} (L:Nat→List Sn) (pre:List (El N)) (k:Nat):List Sn:=L k++(pre.filter (fun e=>e.1.1==k)).map (fun e=>e.1.2)
theorem withL_nil {N:Nat} (L:Nat→List Sn) (k:Nat):withL (N:=N) L [] k=L k:=by unfold withL;simp
theorem withL_snoc {N:Nat} (L:Nat→List Sn) (pre:List (El N)) (e:El N) (k:Nat):withL L (pre++[e]) k=if k=e.1.1 then withL L pre e.1.1++[e.1.2]else withL L pre k:=by
 unfold withL
 rw[List.filter_append,List.map_append,←List.append_assoc]
 by_cases h:k=e.1.1
 ·subst h
  rw[if_pos rfl]
  simp
 ·have:(e.1.1==k)=false:=by rw[beq_eq_false_iff_ne];exact fun h'=>h h'.symm
  rw[if_neg h]
  simp[this]
theorem withL_len {N:Nat} (L:Nat→List Sn) (pre:List (El N)) (k:Nat):(withL L pre k).length≤(L k).length+pre.length:=by
 unfold withL
 rw[List.length_append,List.length_map]
 have:=List.length_filter_le (fun e:El N=>e.1.1==k) pre
 omega
def atL (C:CfgR) (l:List TriR) (b:Bx) (k:Nat):List Sn:=colL C l (plX b.x b.w k) (plZ b.z b.w k)
theorem k_columns_ok (C:CfgR) (hC:C.fine) (b:Bx) (hb:b.ok) (at0:Option Addr) (l:List TriR) (cap:Nat) (hl:l.length≤200) (hT:∀ T∈l,okT T=true) (w:World) (H:RowIn TriR.enc 10 w at0 l) :
  CallsIn Fence.wide 5 Tryz.prog 132 #[.agg #[.int .i64 C.cl,.int .i64 C.cb,.int .i64 C.ht,.int .i64 C.ri,.int .i64 C.ru,.int .i64 C.wd,.int .i64 C.dp],.slice at0 l.length cap,.agg #[.int .i64 b.x,.int .i64 b.z,.int .i64 b.w,.int .i64 b.d]] w fun e w' =>
   ∃ v,e=.returned (.tuple #[v,.int .i64 (bldE (atL C l b) b.n)])∧RowsV w' v (bldR (atL C l b) b.n)∧New w w':=by
 obtain⟨i0,hi,hz0,hz1,hz2⟩:=info_parts rows_info
 have hn:=Bx.n_le hb
 have hp:0≤b.w*b.d:=Int.mul_nonneg hb.w0 hb.d0
 have hpn:b.w*b.d=(b.n:Int):=by unfold Bx.n;omega
 have w1:IntKind.i64.wrap (b.w*b.d)=b.w*b.d:=IntWalk.i64_in _ (by omega)
 have hmk:=fun W=>run_make_row' (P:=Tryz.prog) 142 147 (.slice none 0 0) 24 Tryz.underlying142 rows_info rfl .i64 .i64 b.n (by omega) (by omega) W
 refine callsIn_of_wp_marks Tryz.func132 rfl trivial ?_ rfl
 simp only[Tryz.ntmps132,List.size_toArray,List.length_cons,List.length_nil,Nat.reduceAdd,Nat.reduceSub,Array.replicate_succ,Array.replicate_zero,List.push_toArray,List.append_toArray,List.nil_append,List.cons_append]
 gi_wp2_with fail
 generalize hW:World.alloc (World.alloc (World.alloc (World.alloc w _) _) _) _=W0
 have nW:New w W0:=by subst hW;exact nw
 have sz:W0.heap.size=w.heap.size+1+1+1+1:=by subst hW;simp
 have hc:W0.heap[w.heap.size]? = some (.cells (cfgA C) 23 (0,0)):=by
  subst hW
  exact(((((New.refl _).alloc _).alloc _).alloc _)).blk (World.alloc_heap_new w _)
 have hB:W0.heap[w.heap.size+1]? = some (.cells (boxA b) 191 (0,0)):=by
  subst hW
  have h:=World.alloc_heap_new (w.alloc (.cells (cfgA C) 23)) (.cells (boxA b) 191)
  rw[World.size_alloc]at h
  exact(((New.refl _).alloc _).alloc _).blk h
 have hG:W0.heap[w.heap.size+1+1]? = some (.cells (madeCells #[.slice none 0 0] b.n) 147 (0,0)):=by
  subst hW
  have h:=World.alloc_heap_new ((w.alloc (.cells (cfgA C) 23)).alloc (.cells (boxA b) 191)) (.cells (madeCells #[.slice none 0 0] b.n) 147)
  rw[World.size_alloc,World.size_alloc]at h
  exact((New.refl _).alloc _).blk h
 have hGb:Boxed W0 (w.heap.size+1+1+1) 142 (.slice (some ⟨w.heap.size+1+1,0,none⟩) b.n b.n):=by
  subst hW
  have h:=World.alloc_heap_new (((w.alloc (.cells (cfgA C) 23)).alloc (.cells (boxA b) 191)).alloc (.cells (madeCells #[.slice none 0 0] b.n) 147)) (.cells #[.slice (some ⟨w.heap.size+1+1,0,none⟩) b.n b.n] 142)
  rw[World.size_alloc,World.size_alloc,World.size_alloc]at h
  exact h
 have g0:Gth 147 180 W0 W0.heap.size (w.heap.size+1+1) b.n (fun _=>[]):=gth_new _ _ _ _ _ _ hG
 clear hW hG
 obtain⟨Gb,eGb⟩:∃ Gb,Gb=w.heap.size+1+1+1:=⟨_,rfl⟩
 obtain⟨G,eG⟩:∃ G,G=w.heap.size+1+1:=⟨_,rfl⟩
 obtain⟨Bb,eBb⟩:∃ Bb,Bb=w.heap.size+1:=⟨_,rfl⟩
 obtain⟨Bc,eBc⟩:∃ Bc,Bc=w.heap.size:=⟨_,rfl⟩
 rw[←eGb,←eG]at hGb
 rw[←eG]at g0
 rw[←eBb]at hB
 rw[←eBc]at hc
 rw[←eGb,←eG,←eBb,←eBc]
 have E:=Lib.hid (And.intro eGb (And.intro eG (And.intro eBb eBc)))
 have HW:=Lib.hid (And.intro nW (And.intro sz (And.intro hc (And.intro hB hGb))))
 have HH:=Lib.hid H
 have HT:=Lib.hid hT
 clear eGb eG eBb eBc nW sz hc hB hGb H hT hmk w1 hp
 refine wpIn_loop (fun a W=>∃ (j:Nat) (Ds:List Nat) (u10 u22 u23 u24 u25 u26 u27 u28 u41:Value),a={ tmps:=#[.agg #[.int .i64 C.cl,.int .i64 C.cb,.int .i64 C.ht,.int .i64 C.ri,.int .i64 C.ru,.int .i64 C.wd,.int .i64 C.dp],.slice at0 l.length cap,.agg #[.int .i64 b.x,.int .i64 b.z,.int .i64 b.w,.int .i64 b.d],.pointer (some ⟨Bc,0,none⟩),undef,.pointer (some ⟨Bb,0,none⟩),.slice none 0 0,.int .i64 0,.pointer (some ⟨Gb,0,none⟩),undef,u10,undef,undef,.pointer (some ⟨Bb,2,none⟩),.int .i64 b.w,.pointer (some ⟨Bb,3,none⟩),.int .i64 b.d,.int .i64 b.n,.slice (some ⟨G,0,none⟩) b.n b.n,.slice at0 l.length cap,.int .i64 l.length,.int .i64 (j:Int),u22,u23,u24,u25,u26,u27,u28,undef,undef,undef,undef,undef,undef,undef,undef,undef,undef,undef,undef,u41,undef,undef,undef,undef,undef],defers:=Ds.map markD }∧j≤l.length ∧
   Hid (Ds.Nodup∧Marked Ds W∧∀ D∈Ds,W0.heap.size≤D∧D<W.heap.size)∧Hid (Gth 147 180 W W0.heap.size G b.n (atL C (l.take j) b))∧Hid (But G W0 W))
  (fun a _=>l.length - (intOf (a.tmps.getD 21 undef)).toNat) ?atStart ?round
 case atStart =>
  refine⟨0,[],undef,undef,undef,undef,undef,undef,undef,undef,undef,rfl,Nat.zero_le _,Lib.hid ⟨List.nodup_nil,fun D h=>(by cases h),fun D h=>(by cases h)⟩,Lib.hid (g0.congr fun k _=>?_),Lib.hid (But.refl _ _)⟩
  unfold atL colL
  simp
 case round =>
  rintro _ W ⟨j,Ds,u10,u22,u23,u24,u25,u26,u27,u28,u41,rfl,hj,HD,HG,HU⟩
  by_cases hlt:j<l.length
  ·obtain⟨b0,off,rfl,hA⟩:=HH.out (by omega)
   have hnw:New w W:=(But.snd HU.out HW.out.1).toNew (by rw[E.out.2.1];omega)
   have hA':=hA.keep hnw
   obtain⟨d0,d1,d2,d3,d4,d5,d6,d7,d8,d9⟩:=TriR.cells hA' j hlt
   have eC:W.heap[Bc]? = some (.cells (cfgA C) 23 (0,0)):=HU.out.blk HW.out.2.2.1 (by rw[E.out.2.1,E.out.2.2.2];omega)
   have eB:W.heap[Bb]? = some (.cells (boxA b) 191 (0,0)):=HU.out.blk HW.out.2.2.2.1 (by rw[E.out.2.1,E.out.2.2.1];omega)
   obtain⟨c0,c1,c2,c3,c4,c5,c6⟩:=cfg_cs eC
   obtain⟨b0',b1',b2',b3'⟩:=box_cs eB
   have lC:Bc<W.heap.size:=World.block_lt_of_cell? _ _ c0
   have lB:Bb<W.heap.size:=World.block_lt_of_cell? _ _ b0'
   have hTj:=HT.out _ (List.getElem_mem hlt)
   have hsW:=HU.out.size
   have KT:=Lib.hid (And.intro hnw hTj)
   have hj1:l.take (j+1)=l.take j++[l[j]]:=by rw[List.take_add_one,List.getElem?_eq_getElem hlt];rfl
   have HJ:=Lib.hid hj1
   clear hA hA' eC eB hnw hTj hj1
   generalize l[j]=T at *
   gi_wp2_with (refine⟨trivial,?_⟩;gi_at_call 157;refine(p_pieces C T b _ _).mono ?_;rintro e W2 ⟨rfl,n2,h3,s2⟩)
   rw[World.size_alloc]at h3 s2
   have nW2:New W W2:=New.trans ((New.refl W).alloc _) n2
   have HG2:=Lib.hid (HG.out.new nW2)
   have HU2:=Lib.hid (HU.out.new nW2)
   have HD2:=Lib.hid (HD.out.2.1.new nW2)
   have HD3:=Lib.hid HD.out
   clear HG HU HD d0 d1 d2 d3 d4 d5 d6 d7 d8 d9 c0 c1 c2 c3 c4 c5 c6 b0' b1' b2' b3' n2
   obtain⟨X,hX⟩:∃ X,X=W.heap.size:=⟨_,rfl⟩
   rw[←hX]at s2 h3 lC lB hsW
   rw[←hX]
   have HX:=Lib.hid hX
   have HS:=Lib.hid HD3.out.2.2
   clear hX
   refine wpIn_rangeFunc_ownH rfl (by omega) (gf:=192) (lb:=#[.pointer (some ⟨X+1,0,none⟩),.pointer (some ⟨X+1+1,0,none⟩),.pointer (some ⟨X+1+2,0,none⟩)]) rfl trivial (enters_of Tryz.func192 (by kernel_rfl) rfl)
    (p_stops C T b hC KT.out.2 hb 4 (by omega) (X+1) (X+1+1) (X+1+2) W2 h3)
    (fun h k=>h.trans k) (fun W l o o' hl _ _ _=>⟨World.putObj_heap_other (by omega),World.putObj_heap_other (by omega),World.putObj_heap_other (by omega)⟩) (Below.refl _ _) (fun _=>rfl)
    (fun pre W'=>(Gth 147 180 W' W0.heap.size G b.n (withL (atL C (l.take j) b) pre)∧But G W0 W')∧(Marked Ds W'∧Three C T b (X+1) (X+1+1) (X+1+2) W'))
    (fun _ _ _=>False)
    (OwnFrom.and (OwnFrom.and (gth_own _ _ _ _ _ _ (fun pre=>withL (atL C (l.take j) b) pre)) (but_own (by omega))) (OwnFrom.and (Marked.own fun D hD=>by have:=(HS.out D hD).2;have:=HX.out;omega) (three_own _ _ _ _ _ _ _)))
    (fun _ _ _ _ _ hs _ _=>hs)
    ⟨⟨HG2.out.congr fun k _=>withL_nil _ k,HU2.out⟩,HD2.out,h3⟩
    (PcAx G (fun e Bp=>#[.agg #[.int .i64 C.cl,.int .i64 C.cb,.int .i64 C.ht,.int .i64 C.ri,.int .i64 C.ru,.int .i64 C.wd,.int .i64 C.dp],.slice (some ⟨b0,off,none⟩) l.length cap,.agg #[.int .i64 b.x,.int .i64 b.z,.int .i64 b.w,.int .i64 b.d],.pointer (some ⟨Bc,0,none⟩),undef,.pointer (some ⟨Bb,0,none⟩),.slice none 0 0,.int .i64 0,.pointer (some ⟨Gb,0,none⟩),undef,.pointer (some ⟨X,0,none⟩),.int .i64 e.1.1,.pointer (some ⟨Bp,0,none⟩),.pointer (some ⟨Bb,2,none⟩),.int .i64 b.w,.pointer (some ⟨Bb,3,none⟩),.int .i64 b.d,.int .i64 b.n,.slice (some ⟨G,0,none⟩) b.n b.n,.slice (some ⟨b0,off,none⟩) l.length cap,.int .i64 l.length,.int .i64 (j:Int),.bool true,.pointer (some ⟨b0,off+j*10,none⟩),.agg #[.int .i64 T.i,.int .i64 T.x0,.int .i64 T.y0,.int .i64 T.z0,.int .i64 T.x1,.int .i64 T.y1,.int .i64 T.z1,.int .i64 T.x2,.int .i64 T.y2,.int .i64 T.z2],.agg #[.int .i64 C.cl,.int .i64 C.cb,.int .i64 C.ht,.int .i64 C.ri,.int .i64 C.ru,.int .i64 C.wd,.int .i64 C.dp],.agg #[.int .i64 T.i,.int .i64 T.x0,.int .i64 T.y0,.int .i64 T.z0,.int .i64 T.x1,.int .i64 T.y1,.int .i64 T.z1,.int .i64 T.x2,.int .i64 T.y2,.int .i64 T.z2],.agg #[.int .i64 b.x,.int .i64 b.z,.int .i64 b.w,.int .i64 b.d],.func (.func 192) #[] #[.pointer (some ⟨X+1,0,none⟩),.pointer (some ⟨X+1+1,0,none⟩),.pointer (some ⟨X+1+2,0,none⟩)],.int .i64 e.1.1,.agg #[.int .i64 e.1.2.lo,.int .i64 e.1.2.hi,.bool e.1.2.wk],undef,undef,undef,undef,undef,undef,undef,undef,undef,undef,u41,undef,undef,undef,undef,undef]))
    (fun x a'=>pcAx_own _ _ _ x a') ?assign ?body ?done ?stop
   case assign =>
    intro l' pre e W' K hi' hK
    simp only[elA]
    gi_wp2
    obtain⟨vs,hv⟩:=hi'.1.1
    obtain⟨cs,q1,q2,q3⟩:=hv.arr
    refine hK _ _ ((KeepsOthers.alloc _ _).from _) ?_ ?_ ⟨W'.heap.size,cs,World.alloc_heap_new W' _,(Below.heap_alloc _ _ _ (Array.getElem?_eq_some_iff.1 q1).1).trans q1,fun k v hk hv'=>?_,rfl⟩
    ·exact⟨Below.heap_alloc _ _ _ (Array.getElem?_eq_some_iff.1 hi'.2.2.c).1,Below.heap_alloc _ _ _ (Array.getElem?_eq_some_iff.1 hi'.2.2.t).1,Below.heap_alloc _ _ _ (Array.getElem?_eq_some_iff.1 hi'.2.2.b).1⟩
    ·have na:∀ o,New W' (W'.alloc o):=fun o=>(New.refl W').alloc o
     exact⟨⟨hi'.1.1.new (na _),hi'.1.2.new (na _)⟩,hi'.2.1.new (na _),hi'.2.2.new (na _)⟩
    ·have hkN:k<b.n:=by rw[←q2];exact(Array.getElem?_eq_some_iff.1 hk).1
     have e2:v=vs k:=Option.some.inj (hk.symm.trans (q3 k hkN))
     rw[e2]at hv'
     have:=((hv.rows k hkN).lt _ hv').2
     omega
   case body =>
    rintro l' pre e a' W' hl' ⟨r,hr⟩ ⟨⟨⟨vs,hv⟩,hU⟩,hM,h3'⟩ ⟨Bp,cs,hBp,hcs,hno,rfl⟩ hlen
    have hi':e.1.1<b.n:=e.2
    have hGb:Boxed W' Gb 142 (.slice (some ⟨G,0,none⟩) b.n b.n):=hU.blk HW.out.2.2.2.2 (by rw[E.out.1,E.out.2.1];omega)
    have q8:=hGb.cell
    obtain⟨qG,fG⟩:=hv.cell hi'
    have x0:=cell_of_heap (o:=0) hBp rfl
    have x1:=cell_of_heap (o:=1) hBp rfl
    have x2:=cell_of_heap (o:=2) hBp rfl
    have hll:(withL (atL C (l.take j) b) pre e.1.1).length≤1300:=by
     refine Nat.le_trans (withL_len _ _ _) ?_
     have h1:(atL C (l.take j) b e.1.1).length≤(l.take j).length:=col_len _ _ _ _
     rw[List.length_take]at h1
     omega
    obtain⟨i1,hi1,hs0,hs1,hs2⟩:=info_parts span_info
    have hrow:=hv.rows e.1.1 hi'
    have nB:some Bp≠(vs e.1.1).ownBlock:=by
     obtain⟨cs',q1,q2,q3⟩:=hv.arr
     have e1:cs'=cs:=by rw[hcs]at q1;injection q1 with q1;injection q1 with q1;exact q1.symm
     subst e1
     exact fun h=>hno e.1.1 _ (q3 _ hi') h.symm
    have nG:some G≠(vs e.1.1).ownBlock:=fun h=>by
     obtain⟨cur,hc,-⟩:=row_cells hrow h.symm
     rw[hcs]at hc
     injection hc with hc
     injection hc with _ hc
     exact absurd hc (by decide)
    have nGb:some Gb≠(vs e.1.1).ownBlock:=hGb.not_row (by decide) hrow
    have HV:=Lib.hid (And.intro hv (And.intro hU (And.intro hM h3')))
    have HR:=Lib.hid hrow
    have hUs:=hU.size
    clear hv hU hM h3' hGb hBp hr hcs hno hrow
    obtain⟨va,hva⟩:∃ va,va=vs e.1.1:=⟨_,rfl⟩
    rw[←hva]at qG nB nG nGb HR
    have HVA:=Lib.hid hva
    clear hva
    gi_wp2_with fail
    refine wpIn_region_loose 9 (fun j w1 w2=>if j=8 then w1.grownBy w2 va.ownBlock else New w1 w2) (fun listed w1=>W'.grownBy w1 va.ownBlock∧(listed.getD 8 false=false→New W' w1)) (fun i w' v=>match i with
     | 0=>v=.slice (some ⟨G,0,none⟩) b.n b.n
     | 1=>v=.int .i64 e.1.1
     | 2=>v=.slice (some ⟨G,0,none⟩) b.n b.n
     | 3=>v=.int .i64 e.1.1
     | 4=>v=.pointer (some ⟨G,e.1.1,none⟩)
     | 5=>v=va
     | 6=>v=.agg #[.int .i64 e.1.2.lo,.int .i64 e.1.2.hi,.bool e.1.2.wk]
     | 7=>∃ p,v=.slice (some ⟨p,0,none⟩) 1 1∧some p≠va.ownBlock∧∀ q u,e.1.2.enc[q]? = some u→w'.cell? ((⟨p,0,none⟩:Addr).add q)=some u
     | 8=>w'.ownsRow W0.heap.size 180 3 v ((withL (atL C (l.take j) b) pre e.1.1).length+1) ((withL (atL C (l.take j) b) pre e.1.1).flatMap Sn.enc++e.1.2.enc)∧W'.grownBy w' va.ownBlock∧(v.ownBlock=va.ownBlock∨∀ g,v.ownBlock=some g→W'.heap.size≤g)
     | _=>True) (by kernel_rfl) (by kernel_rfl) (by kernel_rfl) ?_ ?_ ?_ ?_ ?_
    ·intro i j' w1 w2 v hij h n
     match i,h with
     | 0,h=>exact h
     | 1,h=>exact h
     | 2,h=>exact h
     | 3,h=>exact h
     | 4,h=>exact h
     | 5,h=>exact h
     | 6,h=>exact h
     | 7,⟨p,h1,h2,h3⟩ =>
      refine⟨p,h1,h2,fun q u hq=>?_⟩
      by_cases e8:j'=8
      ·rw[if_pos e8]at n
       exact n.cell (h3 q u hq) (by unfold Addr.add;split <;> exact h2)
      ·rw[if_neg e8]at n
       exact(new_gro n).cell (h3 q u hq) (by simp)
     | 8,⟨h1,h2,h3⟩ =>
      rw[if_neg (fun h=>hij h.symm)]at n
      exact⟨own_new h1 n,h2.trans ⟨n.os,n.tape,n.output,n.size,fun k hk _=>n.block k hk⟩,h3⟩
     | i+9,_=>trivial
    ·exact⟨⟨rfl,rfl,rfl,Nat.le_refl _,fun _ _ _=>rfl⟩,fun _=>Below.drew (Below.refl _ _)⟩
    ·intro listed j' w1 w2 hj' hs ⟨h1,h2⟩ n
     by_cases e8:j'=8
     ·rw[if_pos e8]at n
      refine⟨h1.trans n,fun h=>?_⟩
      subst e8
      simp[Array.getD_eq_getD_getElem?,hs]at h
     ·rw[if_neg e8]at n
      refine⟨h1.trans ⟨n.os,n.tape,n.output,n.size,fun k hk _=>n.block k hk⟩,fun h=>?_⟩
      rw[getD_set_ne false e8]at h
      exact(h2 h).trans n
    ·intro i o listed hi ho hls a' w' hKK hr hd
     rcases(show i=0∨i=1∨i=2∨i=3∨i=4∨i=5∨i=6∨i=7∨i=8 by omega)with rfl|rfl|rfl|rfl|rfl|rfl|rfl|rfl|rfl <;> obtain rfl:=Option.some.inj ho
     ·have r8:(a'.tmps[8]?).getD undef=.pointer (some ⟨Gb,0,none⟩):=(eval_get a' 8).symm.trans (hr 8 (by kernel_rfl))
      have y8:=hKK.1.cell q8 nGb
      exact⟨_,w',by go_simp,New.refl _,rfl⟩
     ·have r11:(a'.tmps[11]?).getD undef=.int .i64 e.1.1:=(eval_get a' 11).symm.trans (hr 11 (by kernel_rfl))
      exact⟨_,w',by go_simp,New.refl _,rfl⟩
     ·have r8:(a'.tmps[8]?).getD undef=.pointer (some ⟨Gb,0,none⟩):=(eval_get a' 8).symm.trans (hr 8 (by kernel_rfl))
      have y8:=hKK.1.cell q8 nGb
      exact⟨_,w',by go_simp,New.refl _,rfl⟩
     ·have r11:(a'.tmps[11]?).getD undef=.int .i64 e.1.1:=(eval_get a' 11).symm.trans (hr 11 (by kernel_rfl))
      exact⟨_,w',by go_simp,New.refl _,rfl⟩
     ·have r33:(a'.tmps[33]?).getD undef=.slice (some ⟨G,0,none⟩) b.n b.n:=(eval_get a' 33).symm.trans (hd 2 33 (by omega) (by kernel_rfl) (by kernel_rfl))
      have r34:(a'.tmps[34]?).getD undef=.int .i64 e.1.1:=(eval_get a' 34).symm.trans (hd 3 34 (by omega) (by kernel_rfl) (by kernel_rfl))
      exact⟨_,w',by go_simp,New.refl _,rfl⟩
     ·have r35:(a'.tmps[35]?).getD undef=.pointer (some ⟨G,e.1.1,none⟩):=(eval_get a' 35).symm.trans (hd 4 35 (by omega) (by kernel_rfl) (by kernel_rfl))
      have yG:=hKK.1.cell qG nG
      exact⟨_,w',by go_simp,New.refl _,rfl⟩
     ·have r12:(a'.tmps[12]?).getD undef=.pointer (some ⟨Bp,0,none⟩):=(eval_get a' 12).symm.trans (hr 12 (by kernel_rfl))
      have y0:=hKK.1.cell x0 nB
      have y1:=hKK.1.cell x1 nB
      have y2:=hKK.1.cell x2 nB
      exact⟨_,w',by go_simp,New.refl _,rfl⟩
     ·have r37:(a'.tmps[37]?).getD undef=.agg #[.int .i64 e.1.2.lo,.int .i64 e.1.2.hi,.bool e.1.2.wk]:=(eval_get a' 37).symm.trans (hd 6 37 (by omega) (by kernel_rfl) (by kernel_rfl))
      refine⟨.slice (some ⟨w'.heap.size,0,none⟩) 1 1,w'.alloc (.cells #[.int .i64 e.1.2.lo,.int .i64 e.1.2.hi,.bool e.1.2.wk] 180),by go_simp,(New.refl _).alloc _,w'.heap.size,rfl,fun h=>?_,fun q u hq=>?_⟩
      ·have h1:=(HR.out.lt _ h.symm).2
       have h2:=hKK.1.size
       omega
      ·exact ra_sn_new w' e.1.2 180 q u hq
     ·have r36:(a'.tmps[36]?).getD undef=va:=(eval_get a' 36).symm.trans (hd 5 36 (by omega) (by kernel_rfl) (by kernel_rfl))
      obtain⟨p,hp1,hp2,hp3⟩:=hd 7 38 (by omega) (by kernel_rfl) (by kernel_rfl)
      have r38:(a'.tmps[38]?).getD undef=.slice (some ⟨p,0,none⟩) 1 1:=(eval_get a' 38).symm.trans hp1
      have nw:=hKK.2 hls
      obtain⟨v',w2,hrun,hown,hgrow,-,hat⟩:=run_append_own_at (P:=Tryz.prog) (w:=w') W0.heap.size 147 147 180 i1 (.agg #[.int .i64 0,.int .i64 0,.bool false]) 3 24 Tryz.underlying147 hi1 hs0 hs1 hs2 rfl (by decide) va _ _ (own_new HR.out nw) ⟨p,0,none⟩ 1 1 e.1.2.enc rfl hp3 (Sn.enc_one _) (by unfold maxLen;omega) (by omega) (by have:=hKK.1.size;omega)
      have e36:a'.eval (.tmp 36)=va:=(eval_get a' 36).trans r36
      have e38:a'.eval (.tmp 38)=.slice (some ⟨p,0,none⟩) 1 1:=(eval_get a' 38).trans r38
      refine⟨v',w2,by simp[execOp,resolve,invoke,builtin,e36,e38,hrun,Result.andThen],?_,hown,hKK.1.trans hgrow,?_⟩
      ·exact hgrow
      ·rcases hat with h|h
       ·exact .inl h
       ·refine .inr fun g hg=>?_
        rw[h]at hg
        injection hg with hg
        have:=hKK.1.size
        omega
    ·intro vs' w' hv'
     have e31:=hv' 0 (by omega)
     have e32:=hv' 1 (by omega)
     obtain⟨hown,hgrow,hat⟩:=hv' 8 (by omega)
     obtain⟨g',cap',e39⟩:=ownsRow_succ hown
     rw[e39]at hown hat
     rw[HVA.out]at hgrow hat
     obtain⟨p1,p2,p3,p4,p5,p6⟩:=HV.out.1.put (by decide) hi' hown hgrow hat
     simp only[]at e31 e32
     clear hv' hown hgrow hat
     simp only[List.take_succ_cons,List.take_zero,List.drop_succ_cons,List.drop_zero,putL,Act.put,List.setIfInBounds_toArray,List.set_cons_zero,List.set_cons_succ,Nat.reduceAdd,Nat.zero_add]
     rw[e31,e32,e39]
     gi_wp2_with fail
     have h3':=HV.out.2.2.2
     have gG:=E.out.2.1
     have gS:=HW.out.2.1
     have t1:=p5 _ _ _ _ h3'.c (by decide) (by omega)
     have t2:=p5 _ _ _ _ h3'.t (by decide) (by omega)
     have t3:=p5 _ _ _ _ h3'.b (by decide) (by omega)
     exact⟨p4.from _,⟨t1.trans h3'.c.symm,t2.trans h3'.t.symm,t3.trans h3'.b.symm⟩,⟨p3.congr fun k _=>withL_snoc _ _ _ k,p6 W0 HV.out.2.1 (Nat.le_refl _)⟩,HV.out.2.2.1.others p4,⟨t1,t2,t3⟩⟩
   case done =>
    rintro D xs W' hD rfl ⟨⟨hG,hU⟩,hM,h3'⟩ hK
    have hWW:=nW2.size
    have hDlt:D<W'.heap.size:=(Array.getElem?_eq_some_iff.1 hK).1
    have hX:=HX.out
    have HF:=Lib.hid (And.intro hD (And.intro hG (And.intro hU (And.intro hM (And.intro hK (And.intro hWW hDlt))))))
    clear hD hG hU hM hK hWW hDlt h3' hX s2 lC lB hsW h3
    gi_wp2_with fail
    refine⟨⟨j+1,D::Ds,_,_,_,_,_,_,_,_,_,rfl,by omega,Lib.hid ⟨List.nodup_cons.2 ⟨fun h=>?_,HD3.out.1⟩,fun D' hD'=>?_,fun D' hD'=>?_⟩,Lib.hid (HF.out.2.1.congr fun k hk=>?_),Lib.hid HF.out.2.2.1⟩,by simp[intOf];omega⟩
    ·have:=(HS.out D h).2
     have:=HF.out.1
     have:=HF.out.2.2.2.2.2.1
     omega
    ·rcases List.mem_cons.1 hD' with rfl|h
     ·exact HF.out.2.2.2.2.1
     ·exact HF.out.2.2.2.1 D' h
    ·rcases List.mem_cons.1 hD' with rfl|h
     ·have:=HF.out.1
      have:=HF.out.2.2.2.2.2.1
      have:=HU2.out.size
      exact⟨by omega,HF.out.2.2.2.2.2.2⟩
     ·have:=HS.out D' h
      have:=HF.out.1
      have:=HF.out.2.2.2.2.2.1
      have:=HF.out.2.2.2.2.2.2
      omega
    ·unfold withL atL
     rw[HJ.out,col_snoc,el_at hb hk]
   case stop =>
    rintro D c pre W' _ _ h _
    exact h.elim
  ·obtain rfl:j=l.length:=by omega
   have hnw:New w W:=(But.snd HU.out HW.out.1).toNew (by rw[E.out.2.1];omega)
   have eB:W.heap[Bb]? = some (.cells (boxA b) 191 (0,0)):=HU.out.blk HW.out.2.2.2.1 (by rw[E.out.2.1,E.out.2.2.1];omega)
   have eG:Boxed W Gb 142 (.slice (some ⟨G,0,none⟩) b.n b.n):=HU.out.blk HW.out.2.2.2.2 (by rw[E.out.1,E.out.2.1];omega)
   obtain⟨b0',b1',b2',b3'⟩:=box_cs eB
   have hG:=HG.out
   rw[List.take_length]at hG
   have KB:=Lib.hid (e_build (atL C l b) b hb W0.heap.size G Gb (fun k _=>Nat.le_trans (col_len _ _ _ _) (by omega)) (fun k _ p hp=>col_fit hp) W eG hG)
   have HN:=Lib.hid hnw
   clear eB eG hG hnw
   gi_wp2_with (refine⟨trivial,?_⟩;gi_at_call 158;refine(callsIn_wide.2 KB.out).mono ?_;rintro e W3 ⟨v,rfl,hR,n3⟩)
   refine leaves_marks Ds W3 HD.out.1 (HD.out.2.1.new n3) fun W4 hS=>?_
   exact⟨_,results_tmp2 rfl _ _ _,v,rfl,rows_cells (shut_cells hS (HD.out.2.1.new n3)) hR,shut_new hS (HN.out.trans n3) (fun D hD=>by have:=(HD.out.2.2 D hD).1;have:=HW.out.1.size;omega)⟩
end Go.Proofs.YtmhghnbgllaihaaGreatDoor
