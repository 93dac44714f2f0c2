import Derived.Test.YtmhghnbgllaihaaGreatDoorSoXFP2Z2
import Derived.Shelf.GgSortFunc.InsertionK
import Derived.Shelf.SlSortFuncK.RowK2
import Derived.Sort.LotA
import Derived.Sort.LotB
import Derived.Deep.LoopGhost
import Derived.Test.YtmhghnbgllaihaaGreatDoorSoLSP2Z2
import Derived.RangeFuncNested
import Derived.RangeFuncWrites
import Derived.RangeFuncBound
import Derived.RangeFuncCalls
import Derived.RangeFuncLeaves
import Derived.RangeFuncBox
import Derived.Maps.OwnIn
import Derived.Deep.OwnRows
import Derived.Test.YtmhghnbgllaihaaGreatDoorSoCEP2Z2
import Derived.Test.YtmhghnbgllaihaaGreatDoorTriGP2Z2
import Derived.Test.YtmhghnbgllaihaaGreatDoorWholeIP2Z2
set_option linter.unusedVariables false
set_option maxHeartbeats 16000000
set_option maxRecDepth 100000

namespace Go.Proofs.YtmhghnbgllaihaaGreatDoor
open Go.RowKit Go.Sort Go.Shelf Go.Lib
structure But (blk:Nat) (w w':World):Prop where
 os:w'.os=w.os
 tape:w'.tape=w.tape
 output:w'.output=w.output
 size:w.heap.size≤w'.heap.size
 block:∀ k,k<w.heap.size→k≠blk→w'.heap[k]? = w.heap[k]?
theorem But.refl (blk:Nat) (w:World):But blk w w:=⟨rfl,rfl,rfl,Nat.le_refl _,fun _ _ _=>rfl⟩
theorem But.trans {blk:Nat} {a b c:World} (h:But blk a b) (k:But blk b c):But blk a c :=
 ⟨k.os.trans h.os,k.tape.trans h.tape,k.output.trans h.output,Nat.le_trans h.size k.size,fun i hi hn=>(k.block i (Nat.lt_of_lt_of_le hi h.size) hn).trans (h.block i hi hn)⟩
theorem But.new {blk:Nat} {a b c:World} (h:But blk a b) (k:New b c):But blk a c :=
 h.trans ⟨k.os,k.tape,k.output,k.size,fun i hi _=>k.block i hi⟩
theorem But.of_new {blk:Nat} {b c:World} (k:New b c):But blk b c:=(But.refl blk b).new k
theorem But.snd {blk:Nat} {a b c:World} (k:But blk b c) (h:New a b):But blk a c:=(But.of_new h).trans k
theorem But.own {blk B:Nat} {a b c:World} (h:But blk a b) (k:But B b c) (hB:a.heap.size≤B):But blk a c :=
 ⟨k.os.trans h.os,k.tape.trans h.tape,k.output.trans h.output,Nat.le_trans h.size k.size,fun i hi hn=>(k.block i (Nat.lt_of_lt_of_le hi h.size) (by omega)).trans (h.block i hi hn)⟩
theorem But.toNew {B:Nat} {a c:World} (k:But B a c) (hB:a.heap.size≤B):New a c :=
 ⟨k.os,k.tape,k.output,k.size,fun i hi=>k.block i hi (by omega)⟩
theorem But.setCell {blk:Nat} {a w:World} (h:But blk a w) (o:Nat) (u:Value):But blk a (w.setCell ⟨blk,o,none⟩ u) :=
 h.trans ⟨rfl,rfl,rfl,by simp[World.setCell],fun k _ hn=>Below.heap_setCell _ _ _ _ hn⟩
variable {α:Type} [Inhabited α]
end Go.Proofs.YtmhghnbgllaihaaGreatDoor

namespace Go.Proofs.YtmhghnbgllaihaaGreatDoor
open Go.RowKit Go.Sort
theorem blk_own {β:Type} (b:Nat) {cs:Array Value} {t:TypeId} {fr:Nat×Nat} (D:Nat):OwnFrom D (fun(_:β) W=>W.heap[b]? = some (.cells cs t fr)):=fun _ X Y row hs hg hr=>by
 refine(hg.block b (Array.getElem?_eq_some_iff.1 hs).1 (fun e'=>?_)).trans hs
 obtain⟨_,o,ho,hc⟩:=hr b e'.symm
 rw[hs]at ho;cases ho;cases hc
theorem but_own {β:Type} {G D:Nat} {w0:World} (hD:w0.heap.size≤D):OwnFrom D (fun(_:β) W=>But G w0 W):=fun _ X Y row hs hg hr =>
 ⟨hg.os.trans hs.os,hg.tape.trans hs.tape,hg.output.trans hs.output,Nat.le_trans hs.size hg.size,fun k hk hn=>(hg.block k (Nat.lt_of_lt_of_le hk hs.size) (fun e=>by have:=(hr k e.symm).1;omega)).trans (hs.block k hk hn)⟩
theorem new_gro {w w':World} (h:New w w'):w.grownBy w' none:=⟨h.os,h.tape,h.output,h.size,fun k hk _=>h.block k hk⟩
theorem New.blk {w w':World} (h:New w w') {b:Nat} {o:Obj} (hb:w.heap[b]? = some o):w'.heap[b]? = some o:=(h.block b (Array.getElem?_eq_some_iff.1 hb).1).trans hb
theorem new_others {w w':World} (h:New w w'):KeepsOthers w w':=⟨h.size,fun k o hk _=>h.blk hk⟩
def markD (D:Nat):Deferred:={ target:=.collected D,args:=#[] }
def Marked (Ds:List Nat) (W:World):Prop:=∀ D∈Ds,W.heap[D]? = some (.deferred (some []))
theorem Marked.own {β:Type} {Ds:List Nat} {B:Nat} (hB:∀ D∈Ds,D<B):OwnFrom B (fun(_:β) W=>Marked Ds W):=fun _ X Y row hs hg hr D hD=>by
 have h:=hs D hD
 refine(hg.block D (Array.getElem?_eq_some_iff.1 h).1 (fun e'=>?_)).trans h
 have:=(hr D e'.symm).1
 have:=hB D hD
 omega
theorem Marked.others {Ds:List Nat} {W W':World} (h:Marked Ds W) (k:KeepsOthers W W'):Marked Ds W':=fun D hD=>k.same D _ (h D hD) rfl
theorem Marked.new {Ds:List Nat} {W W':World} (h:Marked Ds W) (k:New W W'):Marked Ds W':=h.others (new_others k)
structure Shut (Ds:List Nat) (W W':World):Prop where
 os:W'.os=W.os
 tape:W'.tape=W.tape
 output:W'.output=W.output
 size:W'.heap.size=W.heap.size
 block:∀ k,k∉Ds→W'.heap[k]? = W.heap[k]?
theorem leaves_marks {F:Fence} {n:Nat} {P:Program} {fn:Func} {tmps:Array Value} {R:Ending→World→Prop}:∀ (Ds:List Nat) (W:World),Ds.Nodup→Marked Ds W→(∀ W',Shut Ds W W'→LeavesInM F n P fn tmps R [] .returning W')→LeavesInM F n P fn tmps R (Ds.map markD) .returning W
 | [],W,_,_,h=>h W ⟨rfl,rfl,rfl,rfl,fun _ _=>rfl⟩
 | D::Ds,W,hN,hM,h=>by
  have hD:=hM D List.mem_cons_self
  have hnd:=List.nodup_cons.1 hN
  refine⟨by simp,.inl ⟨D,_,rfl,run_takeDeferred hD,?_⟩⟩
  refine leaves_marks Ds _ hnd.2 (fun D' hD'=>?_) fun W' hS=>?_
  ·have hne:D'≠D:=fun e=>hnd.1 (e▸hD')
   exact(World.putObj_heap_other hne).trans (hM D' (List.mem_cons_of_mem _ hD'))
  ·refine h W' ⟨hS.os,hS.tape,hS.output,hS.size.trans (by simp),fun k hk=>?_⟩
   rw[List.mem_cons,not_or]at hk
   exact(hS.block k hk.2).trans (World.putObj_heap_other hk.1)
structure GthV (tG tS:TypeId) (W:World) (n0 G N:Nat) (L:Nat→List Sn) (vs:Nat→Value):Prop where
 arr:∃ cs:Array Value,W.heap[G]? = some (.cells cs tG (0,0))∧cs.size=N∧∀ k,k<N→cs[k]? = some (vs k)
 rows:∀ k,k<N→W.ownsRow n0 tS 3 (vs k) (L k).length ((L k).flatMap Sn.enc)
 apart:∀ j k b,j<N→k<N→(vs j).ownBlock=some b→(vs k).ownBlock=some b→j=k
def Gth (tG tS:TypeId) (W:World) (n0 G N:Nat) (L:Nat→List Sn):Prop:=∃ vs,GthV tG tS W n0 G N L vs
section
variable {tG tS:TypeId} {W w1:World} {n0 G N:Nat} {L:Nat→List Sn} {vs:Nat→Value}
theorem gth_new (tG tS:TypeId) (W:World) (n0 G N:Nat) (h:W.heap[G]? = some (.cells (madeCells #[.slice none 0 0] N) tG (0,0))):Gth tG tS W n0 G N (fun _=>[]) :=
 ⟨fun _=>.slice none 0 0,⟨_,h,size_madeCells _ _,fun k hk=>by
  rw[←Array.getElem?_toList,toList_madeCells_one,List.getElem?_replicate,if_pos hk]⟩,fun k _=>World.ownsRow_nil _ _ _ _,fun j k b _ _ hj _=>by simp[Value.ownBlock]at hj⟩
theorem row_cells {base size k:Nat} {v:Value} {xs:List Value} (h:W.ownsRow base tS size v k xs) {g:Nat} (hg:v.ownBlock=some g):∃ cur,W.heap[g]? = some (.cells cur tS (0,0))∧base≤g:=by
 rcases h.2 with ⟨rfl,_⟩|⟨g',cap,cur,rfl,hb,hgb,_⟩
 ·simp[Value.ownBlock]at hg
 ·obtain rfl:g'=g:=by simpa [Value.ownBlock]using hg
  exact⟨cur,hgb,hb⟩
theorem GthV.grown {row:Option Nat} (h:GthV tG tS W n0 G N L vs) (hg:W.grownBy w1 row) (hr:∀ r,row=some r→∃ o:Obj,W.heap[r]? = some o∧o.isCells=false):GthV tG tS w1 n0 G N L vs:=by
 obtain⟨⟨cs,a1,a2,a3⟩,h2,h3⟩:=h
 refine⟨⟨cs,(hg.block G (Array.getElem?_eq_some_iff.1 a1).1 fun e=>?_).trans a1,a2,a3⟩,fun k hk=>(h2 k hk).kept hg ?_,h3⟩
 ·obtain⟨o,ho,hc⟩:=hr G e.symm
  rw[a1]at ho;cases ho;cases hc
 ·cases hv:(vs k).ownBlock with
  | none=>exact .inl rfl
  | some g =>
   refine .inr fun e=>?_
   obtain⟨cur,hc,_⟩:=row_cells (h2 k hk) hv
   obtain⟨o,ho,hc'⟩:=hr g e.symm
   rw[hc]at ho;cases ho;cases hc'
theorem GthV.new (h:GthV tG tS W n0 G N L vs) (n:New W w1):GthV tG tS w1 n0 G N L vs:=h.grown (new_gro n) (fun r e=>by cases e)
theorem Gth.new (h:Gth tG tS W n0 G N L) (n:New W w1):Gth tG tS w1 n0 G N L:=by obtain⟨vs,h⟩:=h;exact⟨vs,h.new n⟩
theorem gth_own {β:Type} (tG tS:TypeId) (n0 G N D:Nat) (f:β→Nat→List Sn):OwnFrom D (fun(s:β) W=>Gth tG tS W n0 G N (f s)):=fun s X Y row ⟨vs,h⟩ hg hr=>⟨vs,h.grown hg fun r e=>(hr r e).2⟩
theorem Gth.congr {L':Nat→List Sn} (h:Gth tG tS W n0 G N L) (e:∀ k,k<N→L' k=L k):Gth tG tS W n0 G N L':=by
 obtain⟨vs,h1,h2,h3⟩:=h
 exact⟨vs,h1,fun k hk=>by rw[e k hk];exact h2 k hk,h3⟩
theorem GthV.cell (h:GthV tG tS W n0 G N L vs) {i:Nat} (hi:i<N):W.cell? ⟨G,i,none⟩=some (vs i)∧W.frozen? ⟨G,i,none⟩=false:=by
 obtain⟨cs,a1,a2,a3⟩:=h.arr
 exact⟨cell_of_heap a1 (a3 i hi),by simp[World.frozen?,a1]⟩
theorem GthV.put (h:GthV tG tS W n0 G N L vs) (ht:tG≠tS) {i:Nat} (hi:i<N) {v':Value} {s:Sn} (hown:w1.ownsRow n0 tS 3 v' ((L i).length+1) ((L i).flatMap Sn.enc++s.enc)) (hgrow:W.grownBy w1 (vs i).ownBlock)
  (hat:v'.ownBlock=(vs i).ownBlock∨∀ b,v'.ownBlock=some b→W.heap.size≤b) :
  w1.cell? ⟨G,i,none⟩=some (vs i)∧w1.frozen? ⟨G,i,none⟩=false∧Gth tG tS (w1.setCell ⟨G,i,none⟩ v') n0 G N (fun k=>if k=i then L i++[s]else L k)∧KeepsOthers W (w1.setCell ⟨G,i,none⟩ v') ∧
   (∀ (b:Nat) (cs:Array Value) (t:TypeId) (fr:Nat×Nat),W.heap[b]? = some (Obj.cells cs t fr)→t≠tS→b≠G→(w1.setCell ⟨G,i,none⟩ v').heap[b]? = some (Obj.cells cs t fr))∧(∀ w0,But G w0 W→w0.heap.size≤n0→But G w0 (w1.setCell ⟨G,i,none⟩ v')):=by
 obtain⟨⟨cs,a1,a2,a3⟩,h2,h3⟩:=h
 have off:∀ (b:Nat) (cs:Array Value) (t:TypeId) (fr:Nat×Nat),W.heap[b]? = some (Obj.cells cs t fr)→t≠tS→w1.heap[b]? = some (Obj.cells cs t fr):=fun b cs t fr hb hts=>by
  refine(hgrow.block b (Array.getElem?_eq_some_iff.1 hb).1 fun e=>?_).trans hb
  obtain⟨cur,hc,_⟩:=row_cells (h2 i hi) e.symm
  rw[hb]at hc
  injection hc with hc
  injection hc with _ hc
  exact hts hc
 have hG:=off G cs tG (0,0) a1 ht
 have hGs:=heap_setCell_same w1 G i cs tG v' hG
 have oth:∀ b,b≠G→(w1.setCell ⟨G,i,none⟩ v').heap[b]? = w1.heap[b]? := fun b hb=>Below.heap_setCell _ _ _ _ hb
 have gs:w1.grownBy (w1.setCell ⟨G,i,none⟩ v') (some G):=⟨rfl,rfl,rfl,by simp[World.setCell],fun k _ hk=>oth k (fun e=>hk (by rw[e]))⟩
 have hne:v'.ownBlock≠some G:=fun e=>by
  obtain⟨cur,hc,_⟩:=row_cells hown e
  rw[hG]at hc
  injection hc with hc
  injection hc with _ hc
  exact ht hc
 refine⟨cell_of_heap hG (a3 i hi),by simp[World.frozen?,hG],⟨fun k=>if k=i then v' else vs k,⟨_,hGs,by simpa using a2,fun k hk=>?_⟩,fun k hk=>?_,fun j k b hj hk hjb hkb=>?_⟩,?_,fun b cs t fr hb hts hbG=>(oth b hbG).trans (off b cs t fr hb hts),fun w0 hB hn=>?_⟩
 ·by_cases e:k=i
  ·subst e
   rw[if_pos rfl,Array.getElem?_setIfInBounds_self_of_lt (by omega)]
  ·rw[if_neg e,Array.getElem?_setIfInBounds_ne (fun h=>e h.symm),a3 k hk]
 ·by_cases e:k=i
  ·subst e
   simp only[if_pos]
   rw[List.length_append,List.flatMap_append]
   simpa using hown.kept gs (.inr hne)
  ·simp only[if_neg e]
   refine((h2 k hk).kept hgrow ?_).kept gs ?_
   ·cases hv:(vs k).ownBlock with
    | none=>exact .inl rfl
    | some g=>exact .inr fun e'=>e (h3 k i g hk hi hv e'.symm)
   ·refine .inr fun e'=>?_
    obtain⟨cur,hc,_⟩:=row_cells (h2 k hk) e'
    rw[a1]at hc
    injection hc with hc
    injection hc with _ hc
    exact ht hc
 ·have fresh:∀ j,j<N→j≠i→(vs j).ownBlock=some b→v'.ownBlock=some b→False:=fun j hj hji e1 e2=>by
   rcases hat with e|e
   ·exact hji (h3 j i b hj hi e1 (e▸e2))
   ·have:=((h2 j hj).lt b e1).2
    have:=e b e2
    omega
  by_cases ej:j=i
  ·by_cases ek:k=i
   ·rw[ej,ek]
   ·simp only[if_pos ej,if_neg ek]at hjb hkb
    exact(fresh k hk ek hkb hjb).elim
  ·by_cases ek:k=i
   ·simp only[if_neg ej,if_pos ek]at hjb hkb
    exact(fresh j hj ej hjb hkb).elim
   ·simp only[if_neg ej,if_neg ek]at hjb hkb
    exact h3 j k b hj hk hjb hkb
 ·refine(KeepsOthers.of_grownBy hgrow fun j o ej hj=>?_).trans (KeepsOthers.setCell _ _ _)
  obtain⟨cur,hc,_⟩:=row_cells (h2 i hi) ej
  rw[hc]at hj;cases hj;rfl
 ·refine But.setCell ⟨hgrow.os.trans hB.os,hgrow.tape.trans hB.tape,hgrow.output.trans hB.output,Nat.le_trans hB.size hgrow.size,fun k hk hkG=>(hgrow.block k (Nat.lt_of_lt_of_le hk hB.size) fun e=>?_).trans (hB.block k hk hkG)⟩ _ _
  obtain⟨cur,_,hb⟩:=row_cells (h2 i hi) e.symm
  omega
end
def cfgA (C:CfgR):Array Value:=#[.int .i64 C.cl,.int .i64 C.cb,.int .i64 C.ht,.int .i64 C.ri,.int .i64 C.ru,.int .i64 C.wd,.int .i64 C.dp]
def triA (T:TriR):Array Value:=#[.int .i64 T.i,.int .i64 T.x0,.int .i64 T.y0,.int .i64 T.z0,.int .i64 T.x1,.int .i64 T.y1,.int .i64 T.z1,.int .i64 T.x2,.int .i64 T.y2,.int .i64 T.z2]
def boxA (b:Bx):Array Value:=#[.int .i64 b.x,.int .i64 b.z,.int .i64 b.w,.int .i64 b.d]
structure Three (C:CfgR) (T:TriR) (b:Bx) (Bc Bt Bb:Nat) (W:World):Prop where
 c:W.heap[Bc]? = some (.cells (cfgA C) 23 (0,0))
 t:W.heap[Bt]? = some (.cells (triA T) 64 (0,0))
 b:W.heap[Bb]? = some (.cells (boxA b) 191 (0,0))
theorem Three.new {C:CfgR} {T:TriR} {b:Bx} {Bc Bt Bb:Nat} {W W':World} (h:Three C T b Bc Bt Bb W) (n:New W W'):Three C T b Bc Bt Bb W':=⟨n.blk h.c,n.blk h.t,n.blk h.b⟩
theorem Three.same {C:CfgR} {T:TriR} {b:Bx} {Bc Bt Bb:Nat} {W W':World} (h:Three C T b Bc Bt Bb W) (n:W'.heap[Bc]? = W.heap[Bc]? ∧ W'.heap[Bt]? = W.heap[Bt]? ∧ W'.heap[Bb]? = W.heap[Bb]?):Three C T b Bc Bt Bb W':=⟨n.1.trans h.c,n.2.1.trans h.t,n.2.2.trans h.b⟩
theorem Three.cs {C:CfgR} {T:TriR} {b:Bx} {Bc Bt Bb:Nat} {W:World} (h:Three C T b Bc Bt Bb W) :
    (W.cell? ⟨Bc,0,none⟩=some (.int .i64 C.cl)∧W.cell? ⟨Bc,1,none⟩=some (.int .i64 C.cb)∧W.cell? ⟨Bc,2,none⟩=some (.int .i64 C.ht)∧W.cell? ⟨Bc,3,none⟩=some (.int .i64 C.ri)∧W.cell? ⟨Bc,4,none⟩=some (.int .i64 C.ru)∧W.cell? ⟨Bc,5,none⟩=some (.int .i64 C.wd)∧W.cell? ⟨Bc,6,none⟩=some (.int .i64 C.dp)) ∧
    (W.cell? ⟨Bt,0,none⟩=some (.int .i64 T.i)∧W.cell? ⟨Bt,1,none⟩=some (.int .i64 T.x0)∧W.cell? ⟨Bt,2,none⟩=some (.int .i64 T.y0)∧W.cell? ⟨Bt,3,none⟩=some (.int .i64 T.z0)∧W.cell? ⟨Bt,4,none⟩=some (.int .i64 T.x1)∧W.cell? ⟨Bt,5,none⟩=some (.int .i64 T.y1)∧W.cell? ⟨Bt,6,none⟩=some (.int .i64 T.z1)∧W.cell? ⟨Bt,7,none⟩=some (.int .i64 T.x2)∧W.cell? ⟨Bt,8,none⟩=some (.int .i64 T.y2)∧W.cell? ⟨Bt,9,none⟩=some (.int .i64 T.z2)) ∧
    (W.cell? ⟨Bb,0,none⟩=some (.int .i64 b.x)∧W.cell? ⟨Bb,1,none⟩=some (.int .i64 b.z)∧W.cell? ⟨Bb,2,none⟩=some (.int .i64 b.w)∧W.cell? ⟨Bb,3,none⟩=some (.int .i64 b.d)) :=
  ⟨⟨cell_of_heap h.c rfl,cell_of_heap h.c rfl,cell_of_heap h.c rfl,cell_of_heap h.c rfl,cell_of_heap h.c rfl,cell_of_heap h.c rfl,cell_of_heap h.c rfl⟩,
   ⟨cell_of_heap h.t rfl,cell_of_heap h.t rfl,cell_of_heap h.t rfl,cell_of_heap h.t rfl,cell_of_heap h.t rfl,cell_of_heap h.t rfl,cell_of_heap h.t rfl,cell_of_heap h.t rfl,cell_of_heap h.t rfl,cell_of_heap h.t rfl⟩,
   ⟨cell_of_heap h.b rfl,cell_of_heap h.b rfl,cell_of_heap h.b rfl,cell_of_heap h.b rfl⟩⟩
theorem cfg_cs {C:CfgR} {B:Nat} {W:World} (h:W.heap[B]? = some (.cells (cfgA C) 23 (0,0))) :
  W.cell? ⟨B,0,none⟩=some (.int .i64 C.cl)∧W.cell? ⟨B,1,none⟩=some (.int .i64 C.cb)∧W.cell? ⟨B,2,none⟩=some (.int .i64 C.ht)∧W.cell? ⟨B,3,none⟩=some (.int .i64 C.ri)∧W.cell? ⟨B,4,none⟩=some (.int .i64 C.ru)∧W.cell? ⟨B,5,none⟩=some (.int .i64 C.wd)∧W.cell? ⟨B,6,none⟩=some (.int .i64 C.dp) :=
 ⟨cell_of_heap h rfl,cell_of_heap h rfl,cell_of_heap h rfl,cell_of_heap h rfl,cell_of_heap h rfl,cell_of_heap h rfl,cell_of_heap h rfl⟩
theorem box_cs {b:Bx} {B:Nat} {W:World} (h:W.heap[B]? = some (.cells (boxA b) 191 (0,0))) :
  W.cell? ⟨B,0,none⟩=some (.int .i64 b.x)∧W.cell? ⟨B,1,none⟩=some (.int .i64 b.z)∧W.cell? ⟨B,2,none⟩=some (.int .i64 b.w)∧W.cell? ⟨B,3,none⟩=some (.int .i64 b.d) :=
 ⟨cell_of_heap h rfl,cell_of_heap h rfl,cell_of_heap h rfl,cell_of_heap h rfl⟩
theorem c_check_bad (C:CfgR) (v:Value) (hE:C.err≠0) (w:World) :
  Calls Tryz.prog 130 #[.agg #[.int .i64 C.cl,.int .i64 C.cb,.int .i64 C.ht,.int .i64 C.ri,.int .i64 C.ru,.int .i64 C.wd,.int .i64 C.dp],v] w fun e w'=>e=.returned (.int .i64 C.err)∧New w w':=by
 have K:=Lib.hid (fun W=>check_any C.cl C.cb C.ht C.ri C.ru C.wd C.dp W)
 have e:C.err=20:=(err_two C).resolve_left hE
 have e':checkE C.cl C.cb C.ht C.ri C.ru C.wd C.dp=20:=e
 rw[e]at hE ⊢
 rw[e']at K
 clear e e' hE
 go_enter Tryz.func130,Tryz.ntmps130
 go_wp2_with fail
 refine(K.out _).mono ?_
 rintro e w1 ⟨rfl,n1⟩
 have hn:New w w1:=New.trans (by exact nw) n1.1
 clear n1
 go_wp2_with fail
 go_ret
 exact⟨rfl,hn⟩
theorem c_check_long (C:CfgR) (hE:C.err=0) (at0:Option Addr) (n cap:Nat) (hn:200<n) (hc:n≤maxLen) (w:World) :
  Calls Tryz.prog 130 #[.agg #[.int .i64 C.cl,.int .i64 C.cb,.int .i64 C.ht,.int .i64 C.ri,.int .i64 C.ru,.int .i64 C.wd,.int .i64 C.dp],.slice at0 n cap] w fun e w'=>e=.returned (.int .i64 2)∧New w w':=by
 have K:=Lib.hid (fun W=>check_any C.cl C.cb C.ht C.ri C.ru C.wd C.dp W)
 have e':checkE C.cl C.cb C.ht C.ri C.ru C.wd C.dp=0:=hE
 rw[e']at K
 clear e' hE
 go_enter Tryz.func130,Tryz.ntmps130
 go_wp2_with fail
 refine(K.out _).mono ?_
 rintro e w1 ⟨rfl,n1⟩
 have hn:New w w1:=New.trans (by exact nw) n1.1
 clear n1
 have hd:((n:Int) > 200):=by omega
 go_wp2_with fail
 go_ret
 exact⟨rfl,hn⟩
theorem c_check_fine (C:CfgR) (hC:C.fine) (at0:Option Addr) (l:List TriR) (cap:Nat) (hl:l.length≤200) (w:World) (H:RowIn TriR.enc 10 w at0 l) :
  Calls Tryz.prog 130 #[.agg #[.int .i64 C.cl,.int .i64 C.cb,.int .i64 C.ht,.int .i64 C.ri,.int .i64 C.ru,.int .i64 C.wd,.int .i64 C.dp],.slice at0 l.length cap] w fun e w'=>e=.returned (.int .i64 (if l.all (mayTB C.wd C.dp)then 0 else 2))∧New w w':=by
 have K:=Lib.hid (fun W=>check_any C.cl C.cb C.ht C.ri C.ru C.wd C.dp W)
 have e':checkE C.cl C.cb C.ht C.ri C.ru C.wd C.dp=0:=hC.err
 rw[e']at K
 have KT:=Lib.hid (fun(T:TriR) W=>t_check C.cl C.cb C.ht C.ri C.ru C.wd C.dp 1 T.x0 T.y0 T.z0 T.x1 T.y1 T.z1 T.x2 T.y2 T.z2 W)
 have MC:=Lib.hid (fun T=>mayT_check hC T)
 clear e'
 obtain⟨v,hv⟩:∃ v:Int,v=if l.all (mayTB C.wd C.dp)then 0 else 2:=⟨_,rfl⟩
 rw[←hv]
 have HV:=Lib.hid hv
 have HH:=Lib.hid H
 clear hv H
 go_enter Tryz.func130,Tryz.ntmps130
 go_wp2_with fail
 generalize hW:World.alloc _ _=W
 have hn:New w W:=by subst hW;exact nw
 have hB:W.heap[w.heap.size]? = some (.cells (cfgA C) 23 (0,0)):=by subst hW;exact World.alloc_heap_new w _
 clear hW
 refine(K.out _).mono ?_
 rintro e w1 ⟨rfl,n1⟩
 replace hn:New w w1:=New.trans hn n1.1
 replace hB:=New.blk n1.1 hB
 clear n1
 have hd:¬ ((l.length:Int) > 200):=by omega
 go_wp2_with fail
 clear hd
 have HN:=Lib.hid (And.intro hn hB)
 clear hn hB
 go_loopg [18] l.length (fun k s wr=>∃ i:Nat,s=.int .i64 i∧i+k=l.length∧Hid (∀ j (hj:j<l.length),j<i→mayTB C.wd C.dp l[j]=true)∧Hid (New w wr∧wr.heap[w.heap.size]? = some (.cells (cfgA C) 23 (0,0))))
 case atStart=>exact⟨0,by simp,by omega,Lib.hid (fun _ _ h=>absurd h (by omega)),HN⟩
 case round =>
  obtain⟨i,rfl,hik,HNO,HN⟩:=hrel
  by_cases hlt:i<l.length
  ·obtain⟨b0,off,rfl,hA⟩:=HH.out (by omega)
   have hA':=hA.keep HN.out.1
   obtain⟨d0,d1,d2,d3,d4,d5,d6,d7,d8,d9⟩:=TriR.cells hA' i hlt
   obtain⟨c0,c1,c2,c3,c4,c5,c6⟩:=cfg_cs HN.out.2
   have hz0:w.heap.size<wr.heap.size:=World.block_lt_of_cell? _ _ c0
   have KC:=fun W=>KT.out l[i] W
   rw[MC.out l[i]]at KC
   clear hA hA'
   cases he:mayTB C.wd C.dp l[i]
   ·rw[he]at KC
    simp only[Bool.false_eq_true,if_false]at KC
    replace KC:=Lib.hid KC
    have HE:Hid (v=2):=Lib.hid (by
     rw[HV.out,if_neg]
     rw[List.all_eq_true]
     intro h
     have:=h _ (List.getElem_mem hlt)
     rw[he]at this
     cases this)
    clear he
    go_wp2_with fail
    generalize hW:World.alloc _ _=W2
    have n2:New wr W2:=by subst hW;exact nw
    clear hW
    refine(KC.out _).mono ?_
    rintro e w3 ⟨rfl,n3⟩
    have n4:=(HN.out.1.trans n2).trans n3
    clear n2 n3
    go_wp2_with fail
    go_ret
    rw[HE.out]
    exact⟨rfl,n4⟩
   ·rw[he]at KC
    simp only[if_true]at KC
    replace KC:=Lib.hid KC
    have HE:=Lib.hid he
    clear he
    go_wp2_with fail
    generalize hW:World.alloc _ _=W2
    have n2:New wr W2:=by subst hW;exact nw
    clear hW
    refine(KC.out _).mono ?_
    rintro e w3 ⟨rfl,n3⟩
    have n4:=n2.trans n3
    clear n2 n3
    go_wp2_with fail
    go_roundg (gk - 1)
    case measure=>omega
    case rel =>
     refine⟨i+1,by go_num,by omega,Lib.hid (fun j hj hji=>?_),Lib.hid ⟨HN.out.1.trans n4,n4.blk HN.out.2⟩⟩
     by_cases h:j<i
     ·exact HNO.out j hj h
     ·obtain rfl:j=i:=by omega
      exact HE.out
  ·have HE:Hid (v=0):=Lib.hid (by
    rw[HV.out,if_pos]
    rw[List.all_eq_true]
    intro x hx
    obtain⟨j,hj,rfl⟩:=List.getElem_of_mem hx
    exact HNO.out j hj (by omega))
   go_wp2_with fail
   go_ret
   rw[HE.out]
   exact⟨rfl,HN.out.1⟩
theorem c_check (C:CfgR) (at0:Option Addr) (l:List TriR) (cap:Nat) (hl:l.length≤maxLen) (w:World) (H:RowIn TriR.enc 10 w at0 l) :
  Calls Tryz.prog 130 #[.agg #[.int .i64 C.cl,.int .i64 C.cb,.int .i64 C.ht,.int .i64 C.ri,.int .i64 C.ru,.int .i64 C.wd,.int .i64 C.dp],.slice at0 l.length cap] w fun e w'=>e=.returned (.int .i64 (rchk C l))∧New w w':=by
 by_cases hE:C.err=0
 ·by_cases hn:200<l.length
  ·have e:rchk C l=2:=by
    unfold rchk mayL
    rw[if_neg (by simpa using hE),decide_eq_false (by omega)];rfl
   rw[e]
   exact c_check_long C hE at0 l.length cap hn hl w
  ·have e:rchk C l=if l.all (mayTB C.wd C.dp)then 0 else 2:=by
    unfold rchk mayL
    rw[if_neg (by simpa using hE),decide_eq_true (by omega:l.length≤200),Bool.true_and]
   rw[e]
   exact c_check_fine C (CfgR.fine_of hE) at0 l cap (by omega) w H
 ·have e:rchk C l=C.err:=by unfold rchk;rw[if_pos hE]
  rw[e]
  exact c_check_bad C _ hE w
end Go.Proofs.YtmhghnbgllaihaaGreatDoor
