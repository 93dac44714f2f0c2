import Derived.Test.YtmhghnbgllaihaaGreatDoorOgIP1Z1
import Derived.Test.YtmhghnbgllaihaaGreatDoorWholeMP1Z1
import Derived.Test.YtmhghnbgllaihaaGreatDoorSoLSP1Z1
import Derived.RangeFuncNested
import Derived.RangeFuncWrites
import Derived.RangeFuncBound
import Derived.RangeFuncCalls
import Derived.RangeFuncLeaves
import Derived.RangeFuncBox
import Derived.Maps.OwnIn
import Derived.Deep.OwnRows
import Derived.Test.YtmhghnbgllaihaaGreatDoorRaAP1Z1
import Derived.Test.YtmhghnbgllaihaaGreatDoorRaCP1Z1
import Derived.Shelf.Abstract
import Derived.Shelf.RegionOpen
import Derived.WalkKit
import Derived.OwnWalkIn
import Derived.TacticsInMore
import Derived.LoopNIn
import Derived.LoopIn
import Derived.Sort.WalkA
import Derived.Deep.Quiet
import Derived.BigQuiet
import Derived.OwnWalk

namespace Go.Proofs.YtmhghnbgllaihaaGreatDoor
open Go.RowKit
set_option linter.unusedVariables false
def Bar (b0 P:Nat) (W U:World):Prop:=b0≤U.heap.size∧∀ b,b<b0→b≠P→U.heap[b]? = W.heap[b]?
theorem Bar.refl {b0 P:Nat} {W:World} (h:b0≤W.heap.size):Bar b0 P W W:=⟨h,fun _ _ _=>rfl⟩
theorem Bar.new {b0 P:Nat} {W U V:World} (h:Bar b0 P W U) (n:New U V):Bar b0 P W V:=⟨Nat.le_trans h.1 n.size,fun b hb hp=>(n.block b (Nat.lt_of_lt_of_le hb h.1)).trans (h.2 b hb hp)⟩
theorem Bar.grown {b0 P:Nat} {W U V:World} {row:Option Nat} (h:Bar b0 P W U) (hg:U.grownBy V row) (hr:∀ r,row=some r→b0≤r):Bar b0 P W V:=⟨Nat.le_trans h.1 hg.size,fun b hb hp=>(hg.block b (Nat.lt_of_lt_of_le hb h.1) (fun e=>by have:=hr b e.symm;omega)).trans (h.2 b hb hp)⟩
theorem Bar.set {b0 P:Nat} {W U:World} (h:Bar b0 P W U) (o:Nat) (v:Value):Bar b0 P W (U.setCell ⟨P,o,none⟩ v):=⟨by have:=h.1;simpa using this,fun b hb hp=>(Below.heap_setCell _ _ _ _ (by exact hp)).trans (h.2 b hb hp)⟩
theorem Bar.above {b0 P Q:Nat} {W U:World} (h:Bar b0 P W U) (hQ:b0≤Q) (o:Nat) (v:Value):Bar b0 P W (U.setCell ⟨Q,o,none⟩ v):=⟨by have:=h.1;simpa using this,fun b hb hp=>(Below.heap_setCell _ _ _ _ (show b≠Q by omega)).trans (h.2 b hb hp)⟩
theorem Bar.own {β:Type} {b0 P D:Nat} {W:World} (hD:b0≤D):OwnFrom D (fun(_:β) U=>Bar b0 P W U):=fun _ X Y row h hg hr=>h.grown hg (fun r e=>Nat.le_trans hD (hr r e).1)
theorem Bar.blk {b0 P b:Nat} {W U:World} {o:Obj} (h:Bar b0 P W U) (hb:b<b0) (hp:b≠P) (hW:W.heap[b]? = some o):U.heap[b]? = some o:=(h.2 b hb hp).trans hW
section
variable {α:Type} {enc:α→List Value} {k:Nat}
structure GrV (enc:α→List Value) (k:Nat) (tG tS:TypeId) (W:World) (n0 G N:Nat) (L:Nat→List α) (vs:Nat→Value):Prop where
  arr:∃ cs:Array Value,W.heap[G]? = some (.cells cs tG (0,0))∧N≤cs.size∧∀ j,j<N→cs[j]? = some (vs j)
  rows:∀ j,j<N→W.ownsRow n0 tS k (vs j) (L j).length ((L j).flatMap enc)
  apart:∀ i j b,i<N→j<N→(vs i).ownBlock=some b→(vs j).ownBlock=some b→i=j
def Gr (enc:α→List Value) (k:Nat) (tG tS:TypeId) (W:World) (n0 G N:Nat) (L:Nat→List α):Prop:=0<N→∃ vs,GrV enc k tG tS W n0 G N L vs
variable {tG tS:TypeId} {W w1:World} {n0 G N:Nat} {L:Nat→List α} {vs:Nat→Value}
theorem gr_cells {base size m:Nat} {v:Value} {xs:List Value} (h:W.ownsRow base tS size v m xs) {g:Nat} (hg:v.ownBlock=some g):∃ cur,W.heap[g]? = some (.cells cur tS (0,0))∧base≤g:=by
  rcases h.2 with ⟨rfl,_⟩|⟨g',cap,cur,rfl,hb,hgb,_⟩
  · simp[Value.ownBlock]at hg
  · obtain rfl:g'=g:=by simpa [Value.ownBlock]using hg
    exact⟨cur,hgb,hb⟩
theorem gr_nil {base n0:Nat} {v:Value} (h:W.ownsRow base tG 1 v N (List.replicate N (.slice none 0 0))) (h0:0<N):∃ G cap,v=.slice (some ⟨G,0,none⟩) N cap∧base≤G∧G<W.heap.size∧N≤cap∧cap≤maxLen∧Gr enc k tG tS W n0 G N (fun _=>[]):=by
  rcases h.2 with ⟨rfl,hn⟩|⟨g,cap,cur,rfl,hb,hg,h1,h2,h3,h4⟩
  · omega
  · refine⟨g,cap,rfl,hb,(Array.getElem?_eq_some_iff.1 hg).1,h1,h2,fun _=>⟨fun _=>.slice none 0 0,⟨cur,hg,by omega,fun j hj=>?_⟩,fun j hj=>World.ownsRow_nil _ _ _ _,fun i j b _ _ e _=>by simp[Value.ownBlock]at e⟩⟩
    have h5:(cur.toList.take (N*1))[j]? = some (.slice none 0 0):=by
      rw[h4,List.getElem?_replicate,if_pos hj]
    rw[List.getElem?_take,if_pos (by omega),Array.getElem?_toList]at h5
    exact h5
theorem GrV.grown {row:Option Nat} (h:GrV enc k tG tS W n0 G N L vs) (hg:W.grownBy w1 row) (hr:∀ r,row=some r→∃ o:Obj,W.heap[r]? = some o∧o.isCells=false):GrV enc k tG tS w1 n0 G N L vs:=by
  obtain⟨⟨cs,a1,a2,a3⟩,h2,h3⟩:=h
  refine⟨⟨cs,(hg.block G (Array.getElem?_eq_some_iff.1 a1).1 fun e=>?_).trans a1,a2,a3⟩,fun j hj=>(h2 j hj).kept hg ?_,h3⟩
  · obtain⟨o,ho,hc⟩:=hr G e.symm
    rw[a1]at ho;cases ho;cases hc
  · cases hv:(vs j).ownBlock with
    | none=>exact .inl rfl
    | some g =>
      refine .inr fun e=>?_
      obtain⟨cur,hc,_⟩:=gr_cells (h2 j hj) hv
      obtain⟨o,ho,hc'⟩:=hr g e.symm
      rw[hc]at ho;cases ho;cases hc'
theorem gr_gro {w w':World} (h:New w w'):w.grownBy w' none:=⟨h.os,h.tape,h.output,h.size,fun k hk _=>h.block k hk⟩
theorem GrV.new (h:GrV enc k tG tS W n0 G N L vs) (n:New W w1):GrV enc k tG tS w1 n0 G N L vs:=h.grown (gr_gro n) (fun r e=>by cases e)
theorem Gr.new (h:Gr enc k tG tS W n0 G N L) (n:New W w1):Gr enc k tG tS w1 n0 G N L:=fun h0=>by obtain⟨vs,h⟩:=h h0;exact⟨vs,h.new n⟩
theorem gr_own {β:Type} (enc:α→List Value) (k:Nat) (tG tS:TypeId) (n0 G N D:Nat) (f:β→Nat→List α):OwnFrom D (fun(s:β) W=>Gr enc k tG tS W n0 G N (f s)):=fun s X Y row h hg hr h0=>by obtain⟨vs,h⟩:=h h0;exact⟨vs,h.grown hg fun r e=>(hr r e).2⟩
theorem Gr.congr {L':Nat→List α} (h:Gr enc k tG tS W n0 G N L) (e:∀ j,j<N→L' j=L j):Gr enc k tG tS W n0 G N L':=fun h0=>by
  obtain⟨vs,h1,h2,h3⟩:=h h0
  exact⟨vs,h1,fun j hj=>by rw[e j hj];exact h2 j hj,h3⟩
theorem GrV.cell (h:GrV enc k tG tS W n0 G N L vs) {i:Nat} (hi:i<N):W.cell? ⟨G,i,none⟩=some (vs i)∧W.frozen? ⟨G,i,none⟩=false:=by
  obtain⟨cs,a1,a2,a3⟩:=h.arr
  exact⟨cell_of_heap a1 (a3 i hi),by simp[World.frozen?,a1]⟩
theorem GrV.put (h:GrV enc k tG tS W n0 G N L vs) (ht:tG≠tS) {i:Nat} (hi:i<N) {v':Value} {s:α} (hown:w1.ownsRow n0 tS k v' ((L i).length+1) ((L i).flatMap enc++enc s)) (hgrow:W.grownBy w1 (vs i).ownBlock)
    (hat:v'.ownBlock=(vs i).ownBlock∨∀ b,v'.ownBlock=some b→W.heap.size≤b) :
    w1.cell? ⟨G,i,none⟩=some (vs i)∧w1.frozen? ⟨G,i,none⟩=false∧Gr enc k tG tS (w1.setCell ⟨G,i,none⟩ v') n0 G N (fun j=>if j=i then L i++[s]else L j)∧KeepsOthers W (w1.setCell ⟨G,i,none⟩ v') ∧
      (∀ (b:Nat) (cs:Array Value) (t:TypeId) (fr:Nat×Nat),W.heap[b]? = some (Obj.cells cs t fr)→t≠tS→b≠G→(w1.setCell ⟨G,i,none⟩ v').heap[b]? = some (Obj.cells cs t fr))∧(∀ w0,New w0 W→w0.heap.size≤n0→w0.heap.size≤G→New w0 (w1.setCell ⟨G,i,none⟩ v')) ∧
      (∀ b,b<n0→b<W.heap.size→b≠G→(w1.setCell ⟨G,i,none⟩ v').heap[b]? = W.heap[b]?):=by
  obtain⟨⟨cs,a1,a2,a3⟩,h2,h3⟩:=h
  have off:∀ (b:Nat) (cs:Array Value) (t:TypeId) (fr:Nat×Nat),W.heap[b]? = some (Obj.cells cs t fr)→t≠tS→w1.heap[b]? = some (Obj.cells cs t fr):=fun b cs t fr hb hts=>by
    refine(hgrow.block b (Array.getElem?_eq_some_iff.1 hb).1 fun e=>?_).trans hb
    obtain⟨cur,hc,_⟩:=gr_cells (h2 i hi) e.symm
    rw[hb]at hc
    injection hc with hc
    injection hc with _ hc
    exact hts hc
  have hG:=off G cs tG (0,0) a1 ht
  have hGs:=heap_setCell_same w1 G i cs tG v' hG
  have oth:∀ b,b≠G→(w1.setCell ⟨G,i,none⟩ v').heap[b]? = w1.heap[b]? := fun b hb=>Below.heap_setCell _ _ _ _ hb
  have gs:w1.grownBy (w1.setCell ⟨G,i,none⟩ v') (some G):=⟨rfl,rfl,rfl,by simp[World.setCell],fun k _ hk=>oth k (fun e=>hk (by rw[e]))⟩
  have hne:v'.ownBlock≠some G:=fun e=>by
    obtain⟨cur,hc,_⟩:=gr_cells hown e
    rw[hG]at hc
    injection hc with hc
    injection hc with _ hc
    exact ht hc
  refine⟨cell_of_heap hG (a3 i hi),by simp[World.frozen?,hG],fun _=>⟨fun k=>if k=i then v' else vs k,⟨_,hGs,by simpa using a2,fun k hk=>?_⟩,fun k hk=>?_,fun j k b hj hk hjb hkb=>?_⟩,?_,fun b cs t fr hb hts hbG=>(oth b hbG).trans (off b cs t fr hb hts),fun w0 hB hn hG0=>?_,fun b hb hbW hbG=>(oth b hbG).trans (hgrow.block b hbW fun e=>?_)⟩
  · by_cases e:k=i
    · subst e
      rw[if_pos rfl,Array.getElem?_setIfInBounds_self_of_lt (by omega)]
    · rw[if_neg e,Array.getElem?_setIfInBounds_ne (fun h=>e h.symm),a3 k hk]
  · by_cases e:k=i
    · subst e
      rw[if_pos rfl,if_pos rfl]
      rw[List.length_append,List.flatMap_append]
      simpa using hown.kept gs (.inr hne)
    · rw[if_neg e,if_neg e]
      refine((h2 k hk).kept hgrow ?_).kept gs ?_
      · cases hv:(vs k).ownBlock with
        | none=>exact .inl rfl
        | some g=>exact .inr fun e'=>e (h3 k i g hk hi hv e'.symm)
      · refine .inr fun e'=>?_
        obtain⟨cur,hc,_⟩:=gr_cells (h2 k hk) e'
        rw[a1]at hc
        injection hc with hc
        injection hc with _ hc
        exact ht hc
  · have fresh:∀ j,j<N→j≠i→(vs j).ownBlock=some b→v'.ownBlock=some b→False:=fun j hj hji e1 e2=>by
      rcases hat with e|e
      · exact hji (h3 j i b hj hi e1 (e▸e2))
      · have:=((h2 j hj).lt b e1).2
        have:=e b e2
        omega
    by_cases ej:j=i
    · by_cases ek:k=i
      · rw[ej,ek]
      · rw[if_pos ej]at hjb
        rw[if_neg ek]at hkb
        exact(fresh k hk ek hkb hjb).elim
    · by_cases ek:k=i
      · rw[if_neg ej]at hjb
        rw[if_pos ek]at hkb
        exact(fresh j hj ej hjb hkb).elim
      · rw[if_neg ej]at hjb
        rw[if_neg ek]at hkb
        exact h3 j k b hj hk hjb hkb
  · refine(KeepsOthers.of_grownBy hgrow fun j o ej hj=>?_).trans (KeepsOthers.setCell _ _ _)
    obtain⟨cur,hc,_⟩:=gr_cells (h2 i hi) ej
    rw[hc]at hj;cases hj;rfl
  · refine New.setCell (p:=⟨G,i,none⟩) ⟨hgrow.os.trans hB.os,hgrow.tape.trans hB.tape,hgrow.output.trans hB.output,Nat.le_trans hB.size hgrow.size,fun k hk=>(hgrow.block k (Nat.lt_of_lt_of_le hk hB.size) fun e=>?_).trans (hB.block k hk)⟩ hG0 _
    obtain⟨cur,_,hb⟩:=gr_cells (h2 i hi) e.symm
    omega
  · obtain⟨cur,_,hb2⟩:=gr_cells (h2 i hi) e.symm
    omega
def RowsN (enc:α→List Value) (k:Nat) (tG tS:TypeId) (base:Nat) (w:World) (v:Value) (L:List (List α)):Prop :=
  ∃ us:List Value,us.length=L.length∧(Sl oneV 1 w v us∧∀ b,v.ownBlock=some b→base≤b∧∃ cs,w.heap[b]? = some (.cells cs tG (0,0)))∧∀ j (h:j<L.length),∃ u,us[j]? = some u∧Sl enc k w u L[j]∧∀ b,u.ownBlock=some b→base≤b∧∃ cs,w.heap[b]? = some (.cells cs tS (0,0))
theorem RowsN.rows {base:Nat} {w:World} {v:Value} {L:List (List α)} (h:RowsN enc k tG tS base w v L):RowsK enc k w v L:=by
  obtain⟨us,h1,h2,h3⟩:=h
  exact⟨us,h1,h2.1,fun j hj=>by obtain⟨u,e,hs,_⟩:=h3 j hj;exact⟨u,e,hs⟩⟩
theorem RowsN.mono {base b0:Nat} {w:World} {v:Value} {L:List (List α)} (h:RowsN enc k tG tS base w v L) (hb:b0≤base):RowsN enc k tG tS b0 w v L:=by
  obtain⟨us,h1,h2,h3⟩:=h
  exact⟨us,h1,⟨h2.1,fun b e=>⟨Nat.le_trans hb (h2.2 b e).1,(h2.2 b e).2⟩⟩,fun j hj=>by obtain⟨u,e,hs,hu⟩:=h3 j hj;exact⟨u,e,hs,fun b e=>⟨Nat.le_trans hb (hu b e).1,(hu b e).2⟩⟩⟩
theorem sl_kept {β:Type} {en:β→List Value} {m base:Nat} {w W:World} {u:Value} {l:List β} {t:TypeId} (h:Sl en m w u l) (hb:∀ b,u.ownBlock=some b→base≤b∧∃ cs,w.heap[b]? = some (.cells cs t (0,0))) (hk:∀ b cs,base≤b→w.heap[b]? = some (.cells cs t (0,0))→W.heap[b]? = w.heap[b]?) :
    Sl en m W u l∧∀ b,u.ownBlock=some b→base≤b∧∃ cs,W.heap[b]? = some (.cells cs t (0,0)):=by
  obtain⟨a,c,rfl,h1,h2,h3,h4⟩:=h
  refine⟨⟨a,c,rfl,h1,h2,h3,fun h0=>?_⟩,fun b e=>?_⟩
  · obtain⟨B,off,rfl,hA⟩:=h4 h0
    obtain⟨q1,cs,q2⟩:=hb B rfl
    exact⟨B,off,rfl,fun j hj i hi=>(World.cell?_of_block (a:=⟨B,off+j*m+i,none⟩) (hk B cs q1 q2)).trans (hA j hj i hi)⟩
  · obtain⟨q1,cs,q2⟩:=hb b e
    exact⟨q1,cs,(hk b cs q1 q2).trans q2⟩
theorem RowsN.kept {base:Nat} {w W:World} {v:Value} {L:List (List α)} (h:RowsN enc k tG tS base w v L) (hk:∀ b cs t,base≤b→(t=tG∨t=tS)→w.heap[b]? = some (.cells cs t (0,0))→W.heap[b]? = w.heap[b]?):RowsN enc k tG tS base W v L:=by
  obtain⟨us,h1,h2,h3⟩:=h
  exact⟨us,h1,sl_kept h2.1 h2.2 (fun b cs hb hc=>hk b cs _ hb (.inl rfl) hc),fun j hj=>by obtain⟨u,e,hs,hu⟩:=h3 j hj;exact⟨u,e,sl_kept hs hu (fun b cs hb hc=>hk b cs _ hb (.inr rfl) hc)⟩⟩
theorem RowsN.new {base:Nat} {w W:World} {v:Value} {L:List (List α)} (h:RowsN enc k tG tS base w v L) (n:New w W):RowsN enc k tG tS base W v L:=h.kept fun b cs t _ _ hc=>n.block b (Array.getElem?_eq_some_iff.1 hc).1
theorem Gr.rowsK (henc:∀ a,(enc a).length=k) {cap base:Nat} {v:Value} (h:Gr enc k tG tS W n0 G N L) (h0:0<N) (hv:v=.slice (some ⟨G,0,none⟩) N cap∧N≤cap∧cap≤maxLen) (hb1:base≤G) (hb2:base≤n0):RowsN enc k tG tS base W v ((List.range N).map L):=by
  obtain⟨vs,⟨cs,a1,a2,a3⟩,h2,h3⟩:=h h0
  obtain⟨rfl,hc,hm⟩:=hv
  refine⟨(List.range N).map vs,by simp,⟨⟨some ⟨G,0,none⟩,cap,by simp,by simpa using hc,hm,fun e=>(by cases e),fun _=>⟨G,0,rfl,fun j hj i hi=>?_⟩⟩,fun b hb=>?_⟩,fun j hj=>?_⟩
  · have hi0:i=0:=by simp[oneV]at hi;exact hi
    subst hi0
    have hj':j<N:=by simpa using hj
    have:W.cell? ⟨G,j,none⟩=some (vs j):=cell_of_heap a1 (a3 j hj')
    simpa [oneV]using this
  · obtain rfl:G=b:=by simpa [Value.ownBlock]using hb
    exact⟨hb1,cs,a1⟩
  · have hj':j<N:=by simpa using hj
    refine⟨vs j,by simp[hj'],?_,fun b hb=>?_⟩
    · simp only[List.getElem_map,List.getElem_range]
      exact own_sl henc (h2 j hj')
    · obtain⟨cur,hc2,hb3⟩:=gr_cells (h2 j hj') hb
      exact⟨Nat.le_trans hb2 hb3,cur,hc2⟩
theorem GrV.other (h:GrV enc k tG tS W n0 G N L vs) {Q:Nat} (hg:W.grownBy w1 (some Q)) (hG:Q≠G) (hv:∀ j,j<N→(vs j).ownBlock≠some Q):GrV enc k tG tS w1 n0 G N L vs:=by
  obtain⟨⟨cs,a1,a2,a3⟩,h2,h3⟩:=h
  exact⟨⟨cs,(hg.block G (Array.getElem?_eq_some_iff.1 a1).1 (fun e=>hG (by injection e with e;exact e.symm))).trans a1,a2,a3⟩,fun j hj=>(h2 j hj).kept hg (.inr (fun e=>hv j hj e)),h3⟩
end
end Go.Proofs.YtmhghnbgllaihaaGreatDoor

namespace Go.Proofs.YtmhghnbgllaihaaGreatDoor
open Go.RowKit Go.Shelf Go.Sort
set_option linter.unusedVariables false
attribute [local go_sem] Oper.semAt_some
theorem mx3 (a b:Int):(if (if a<b then b else a)<0 then 0 else if a<b then b else a)=max (max a b) 0:=by
  by_cases h:a<b <;> simp only[h,if_true,if_false] <;> split <;> omega
theorem mn3 (a b c:Int):(if c<(if b<a then b else a)then c else if b<a then b else a)=min (min a b) c:=by
  by_cases h:b<a <;> simp only[h,if_true,if_false] <;> split <;> omega
theorem el_in {C:CfgR} {T:TriR} {b:Bx} {i j:Nat} (hi:i<gkx C T b) (hj:j<gkz C T b) (h:elL C T b (gx0 T b+i) (gz0 T b+j)≠[]):elAll C T b≠[]:=by
  obtain⟨e,he⟩:=List.exists_mem_of_ne_nil _ h
  intro h0
  have:e∈elAll C T b:=by
    unfold elAll elGrid elRow
    rw[List.mem_flatMap]
    refine⟨j,List.mem_range.2 hj,?_⟩
    rw[List.mem_flatMap]
    exact⟨i,List.mem_range.2 hi,he⟩
  rw[h0]at this
  cases this
set_option maxHeartbeats 4000000 in
set_option maxRecDepth 100000 in
theorem p_each (C:CfgR) (T:TriR) (b:Bx) (hC:C.fine) (hT:okT T=true) (hb:b.ok) (n l Bc Bt Bb:Nat) (hn:1≤n) (J Jx:List (El b.n)→World→Prop)
    (hY:∀ (pre:List (El b.n)) (e:El b.n) W,J pre W→pre.length<1024→YieldAt Fence.wide (n - 1) Tryz.prog l #[.int .i64 e.1.1,.agg #[.int .i64 e.1.2.lo,.int .i64 e.1.2.hi,.bool e.1.2.wk]] W fun x W' =>
      (x=.returned (.bool true)∧J (pre++[e]) W'∧(W'.heap[Bc]? = W.heap[Bc]? ∧ W'.heap[Bt]? = W.heap[Bt]? ∧ W'.heap[Bb]? = W.heap[Bb]?))∨(x=.returned (.bool false)∧Jx (pre++[e]) W'))
    (W:World) (hJ:∀ pre W1 W2,J pre W1→New W1 W2→J pre W2) (H:Three C T b Bc Bt Bb W) (h0:J [] W) :
    CallsIn Fence.wide n Tryz.prog 192 #[.func (.yield l) #[] #[],.pointer (some ⟨Bc,0,none⟩),.pointer (some ⟨Bt,0,none⟩),.pointer (some ⟨Bb,0,none⟩)] W fun e W'=>(∃ v,e=.returned v) ∧
      ((∃ ys,ys=elAll C T b∧J ys W')∨(∃ pre:List (El b.n),elAll C T b≠[]∧Jx pre W')):=by
  have h0':Hid (J [] W):=h0
  have HJ:=Lib.hid hJ
  have HY:=Lib.hid hY
  clear h0 hJ hY
  have kw:=fun W=>t_walk C.cl C.cb C.ht C.ri C.ru C.wd C.dp T.i T.x0 T.y0 T.z0 T.x1 T.y1 T.z1 T.x2 T.y2 T.z2 W
  have kc:=fun W=>k_columns T W
  have kl:=fun W=>a_last b hb W
  have egx0:max (max (minI T.x0 T.x1 T.x2 - 1) b.x) 0=gx0 T b:=rfl
  have egz0:max (max (minI T.z0 T.z1 T.z2 - 1) b.z) 0=gz0 T b:=rfl
  have egx1:min (min (maxI T.x0 T.x1 T.x2) (b.x+(b.w - 1))) (C.wd - 1)=gx1 C T b:=rfl
  have egz1:min (min (maxI T.z0 T.z1 T.z2) (b.z+(b.d - 1))) (C.dp - 1)=gz1 C T b:=rfl
  have cw1:=hC.w1
  have cw2:=hC.w2
  have cd1:=hC.d1
  have cd2:=hC.d2
  rw[hT]at kc
  simp only[if_true]at kc
  generalize walkE C.cl C.cb C.ht C.ri C.ru C.wd C.dp T.x0 T.y0 T.z0 T.x1 T.y1 T.z1 T.x2 T.y2 T.z2=we at *
  have ewk:walkB C.cl C.cb C.ht C.ri C.ru C.wd C.dp T.x0 T.y0 T.z0 T.x1 T.y1 T.z1 T.x2 T.y2 T.z2=walkT C T:=rfl
  rw[ewk]at kw
  refine callsIn_of_wp Tryz.func192 rfl trivial ?_ rfl
  simp only[Tryz.ntmps192,List.size_toArray,List.length_cons,List.length_nil,Nat.reduceAdd,Nat.reduceSub,Array.replicate_succ,Array.replicate_zero,List.push_toArray,List.append_toArray,List.nil_append,List.cons_append]
  refine wpIn_wide.2 ?_
  obtain⟨⟨c0,c1,c2,c3,c4,c5,c6⟩,⟨t0,t1,t2,t3,t4,t5,t6,t7,t8,t9⟩,b0,b1,b2,b3⟩:=H.cs
  go_wp2_with fail
  refine(kw _).mono ?_
  rintro e w1 ⟨rfl,n1⟩
  replace h0':Hid (J [] w1):=HJ.out _ _ _ h0'.out n1
  replace H:=H.new n1
  clear c0 c1 c2 c3 c4 c5 c6 t0 t1 t2 t3 t4 t5 t6 t7 t8 t9 b0 b1 b2 b3 kw n1
  obtain⟨⟨c0,c1,c2,c3,c4,c5,c6⟩,⟨t0,t1,t2,t3,t4,t5,t6,t7,t8,t9⟩,b0,b1,b2,b3⟩:=H.cs
  go_wp2_with fail
  refine(kc _).mono ?_
  rintro e w2 ⟨rfl,n1⟩
  replace h0':Hid (J [] w2):=HJ.out _ _ _ h0'.out n1
  replace H:=H.new n1
  clear c0 c1 c2 c3 c4 c5 c6 t0 t1 t2 t3 t4 t5 t6 t7 t8 t9 b0 b1 b2 b3 kc n1
  obtain⟨⟨c0,c1,c2,c3,c4,c5,c6⟩,⟨t0,t1,t2,t3,t4,t5,t6,t7,t8,t9⟩,b0,b1,b2,b3⟩:=H.cs
  go_wp2_with fail
  refine(kl _).mono ?_
  rintro e w3 ⟨rfl,n1⟩
  replace h0':Hid (J [] w3):=HJ.out _ _ _ h0'.out n1
  replace H:=H.new n1
  clear c0 c1 c2 c3 c4 c5 c6 t0 t1 t2 t3 t4 t5 t6 t7 t8 t9 b0 b1 b2 b3 kl n1
  obtain⟨⟨c0,c1,c2,c3,c4,c5,c6⟩,⟨t0,t1,t2,t3,t4,t5,t6,t7,t8,t9⟩,b0,b1,b2,b3⟩:=H.cs
  go_wp2_with fail
  go_quiet (fail)
  simp only[mx3]
  rw[egx0,egz0]
  go_wp2_with fail
  go_quiet (fail)
  simp only[mn3]
  rw[egx1,egz1]
  generalize hW:World.drewN (World.drewN _ _) _=w4
  have n4:New w3 w4:=by subst hW;exact nw
  clear hW
  replace h0':Hid (J [] w4):=HJ.out _ _ _ h0'.out n4
  replace H:=H.new n4
  clear c0 c1 c2 c3 c4 c5 c6 t0 t1 t2 t3 t4 t5 t6 t7 t8 t9 b0 b1 b2 b3 n4 egx0 egx1 egz0 egz1
  go_wp2_with fail
  refine(wpIn_wide (n:=n)).1 ?_
  gi_loopw [14] (fun vz wr=>∃ j:Nat,vz=.int .i64 (gz0 T b+j)∧j≤gkz C T b∧Hid (J (elGrid C T b (gx0 T b) (gz0 T b) (gkx C T b) j) wr)∧Three C T b Bc Bt Bb wr)
    (fun vz _=>(gz1 C T b+1 - intOf vz).toNat)
  case atStart=>exact⟨0,by simp,Nat.zero_le _,h0',H⟩
  case round =>
    clear h0' H
    obtain⟨j,rfl,hj,hJ1,H⟩:=hrel
    by_cases hjz:j<gkz C T b
    · have hle:gz0 T b+(j:Int)≤gz1 C T b:=by unfold gkz at hjz;omega
      have hz31:gz0 T b+(j:Int)≤31:=by unfold gz1 at hle;omega
      have hz00:0≤gz0 T b:=by unfold gz0;omega
      gi_wp2_with fail
      gi_loopw [15] (fun vx wr2=>∃ i:Nat,vx=.int .i64 (gx0 T b+i)∧i≤gkx C T b∧Hid (J (elGrid C T b (gx0 T b) (gz0 T b) (gkx C T b) j++elRow C T b (gx0 T b) (gz0 T b+j) i) wr2)∧Three C T b Bc Bt Bb wr2)
        (fun vx _=>(gx1 C T b+1 - intOf vx).toNat)
      case atStart=>exact⟨0,by simp,Nat.zero_le _,by show J _ _;simpa [elRow]using hJ1.out,H⟩
      case round =>
        clear hJ1 H
        obtain⟨i,rfl,hi,hJ2,H⟩:=hrel
        by_cases hix:i<gkx C T b
        · have hle2:gx0 T b+(i:Int)≤gx1 C T b:=by unfold gkx at hix;omega
          have hx31:gx0 T b+(i:Int)≤31:=by unfold gx1 at hle2;omega
          have hx00:0≤gx0 T b:=by unfold gx0;omega
          have hin:b.inside (gx0 T b+i) (gz0 T b+j):=by
            unfold Bx.inside
            unfold gx1 at hle2
            unfold gz1 at hle
            have h1:b.x≤gx0 T b:=by unfold gx0;omega
            have h2:b.z≤gz0 T b:=by unfold gz0;omega
            omega
          have hlen:(elGrid C T b (gx0 T b) (gz0 T b) (gkx C T b) j++elRow C T b (gx0 T b) (gz0 T b+j) i).length<1024:=by
            rw[List.length_append]
            have l1:=elGrid_len C T b (gx0 T b) (gz0 T b) (gkx C T b) j
            have l2:=elRow_len C T b (gx0 T b) (gz0 T b+j) i
            have k1:gkx C T b≤32:=by unfold gkx gx0 gx1;omega
            have k2:gkz C T b≤32:=by unfold gkz gz0 gz1;omega
            have l3:j*gkx C T b≤31*gkx C T b:=Nat.mul_le_mul (by omega) (Nat.le_refl _)
            omega
          have hnext:=elRow_succ C T b (gx0 T b) (gz0 T b+j) i
          have kov:=fun W=>k_over T (gx0 T b+i) (gz0 T b+j) W
          obtain⟨-,⟨t0,t1,t2,t3,t4,t5,t6,t7,t8,t9⟩,-⟩:=H.cs
          cases ho:ovB T (gx0 T b+i) (gz0 T b+j)with
          | false =>
            rw[elL_none ho,List.append_nil]at hnext
            have HN:=Lib.hid hnext
            clear hnext
            simp only[ho]at kov
            replace kov:=Lib.hid kov
            have hin':=Lib.hid hin
            have hlen':=Lib.hid hlen
            clear hin hlen ho
            gi_wp2_with (refine⟨trivial,?_⟩;gi_at_call 196;refine(callsIn_wide.2 (kov.out _)).mono ?_;rintro e w5 ⟨rfl,n5⟩;replace H:=H.new n5;replace hJ2:Hid (J _ w5):=HJ.out _ _ _ hJ2.out n5;clear t0 t1 t2 t3 t4 t5 t6 t7 t8 t9 n5)
            refine⟨trivial,?_⟩
            gi_wp2_with fail
            refine⟨fun _ h=>(by cases h),?_⟩
            gi_wp2_with fail
            go_roundw
            case rel=>exact⟨i+1,by congr 1;omega,by omega,by show J _ _;rw[HN.out];exact hJ2.out,H⟩
            case measure=>simp[intOf];omega
          | true =>
            rw[elL_some hin ho]at hnext
            obtain⟨e,he,he1,he2⟩:∃ e:El b.n,e=⟨((b.pl (gx0 T b+i) (gz0 T b+j)).toNat,⟨ovLo T (gx0 T b+i) (gz0 T b+j),ovHi T (gx0 T b+i) (gz0 T b+j),walkT C T⟩),(Bx.pl_lt hin).2.2⟩∧(e.1.1:Int)=b.pl (gx0 T b+i) (gz0 T b+j)∧e.1.2=⟨ovLo T (gx0 T b+i) (gz0 T b+j),ovHi T (gx0 T b+i) (gz0 T b+j),walkT C T⟩ :=
              ⟨_,rfl,Int.toNat_of_nonneg (Bx.pl_lt hin).1,rfl⟩
            rw[←he]at hnext
            have HN:=Lib.hid hnext
            have hex:elL C T b (gx0 T b+i) (gz0 T b+j)≠[]:=by rw[elL_some hin ho];simp
            have HX:Hid (elAll C T b≠[]):=Lib.hid (el_in hix hjz hex)
            have hyall:=fun W q=>HY.out (elGrid C T b (gx0 T b) (gz0 T b) (gkx C T b) j++elRow C T b (gx0 T b) (gz0 T b+j) i) e W q hlen
            rw[he1,he2]at hyall
            have kpl:=fun W=>a_place b hb _ _ hin W
            simp only[ho]at kov
            replace kov:=Lib.hid kov
            replace kpl:=Lib.hid kpl
            have HYA:=Lib.hid hyall
            clear hnext hyall hin hlen ho hex he1 he2 he
            gi_wp2_with (first
              | (refine⟨trivial,?_⟩;gi_at_call 196;refine(callsIn_wide.2 (kov.out _)).mono ?_;rintro e' w5 ⟨rfl,n5⟩;replace H:=H.new n5;replace hJ2:Hid (J _ w5):=HJ.out _ _ _ hJ2.out n5;clear t0 t1 t2 t3 t4 t5 t6 t7 t8 t9 n5;obtain⟨-,-,b0,b1,b2,b3⟩:=H.cs)
              | (refine⟨trivial,?_⟩;gi_at_call 197;refine(callsIn_wide.2 (kpl.out _)).mono ?_;rintro e' w6 ⟨rfl,n6⟩;replace H:=H.new n6;replace hJ2:Hid (J _ w6):=HJ.out _ _ _ hJ2.out n6;clear b0 b1 b2 b3 n6;(obtain⟨fn,tmps,assign,body,hy,hR⟩:=HYA.out w6 hJ2.out)))
            refine hR.mono ?_
            clear hy hR
            rintro e' W5 (⟨rfl,hJ5,hk5⟩|⟨rfl,hJx5⟩)
            · replace H:=H.same hk5
              clear hk5
              gi_wp2_with fail
              go_roundw
              case rel=>exact⟨i+1,by congr 1;omega,by omega,by show J _ _;rw[HN.out,←List.append_assoc];exact hJ5,H⟩
              case measure=>simp[intOf];omega
            · gi_wp2_with fail
              refine bodyPost_ret (results_none rfl _ _ _) rfl ?_
              exact⟨⟨_,rfl⟩,.inr ⟨_,HX.out,hJx5⟩⟩
        · have hle2:¬ (gx0 T b+(i:Int)≤gx1 C T b):=by unfold gkx at hix;omega
          obtain rfl:i=gkx C T b:=by omega
          gi_wp2_with fail
          go_roundw
          case rel=>exact⟨j+1,by congr 1;omega,by omega,by show J _ _;rw[elGrid_succ];exact hJ2.out,H⟩
          case measure=>simp[intOf];omega
    · have hle:¬ (gz0 T b+(j:Int)≤gz1 C T b):=by unfold gkz at hjz;omega
      obtain rfl:j=gkz C T b:=by omega
      gi_wp2_with fail
      go_end0
      exact⟨⟨_,rfl⟩,.inl hJ1.out⟩
end Go.Proofs.YtmhghnbgllaihaaGreatDoor

namespace Go.Proofs.YtmhghnbgllaihaaGreatDoor
open Go.RowKit Go.Shelf Go.Sort
set_option linter.unusedVariables false
attribute [local go_sem] Oper.semAt_some
def KeepThree (Bc Bt Bb:Nat) (W W':World):Prop:=W'.heap[Bc]? = W.heap[Bc]? ∧ W'.heap[Bt]? = W.heap[Bt]? ∧ W'.heap[Bb]? = W.heap[Bb]?
theorem KeepThree.trans {Bc Bt Bb:Nat} {X Y Z:World} (h:KeepThree Bc Bt Bb X Y) (k:KeepThree Bc Bt Bb Y Z):KeepThree Bc Bt Bb X Z:=⟨k.1.trans h.1,k.2.1.trans h.2.1,k.2.2.trans h.2.2⟩
def elA {N:Nat} (e:El N):Array Value:=#[.int .i64 e.1.1,.agg #[.int .i64 e.1.2.lo,.int .i64 e.1.2.hi,.bool e.1.2.wk]]
theorem Three.grown {C:CfgR} {T:TriR} {b:Bx} {Bc Bt Bb:Nat} {w W:World} (h:Three C T b Bc Bt Bb w) (n:Below w.heap.size w W):Three C T b Bc Bt Bb W :=
  ⟨(n.block Bc (Array.getElem?_eq_some_iff.1 h.c).1).trans h.c,(n.block Bt (Array.getElem?_eq_some_iff.1 h.t).1).trans h.t,(n.block Bb (Array.getElem?_eq_some_iff.1 h.b).1).trans h.b⟩
theorem p_stops (C:CfgR) (T:TriR) (b:Bx) (hC:C.fine) (hT:okT T=true) (hb:b.ok) (n:Nat) (hn:1≤n) (Bc Bt Bb:Nat) (w:World) (H:Three C T b Bc Bt Bb w) :
    SeqStopsK Fence.wide n Tryz.prog 192 #[.pointer (some ⟨Bc,0,none⟩),.pointer (some ⟨Bt,0,none⟩),.pointer (some ⟨Bb,0,none⟩)] (fun e:El b.n=>elA e) (KeepThree Bc Bt Bb)
      (fun ys=>ys=elAll C T b) (fun _=>elAll C T b≠[]) 1024 w:=fun l J Jx W hW hJ _ hY h0 =>
  p_each C T b hC hT hb n l Bc Bt Bb hn J Jx hY W (fun _ _ _ h k=>hJ _ _ _ none h (new_gro k) (fun r e=>by cases e)) (H.grown hW) h0
theorem p_pieces (C:CfgR) (T:TriR) (b:Bx) (n:Nat) (w:World) :
    CallsIn Fence.wide n Tryz.prog 157 #[.agg #[.int .i64 C.cl,.int .i64 C.cb,.int .i64 C.ht,.int .i64 C.ri,.int .i64 C.ru,.int .i64 C.wd,.int .i64 C.dp],.agg #[.int .i64 T.i,.int .i64 T.x0,.int .i64 T.y0,.int .i64 T.z0,.int .i64 T.x1,.int .i64 T.y1,.int .i64 T.z1,.int .i64 T.x2,.int .i64 T.y2,.int .i64 T.z2],.agg #[.int .i64 b.x,.int .i64 b.z,.int .i64 b.w,.int .i64 b.d]] w fun e w' =>
      e=.returned (.func (.func 192) #[] #[.pointer (some ⟨w.heap.size,0,none⟩),.pointer (some ⟨w.heap.size+1,0,none⟩),.pointer (some ⟨w.heap.size+2,0,none⟩)])∧New w w'∧Three C T b w.heap.size (w.heap.size+1) (w.heap.size+2) w'∧w'.heap.size=w.heap.size+3:=by
  refine callsIn_of_wp Tryz.func157 rfl trivial ?_ rfl
  simp only[Tryz.ntmps157,List.size_toArray,List.length_cons,List.length_nil,Nat.reduceAdd,Nat.reduceSub,Array.replicate_succ,Array.replicate_zero,List.push_toArray,List.append_toArray,List.nil_append,List.cons_append]
  gi_wp2
  go_ret
  refine⟨rfl,by exact nw,⟨?_,?_,?_⟩,by simp⟩
  · exact(Below.heap_alloc _ _ _ (by simp;omega)).trans ((Below.heap_alloc _ _ _ (by simp)).trans (World.alloc_heap_new w _))
  · have h:=World.alloc_heap_new (w.alloc (.cells (cfgA C) 23)) (.cells (triA T) 64)
    rw[World.size_alloc]at h
    exact(Below.heap_alloc _ _ _ (by simp)).trans h
  · have h:=World.alloc_heap_new ((w.alloc (.cells (cfgA C) 23)).alloc (.cells (triA T) 64)) (.cells (boxA b) 191)
    rw[World.size_alloc,World.size_alloc]at h
    exact h
end Go.Proofs.YtmhghnbgllaihaaGreatDoor
