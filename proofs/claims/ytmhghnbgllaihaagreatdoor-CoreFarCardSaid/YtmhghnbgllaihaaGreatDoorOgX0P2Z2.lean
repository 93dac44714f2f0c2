import Derived.Test.YtmhghnbgllaihaaGreatDoorSoYP2Z2
import Derived.Test.YtmhghnbgllaihaaGreatDoorSoLSP2Z2
import Derived.RangeFuncNested
import Derived.RangeFuncWrites
import Derived.RangeFuncBound
import Derived.RangeFuncCalls
import Derived.RangeFuncLeaves
import Derived.RangeFuncBox
import Derived.Maps.OwnIn
import Derived.Deep.OwnRows
import Derived.Test.YtmhghnbgllaihaaGreatDoorLkGP2Z2
import Derived.Test.YtmhghnbgllaihaaGreatDoorRows
import Derived.Test.YtmhghnbgllaihaaGreatDoorSoXFP2Z2
import Derived.LaidMore
import Derived.MakeChecks
import Derived.ProofKit
import Derived.OpenShut
import Derived.Stop.Joined
import Derived.Outline
import Derived.Deep.DeepCutAuto
import Derived.Deep.LoopGhost
import Derived.Test.YtmhghnbgllaihaaGreatDoorOgIP2Z2
import Derived.Test.YtmhghnbgllaihaaGreatDoorRaAP2Z2
import Derived.Test.YtmhghnbgllaihaaGreatDoorOgBP2Z2
set_option linter.unusedVariables false
set_option maxRecDepth 100000

namespace Go.Proofs.YtmhghnbgllaihaaGreatDoor
open Go.RowKit
def Bar (b0 P:Nat) (W U:World):Prop:=b0≤U.heap.size∧∀ b,b<b0→b≠P→U.heap[b]? = W.heap[b]?
theorem Bar.refl {b0 P:Nat} {W:World} (h:b0≤W.heap.size):Bar b0 P W W:=⟨h,fun _ _ _=>rfl⟩
theorem Bar.new {b0 P:Nat} {W U V:World} (h:Bar b0 P W U) (n:New U V):Bar b0 P W V:=⟨Nat.le_trans h.1 n.size,fun b hb hp=>(n.block b (Nat.lt_of_lt_of_le hb h.1)).trans (h.2 b hb hp)⟩
theorem Bar.grown {b0 P:Nat} {W U V:World} {row:Option Nat} (h:Bar b0 P W U) (hg:U.grownBy V row) (hr:∀ r,row=some r→b0≤r):Bar b0 P W V:=⟨Nat.le_trans h.1 hg.size,fun b hb hp=>(hg.block b (Nat.lt_of_lt_of_le hb h.1) (fun e=>by have:=hr b e.symm;omega)).trans (h.2 b hb hp)⟩
theorem Bar.set {b0 P:Nat} {W U:World} (h:Bar b0 P W U) (o:Nat) (v:Value):Bar b0 P W (U.setCell ⟨P,o,none⟩ v):=⟨by have:=h.1;simpa using this,fun b hb hp=>(Below.heap_setCell _ _ _ _ (by exact hp)).trans (h.2 b hb hp)⟩
theorem Bar.above {b0 P Q:Nat} {W U:World} (h:Bar b0 P W U) (hQ:b0≤Q) (o:Nat) (v:Value):Bar b0 P W (U.setCell ⟨Q,o,none⟩ v):=⟨by have:=h.1;simpa using this,fun b hb hp=>(Below.heap_setCell _ _ _ _ (show b≠Q by omega)).trans (h.2 b hb hp)⟩
theorem Bar.own {β:Type} {b0 P D:Nat} {W:World} (hD:b0≤D):OwnFrom D (fun(_:β) U=>Bar b0 P W U):=fun _ X Y row h hg hr=>h.grown hg (fun r e=>Nat.le_trans hD (hr r e).1)
theorem Bar.blk {b0 P b:Nat} {W U:World} {o:Obj} (h:Bar b0 P W U) (hb:b<b0) (hp:b≠P) (hW:W.heap[b]? = some o):U.heap[b]? = some o:=(h.2 b hb hp).trans hW
section
variable {α:Type} {enc:α→List Value} {k:Nat}
structure GrV (enc:α→List Value) (k:Nat) (tG tS:TypeId) (W:World) (n0 G N:Nat) (L:Nat→List α) (vs:Nat→Value):Prop where
 arr:∃ cs:Array Value,W.heap[G]? = some (.cells cs tG (0,0))∧N≤cs.size∧∀ j,j<N→cs[j]? = some (vs j)
 rows:∀ j,j<N→W.ownsRow n0 tS k (vs j) (L j).length ((L j).flatMap enc)
 apart:∀ i j b,i<N→j<N→(vs i).ownBlock=some b→(vs j).ownBlock=some b→i=j
def Gr (enc:α→List Value) (k:Nat) (tG tS:TypeId) (W:World) (n0 G N:Nat) (L:Nat→List α):Prop:=0<N→∃ vs,GrV enc k tG tS W n0 G N L vs
variable {tG tS:TypeId} {W w1:World} {n0 G N:Nat} {L:Nat→List α} {vs:Nat→Value}
theorem gr_cells {base size m:Nat} {v:Value} {xs:List Value} (h:W.ownsRow base tS size v m xs) {g:Nat} (hg:v.ownBlock=some g):∃ cur,W.heap[g]? = some (.cells cur tS (0,0))∧base≤g:=by
 rcases h.2 with ⟨rfl,_⟩|⟨g',cap,cur,rfl,hb,hgb,_⟩
 ·simp[Value.ownBlock]at hg
 ·obtain rfl:g'=g:=by simpa [Value.ownBlock]using hg
  exact⟨cur,hgb,hb⟩
theorem gr_nil {base n0:Nat} {v:Value} (h:W.ownsRow base tG 1 v N (List.replicate N (.slice none 0 0))) (h0:0<N):∃ G cap,v=.slice (some ⟨G,0,none⟩) N cap∧base≤G∧G<W.heap.size∧N≤cap∧cap≤maxLen∧Gr enc k tG tS W n0 G N (fun _=>[]):=by
 rcases h.2 with ⟨rfl,hn⟩|⟨g,cap,cur,rfl,hb,hg,h1,h2,h3,h4⟩
 ·omega
 ·refine⟨g,cap,rfl,hb,(Array.getElem?_eq_some_iff.1 hg).1,h1,h2,fun _=>⟨fun _=>.slice none 0 0,⟨cur,hg,by omega,fun j hj=>?_⟩,fun j hj=>World.ownsRow_nil _ _ _ _,fun i j b _ _ e _=>by simp[Value.ownBlock]at e⟩⟩
  have h5:(cur.toList.take (N*1))[j]? = some (.slice none 0 0):=by
   rw[h4,List.getElem?_replicate,if_pos hj]
  rw[List.getElem?_take,if_pos (by omega),Array.getElem?_toList]at h5
  exact h5
theorem GrV.grown {row:Option Nat} (h:GrV enc k tG tS W n0 G N L vs) (hg:W.grownBy w1 row) (hr:∀ r,row=some r→∃ o:Obj,W.heap[r]? = some o∧o.isCells=false):GrV enc k tG tS w1 n0 G N L vs:=by
 obtain⟨⟨cs,a1,a2,a3⟩,h2,h3⟩:=h
 refine⟨⟨cs,(hg.block G (Array.getElem?_eq_some_iff.1 a1).1 fun e=>?_).trans a1,a2,a3⟩,fun j hj=>(h2 j hj).kept hg ?_,h3⟩
 ·obtain⟨o,ho,hc⟩:=hr G e.symm
  rw[a1]at ho;cases ho;cases hc
 ·cases hv:(vs j).ownBlock with
  | none=>exact .inl rfl
  | some g =>
   refine .inr fun e=>?_
   obtain⟨cur,hc,_⟩:=gr_cells (h2 j hj) hv
   obtain⟨o,ho,hc'⟩:=hr g e.symm
   rw[hc]at ho;cases ho;cases hc'
theorem gr_gro {w w':World} (h:New w w'):w.grownBy w' none:=⟨h.os,h.tape,h.output,h.size,fun k hk _=>h.block k hk⟩
theorem GrV.new (h:GrV enc k tG tS W n0 G N L vs) (n:New W w1):GrV enc k tG tS w1 n0 G N L vs:=h.grown (gr_gro n) (fun r e=>by cases e)
theorem Gr.new (h:Gr enc k tG tS W n0 G N L) (n:New W w1):Gr enc k tG tS w1 n0 G N L:=fun h0=>by obtain⟨vs,h⟩:=h h0;exact⟨vs,h.new n⟩
theorem gr_own {β:Type} (enc:α→List Value) (k:Nat) (tG tS:TypeId) (n0 G N D:Nat) (f:β→Nat→List α):OwnFrom D (fun(s:β) W=>Gr enc k tG tS W n0 G N (f s)):=fun s X Y row h hg hr h0=>by obtain⟨vs,h⟩:=h h0;exact⟨vs,h.grown hg fun r e=>(hr r e).2⟩
theorem Gr.congr {L':Nat→List α} (h:Gr enc k tG tS W n0 G N L) (e:∀ j,j<N→L' j=L j):Gr enc k tG tS W n0 G N L':=fun h0=>by
 obtain⟨vs,h1,h2,h3⟩:=h h0
 exact⟨vs,h1,fun j hj=>by rw[e j hj];exact h2 j hj,h3⟩
theorem GrV.cell (h:GrV enc k tG tS W n0 G N L vs) {i:Nat} (hi:i<N):W.cell? ⟨G,i,none⟩=some (vs i)∧W.frozen? ⟨G,i,none⟩=false:=by
 obtain⟨cs,a1,a2,a3⟩:=h.arr
 exact⟨cell_of_heap a1 (a3 i hi),by simp[World.frozen?,a1]⟩
theorem GrV.put (h:GrV enc k tG tS W n0 G N L vs) (ht:tG≠tS) {i:Nat} (hi:i<N) {v':Value} {s:α} (hown:w1.ownsRow n0 tS k v' ((L i).length+1) ((L i).flatMap enc++enc s)) (hgrow:W.grownBy w1 (vs i).ownBlock)
  (hat:v'.ownBlock=(vs i).ownBlock∨∀ b,v'.ownBlock=some b→W.heap.size≤b) :
  w1.cell? ⟨G,i,none⟩=some (vs i)∧w1.frozen? ⟨G,i,none⟩=false∧Gr enc k tG tS (w1.setCell ⟨G,i,none⟩ v') n0 G N (fun j=>if j=i then L i++[s]else L j)∧KeepsOthers W (w1.setCell ⟨G,i,none⟩ v') ∧
   (∀ (b:Nat) (cs:Array Value) (t:TypeId) (fr:Nat×Nat),W.heap[b]? = some (Obj.cells cs t fr)→t≠tS→b≠G→(w1.setCell ⟨G,i,none⟩ v').heap[b]? = some (Obj.cells cs t fr))∧(∀ w0,New w0 W→w0.heap.size≤n0→w0.heap.size≤G→New w0 (w1.setCell ⟨G,i,none⟩ v')) ∧
   (∀ b,b<n0→b<W.heap.size→b≠G→(w1.setCell ⟨G,i,none⟩ v').heap[b]? = W.heap[b]?):=by
 obtain⟨⟨cs,a1,a2,a3⟩,h2,h3⟩:=h
 have off:∀ (b:Nat) (cs:Array Value) (t:TypeId) (fr:Nat×Nat),W.heap[b]? = some (Obj.cells cs t fr)→t≠tS→w1.heap[b]? = some (Obj.cells cs t fr):=fun b cs t fr hb hts=>by
  refine(hgrow.block b (Array.getElem?_eq_some_iff.1 hb).1 fun e=>?_).trans hb
  obtain⟨cur,hc,_⟩:=gr_cells (h2 i hi) e.symm
  rw[hb]at hc
  injection hc with hc
  injection hc with _ hc
  exact hts hc
 have hG:=off G cs tG (0,0) a1 ht
 have hGs:=heap_setCell_same w1 G i cs tG v' hG
 have oth:∀ b,b≠G→(w1.setCell ⟨G,i,none⟩ v').heap[b]? = w1.heap[b]? := fun b hb=>Below.heap_setCell _ _ _ _ hb
 have gs:w1.grownBy (w1.setCell ⟨G,i,none⟩ v') (some G):=⟨rfl,rfl,rfl,by simp[World.setCell],fun k _ hk=>oth k (fun e=>hk (by rw[e]))⟩
 have hne:v'.ownBlock≠some G:=fun e=>by
  obtain⟨cur,hc,_⟩:=gr_cells hown e
  rw[hG]at hc
  injection hc with hc
  injection hc with _ hc
  exact ht hc
 refine⟨cell_of_heap hG (a3 i hi),by simp[World.frozen?,hG],fun _=>⟨fun k=>if k=i then v' else vs k,⟨_,hGs,by simpa using a2,fun k hk=>?_⟩,fun k hk=>?_,fun j k b hj hk hjb hkb=>?_⟩,?_,fun b cs t fr hb hts hbG=>(oth b hbG).trans (off b cs t fr hb hts),fun w0 hB hn hG0=>?_,fun b hb hbW hbG=>(oth b hbG).trans (hgrow.block b hbW fun e=>?_)⟩
 ·by_cases e:k=i
  ·subst e
   rw[if_pos rfl,Array.getElem?_setIfInBounds_self_of_lt (by omega)]
  ·rw[if_neg e,Array.getElem?_setIfInBounds_ne (fun h=>e h.symm),a3 k hk]
 ·by_cases e:k=i
  ·subst e
   rw[if_pos rfl,if_pos rfl]
   rw[List.length_append,List.flatMap_append]
   simpa using hown.kept gs (.inr hne)
  ·rw[if_neg e,if_neg e]
   refine((h2 k hk).kept hgrow ?_).kept gs ?_
   ·cases hv:(vs k).ownBlock with
    | none=>exact .inl rfl
    | some g=>exact .inr fun e'=>e (h3 k i g hk hi hv e'.symm)
   ·refine .inr fun e'=>?_
    obtain⟨cur,hc,_⟩:=gr_cells (h2 k hk) e'
    rw[a1]at hc
    injection hc with hc
    injection hc with _ hc
    exact ht hc
 ·have fresh:∀ j,j<N→j≠i→(vs j).ownBlock=some b→v'.ownBlock=some b→False:=fun j hj hji e1 e2=>by
   rcases hat with e|e
   ·exact hji (h3 j i b hj hi e1 (e▸e2))
   ·have:=((h2 j hj).lt b e1).2
    have:=e b e2
    omega
  by_cases ej:j=i
  ·by_cases ek:k=i
   ·rw[ej,ek]
   ·rw[if_pos ej]at hjb
    rw[if_neg ek]at hkb
    exact(fresh k hk ek hkb hjb).elim
  ·by_cases ek:k=i
   ·rw[if_neg ej]at hjb
    rw[if_pos ek]at hkb
    exact(fresh j hj ej hjb hkb).elim
   ·rw[if_neg ej]at hjb
    rw[if_neg ek]at hkb
    exact h3 j k b hj hk hjb hkb
 ·refine(KeepsOthers.of_grownBy hgrow fun j o ej hj=>?_).trans (KeepsOthers.setCell _ _ _)
  obtain⟨cur,hc,_⟩:=gr_cells (h2 i hi) ej
  rw[hc]at hj;cases hj;rfl
 ·refine New.setCell (p:=⟨G,i,none⟩) ⟨hgrow.os.trans hB.os,hgrow.tape.trans hB.tape,hgrow.output.trans hB.output,Nat.le_trans hB.size hgrow.size,fun k hk=>(hgrow.block k (Nat.lt_of_lt_of_le hk hB.size) fun e=>?_).trans (hB.block k hk)⟩ hG0 _
  obtain⟨cur,_,hb⟩:=gr_cells (h2 i hi) e.symm
  omega
 ·obtain⟨cur,_,hb2⟩:=gr_cells (h2 i hi) e.symm
  omega
def RowsN (enc:α→List Value) (k:Nat) (tG tS:TypeId) (base:Nat) (w:World) (v:Value) (L:List (List α)):Prop :=
 ∃ us:List Value,us.length=L.length∧(Sl oneV 1 w v us∧∀ b,v.ownBlock=some b→base≤b∧∃ cs,w.heap[b]? = some (.cells cs tG (0,0)))∧∀ j (h:j<L.length),∃ u,us[j]? = some u∧Sl enc k w u L[j]∧∀ b,u.ownBlock=some b→base≤b∧∃ cs,w.heap[b]? = some (.cells cs tS (0,0))
theorem RowsN.rows {base:Nat} {w:World} {v:Value} {L:List (List α)} (h:RowsN enc k tG tS base w v L):RowsK enc k w v L:=by
 obtain⟨us,h1,h2,h3⟩:=h
 exact⟨us,h1,h2.1,fun j hj=>by obtain⟨u,e,hs,_⟩:=h3 j hj;exact⟨u,e,hs⟩⟩
theorem RowsN.mono {base b0:Nat} {w:World} {v:Value} {L:List (List α)} (h:RowsN enc k tG tS base w v L) (hb:b0≤base):RowsN enc k tG tS b0 w v L:=by
 obtain⟨us,h1,h2,h3⟩:=h
 exact⟨us,h1,⟨h2.1,fun b e=>⟨Nat.le_trans hb (h2.2 b e).1,(h2.2 b e).2⟩⟩,fun j hj=>by obtain⟨u,e,hs,hu⟩:=h3 j hj;exact⟨u,e,hs,fun b e=>⟨Nat.le_trans hb (hu b e).1,(hu b e).2⟩⟩⟩
theorem sl_kept {β:Type} {en:β→List Value} {m base:Nat} {w W:World} {u:Value} {l:List β} {t:TypeId} (h:Sl en m w u l) (hb:∀ b,u.ownBlock=some b→base≤b∧∃ cs,w.heap[b]? = some (.cells cs t (0,0))) (hk:∀ b cs,base≤b→w.heap[b]? = some (.cells cs t (0,0))→W.heap[b]? = w.heap[b]?) :
  Sl en m W u l∧∀ b,u.ownBlock=some b→base≤b∧∃ cs,W.heap[b]? = some (.cells cs t (0,0)):=by
 obtain⟨a,c,rfl,h1,h2,h3,h4⟩:=h
 refine⟨⟨a,c,rfl,h1,h2,h3,fun h0=>?_⟩,fun b e=>?_⟩
 ·obtain⟨B,off,rfl,hA⟩:=h4 h0
  obtain⟨q1,cs,q2⟩:=hb B rfl
  exact⟨B,off,rfl,fun j hj i hi=>(World.cell?_of_block (a:=⟨B,off+j*m+i,none⟩) (hk B cs q1 q2)).trans (hA j hj i hi)⟩
 ·obtain⟨q1,cs,q2⟩:=hb b e
  exact⟨q1,cs,(hk b cs q1 q2).trans q2⟩
theorem RowsN.kept {base:Nat} {w W:World} {v:Value} {L:List (List α)} (h:RowsN enc k tG tS base w v L) (hk:∀ b cs t,base≤b→(t=tG∨t=tS)→w.heap[b]? = some (.cells cs t (0,0))→W.heap[b]? = w.heap[b]?):RowsN enc k tG tS base W v L:=by
 obtain⟨us,h1,h2,h3⟩:=h
 exact⟨us,h1,sl_kept h2.1 h2.2 (fun b cs hb hc=>hk b cs _ hb (.inl rfl) hc),fun j hj=>by obtain⟨u,e,hs,hu⟩:=h3 j hj;exact⟨u,e,sl_kept hs hu (fun b cs hb hc=>hk b cs _ hb (.inr rfl) hc)⟩⟩
theorem RowsN.new {base:Nat} {w W:World} {v:Value} {L:List (List α)} (h:RowsN enc k tG tS base w v L) (n:New w W):RowsN enc k tG tS base W v L:=h.kept fun b cs t _ _ hc=>n.block b (Array.getElem?_eq_some_iff.1 hc).1
theorem Gr.rowsK (henc:∀ a,(enc a).length=k) {cap base:Nat} {v:Value} (h:Gr enc k tG tS W n0 G N L) (h0:0<N) (hv:v=.slice (some ⟨G,0,none⟩) N cap∧N≤cap∧cap≤maxLen) (hb1:base≤G) (hb2:base≤n0):RowsN enc k tG tS base W v ((List.range N).map L):=by
 obtain⟨vs,⟨cs,a1,a2,a3⟩,h2,h3⟩:=h h0
 obtain⟨rfl,hc,hm⟩:=hv
 refine⟨(List.range N).map vs,by simp,⟨⟨some ⟨G,0,none⟩,cap,by simp,by simpa using hc,hm,fun e=>(by cases e),fun _=>⟨G,0,rfl,fun j hj i hi=>?_⟩⟩,fun b hb=>?_⟩,fun j hj=>?_⟩
 ·have hi0:i=0:=by simp[oneV]at hi;exact hi
  subst hi0
  have hj':j<N:=by simpa using hj
  have:W.cell? ⟨G,j,none⟩=some (vs j):=cell_of_heap a1 (a3 j hj')
  simpa [oneV]using this
 ·obtain rfl:G=b:=by simpa [Value.ownBlock]using hb
  exact⟨hb1,cs,a1⟩
 ·have hj':j<N:=by simpa using hj
  refine⟨vs j,by simp[hj'],?_,fun b hb=>?_⟩
  ·simp only[List.getElem_map,List.getElem_range]
   exact own_sl henc (h2 j hj')
  ·obtain⟨cur,hc2,hb3⟩:=gr_cells (h2 j hj') hb
   exact⟨Nat.le_trans hb2 hb3,cur,hc2⟩
theorem GrV.other (h:GrV enc k tG tS W n0 G N L vs) {Q:Nat} (hg:W.grownBy w1 (some Q)) (hG:Q≠G) (hv:∀ j,j<N→(vs j).ownBlock≠some Q):GrV enc k tG tS w1 n0 G N L vs:=by
 obtain⟨⟨cs,a1,a2,a3⟩,h2,h3⟩:=h
 exact⟨⟨cs,(hg.block G (Array.getElem?_eq_some_iff.1 a1).1 (fun e=>hG (by injection e with e;exact e.symm))).trans a1,a2,a3⟩,fun j hj=>(h2 j hj).kept hg (.inr (fun e=>hv j hj e)),h3⟩
end
structure Sp where
 (c k:Nat)
instance:Inhabited Sp:=⟨⟨0,0⟩⟩
def Sp.eqB (a b:Sp):Bool:=(a.c:Int)==(b.c:Int)&&(a.k:Int)==(b.k:Int)
theorem Sp.eqB_iff (a b:Sp):a.eqB b=true↔a=b:=by
 obtain⟨a0,a1⟩:=a
 obtain⟨b0,b1⟩:=b
 simp only[Sp.eqB,Bool.and_eq_true,beq_iff_eq,Sp.mk.injEq]
 omega
instance:DecidableEq Sp:=fun a b=>decidable_of_iff _ (Sp.eqB_iff a b)
def spO (o:Option Sp):Sp:=o.getD ⟨0,0⟩
def Sp.enc (s:Sp):List Value:=#[.int .i64 ((s.c:Nat):Int),.int .i64 ((s.k:Nat):Int)].toList
theorem Sp.enc_len (s:Sp):s.enc.length=2:=rfl
theorem Sp.enc_one (s:Sp):∀ u∈s.enc,u.oneCell'=true:=by
 intro u hu
 simp[Sp.enc]at hu
 rcases hu with rfl|rfl <;> rfl
theorem Sp.cells {w:World} {b off:Nat} {l:List Sp} (H:RowAt Sp.enc 2 w b off l) (j:Nat) (h:j<l.length) :
  w.cell? ⟨b,off+j*2,none⟩=some (.int .i64 ((l[j].c:Nat):Int))∧w.cell? ⟨b,off+j*2+1,none⟩=some (.int .i64 ((l[j].k:Nat):Int)) :=
 ⟨H j h 0 (by rw[Sp.enc_len];omega),H j h 1 (by rw[Sp.enc_len];omega)⟩
def lkD (x:Lnk) (d:Int):Int:=if d=0 then x.a else if d=1 then x.b else if d=2 then x.c else x.d
def colM (M:List (List Lnk)) (c:Nat):List Lnk:=(M[c]?).getD []
def SpIn (M:List (List Lnk)) (s:Sp):Prop:=s.c<M.length∧s.k<(colM M s.c).length
theorem colM_at {M:List (List Lnk)} {c:Nat} (h:c<M.length):colM M c=M[c]:=by unfold colM;rw[List.getElem?_eq_getElem h];rfl
structure Net where
 W:Nat
 M:List (List Lnk)
 go:Sp→Int→Option Sp
 len:M.length≤4096
 col:∀ c,(colM M c).length≤8
 wle:W≤64
 dir:∀ s d t,go s d=some t→okD d=true
 is:∀ s (h:SpIn M s) d,okD d=true→lkD ((colM M s.c)[s.k]'h.2) d=match go s d with
  | some t=>((t.k:Nat):Int)
  | none => -1
 lead:∀ s,SpIn M s→∀ d t,go s d=some t→SpIn M t∧((t.c:Nat):Int)=s.c+dxD d+dzD d*W
 sym:SymP go (SpIn M)
theorem Net.small (N:Net) {s:Sp} (h:SpIn N.M s):s.c<4096∧s.k<8:=⟨Nat.lt_of_lt_of_le h.1 N.len,Nat.lt_of_lt_of_le h.2 (N.col s.c)⟩
structure GnAt (wd:Int) (v:Value) (W:World) (B:Nat):Prop where
 c0:W.cell? ⟨B,0,none⟩=some (.int .i64 wd)
 c1:W.cell? ⟨B,1,none⟩=some v
theorem GnAt.new {wd:Int} {v:Value} {W W':World} {B:Nat} (h:GnAt wd v W B) (q:New W W'):GnAt wd v W' B:=⟨q.keep h.c0,q.keep h.c1⟩
structure SpAt (s:Sp) (W:World) (B:Nat):Prop where
 c0:W.cell? ⟨B,0,none⟩=some (.int .i64 ((s.c:Nat):Int))
 c1:W.cell? ⟨B,1,none⟩=some (.int .i64 ((s.k:Nat):Int))
theorem SpAt.new {s:Sp} {W W':World} {B:Nat} (h:SpAt s W B) (q:New W W'):SpAt s W' B:=⟨q.keep h.c0,q.keep h.c1⟩
structure Res2 (W:World) (B:Nat):Prop where
 c0:W.cell? ⟨B,0,none⟩=some (.int .i64 0)
 c1:W.cell? ⟨B,1,none⟩=some (.int .i64 0)
 f0:W.frozen? ⟨B,0,none⟩=false
 f1:W.frozen? ⟨B,1,none⟩=false
theorem Res2.new {W W':World} {B:Nat} (h:Res2 W B) (q:New W W'):Res2 W' B:=⟨q.keep h.c0,q.keep h.c1,q.keepF h.c0 h.f0,q.keepF h.c1 h.f1⟩
section
variable {α:Type} {enc:α→List Value} {k:Nat}
structure RowsOK (enc:α→List Value) (k:Nat) (tG:TypeId) (base:Nat) (W:World) (v:Value) (us:List Value) (L:List (List α)):Prop where
 len:us.length=L.length
 own:W.ownsRow base tG 1 v us.length us
 each:∀ j (h:j<L.length),∃ u,us[j]? = some u∧Sl enc k W u L[j]∧(0<L[j].length→∀ g,u.ownBlock=some g→v.ownBlock≠some g)
theorem slk_other {w w':World} {row:Option Nat} {u:Value} {l:List α} (h:Sl enc k w u l) (hg:w.grownBy w' row) (hne:0<l.length→∀ g,u.ownBlock=some g→row≠some g):Sl enc k w' u l:=by
 obtain⟨a,c,rfl,h1,h2,h3,h4⟩:=h
 refine⟨a,c,rfl,h1,h2,h3,fun h0=>?_⟩
 obtain⟨b,off,rfl,hr⟩:=h4 h0
 refine⟨b,off,rfl,fun j hj i hi=>?_⟩
 have hc:=hr j hj i hi
 exact hg.cell hc (fun e=>hne h0 b (by simp[Value.ownBlock]) e.symm)
theorem slk_lt (hk:∀ a,(enc a).length=k) (hk0:0<k) {w:World} {u:Value} {l:List α} (h:Sl enc k w u l) (h0:0<l.length) {g:Nat} (e:u.ownBlock=some g):g<w.heap.size:=by
 obtain⟨a,c,rfl,h1,h2,h3,h4⟩:=h
 obtain⟨b,off,rfl,hr⟩:=h4 h0
 obtain rfl:b=g:=by simpa [Value.ownBlock]using e
 exact World.block_lt_of_cell? _ _ (hr 0 h0 0 (by rw[hk];exact hk0))
variable {tG:TypeId} {base:Nat} {W W1:World} {v v':Value} {us:List Value} {L:List (List α)}
theorem RowsOK.nil:RowsOK enc k tG base W (.slice none 0 0) [] []:=⟨rfl,World.ownsRow_nil _ _ _ _,fun j h=>absurd h (by simp)⟩
theorem RowsOK.new (h:RowsOK enc k tG base W v us L) (n:New W W1):RowsOK enc k tG base W1 v us L:=⟨h.len,own_new h.own n,fun j hj=>by obtain⟨u,e,hs,hn⟩:=h.each j hj;exact⟨u,e,hs.keep n,hn⟩⟩
theorem RowsOK.push (hk:∀ a,(enc a).length=k) (hk0:0<k) (h:RowsOK enc k tG base W v us L) {u:Value} {l:List α} (hs:Sl enc k W u l) (hn:0<l.length→∀ g,u.ownBlock=some g→v.ownBlock≠some g) (hown:W1.ownsRow base tG 1 v' (us.length+1) (us++[u])) (hg:W.grownBy W1 v.ownBlock) (hat:v'.ownBlock=v.ownBlock∨v'.ownBlock=some W.heap.size) :
  RowsOK enc k tG base W1 v' (us++[u]) (L++[l]):=by
 have one:∀ (x:Value) (m:List α),Sl enc k W x m→(0<m.length→∀ g,x.ownBlock=some g→v.ownBlock≠some g)→Sl enc k W1 x m∧(0<m.length→∀ g,x.ownBlock=some g→v'.ownBlock≠some g):=fun x m hx hxn =>
  ⟨slk_other hx hg hxn,fun h0 g e=>by
   rcases hat with q|q
   ·rw[q];exact hxn h0 g e
   ·rw[q]
    have:=slk_lt hk hk0 hx h0 e
    intro e2
    injection e2 with e2
    omega⟩
 refine⟨by simp[h.len],by simpa using hown,fun j hj=>?_⟩
 by_cases hjl:j<L.length
 ·obtain⟨x,e,hx,hxn⟩:=h.each j hjl
  have e2:(L++[l])[j]=L[j]:=List.getElem_append_left hjl
  rw[e2]
  exact⟨x,by rw[List.getElem?_append_left (by rw[h.len];exact hjl)];exact e,one x _ hx hxn⟩
 ·have hjl':j=L.length:=by simp at hj;omega
  subst hjl'
  have e2:(L++[l])[L.length]=l:=by simp
  rw[e2]
  exact⟨u,by rw[List.getElem?_append_right (by rw[h.len];exact Nat.le_refl _),h.len];simp,one u _ hs hn⟩
theorem RowsOK.put (hk:∀ a,(enc a).length=k) (hk0:0<k) (h:RowsOK enc k tG base W v us L) {p:Addr} (hp:p.block<base) (hb:∀ j (hj:j<L.length),0<L[j].length→∀ u,us[j]? = some u→u.ownBlock≠some p.block) (x:Value):RowsOK enc k tG base (W.setCell p x) v us L:=by
 refine⟨h.len,ownsRow_setCell_below h.own hp x,fun j hj=>?_⟩
 obtain⟨u,e,hs,hn⟩:=h.each j hj
 refine⟨u,e,?_,hn⟩
 obtain⟨a,c,rfl,h1,h2,h3,h4⟩:=hs
 refine⟨a,c,rfl,h1,h2,h3,fun h0=>?_⟩
 obtain⟨b,off,rfl,hr⟩:=h4 h0
 have hne:b≠p.block:=fun q=>hb j hj h0 _ e (by simp[Value.ownBlock,q])
 refine⟨b,off,rfl,fun i hi q hq=>?_⟩
 rw[World.cell?_of_block (a:=⟨b,off+i*k+q,none⟩) (Below.heap_setCell _ _ _ _ hne)]
 exact hr i hi q hq
theorem RowsOK.rows (h:RowsOK enc k tG base W v us L):RowsK enc k W v L :=
 ⟨us,h.len,own_sl (enc:=oneV) (k:=1) (l:=us) (fun _=>rfl) (by rw[oneV_flat];exact h.own),fun j hj=>by obtain⟨u,e,hs,_⟩:=h.each j hj;exact⟨u,e,hs⟩⟩
end
end Go.Proofs.YtmhghnbgllaihaaGreatDoor

namespace Go.Proofs.YtmhghnbgllaihaaGreatDoor
open Go.ChangeShapes Go.WideShapes Go.ChangeAt Go.RowKit
theorem gNo:Tryz.prog.globalNamed "footpath/bins.nowhere" = some 0:=by kernel_rfl
theorem tNo:(Tryz.prog.globals[0]?).map (·.type)=some 302:=by kernel_rfl
structure Nowhere (w:World):Prop where
 c0:w.cell? ⟨0,0,none⟩=some (.int .i64 0)
 c1:w.cell? ⟨0,1,none⟩=some (.int .i64 0)
 c2:w.cell? ⟨0,2,none⟩=some (.int .i64 (-1))
 c3:w.cell? ⟨0,3,none⟩=some (.int .i64 (-1))
theorem Nowhere.new {w w':World} (h:Nowhere w) (n:New w w'):Nowhere w' :=
 ⟨n.keep h.c0,n.keep h.c1,n.keep h.c2,n.keep h.c3⟩
abbrev laidBins:List (String×DataW Unit):=[("footpath/bins.nowhere",Rows.laid_footpath_bins_nowhere)]
theorem take1 {l:List Value} {i:Nat} {x:Value} (h:(l.drop i).take 1=[x]):l[i]? = some x:=by
 have:((l.drop i).take 1)[0]? = some x:=by rw[h];rfl
 simpa [List.getElem?_take,List.getElem?_drop]using this
theorem of_laid {W:World} (h:laidMetH Tryz.prog laidBins W):Nowhere W:=by
 rw[MakeChecks.laidMetH_plain _ _ _ (by kernel_rfl)]at h
 obtain⟨ps,⟨g0,t0,cs0,f0,p0,q0,hg0,ht0,hv0,hd0,_,_⟩,_,_⟩:=h
 obtain rfl:=Option.some.inj (gNo.symm.trans hg0)
 obtain rfl:=Option.some.inj (tNo.symm.trans ht0)
 obtain⟨xs,n,rfl,hx,hlen,hn,hel⟩:=DataW.trod_struct Tryz.underlying302 hd0
 have c3:Tryz.prog.cellsOf 3=1:=by kernel_rfl
 simp only[Rows.laid_footpath_bins_nowhere,Prod.mk.injEq,DataW.agg.injEq]at hx
 have h0:DataW.trod (fun _=>()) Tryz.prog W 0 (fun _=>true) false n 3 ((cs0.toList.drop 0).take (Tryz.prog.cellsOf 3))=xs[0]? := hel 0 _ rfl
 have h1:DataW.trod (fun _=>()) Tryz.prog W 0 (fun _=>true) false n 3 ((cs0.toList.drop 1).take (Tryz.prog.cellsOf 3))=xs[1]? := hel 1 _ rfl
 have h2:DataW.trod (fun _=>()) Tryz.prog W 0 (fun _=>true) false n 3 ((cs0.toList.drop 2).take (Tryz.prog.cellsOf 3))=xs[2]? := hel 2 _ rfl
 have h3:DataW.trod (fun _=>()) Tryz.prog W 0 (fun _=>true) false n 3 ((cs0.toList.drop 3).take (Tryz.prog.cellsOf 3))=xs[3]? := hel 3 _ rfl
 rw[c3]at h0 h1 h2 h3
 match xs,hn,hx,h0,h1,h2,h3 with
 | [x0,x1,x2,x3],_,hx,h0,h1,h2,h3 =>
  simp only[List.map_cons,List.map_nil,List.cons.injEq,List.getElem?_cons_zero,List.getElem?_cons_succ]at hx h0 h1 h2 h3
  obtain⟨⟨r0,r1,r2,r3,-⟩,-⟩:=hx
  obtain⟨k0,e0,y0,_⟩:=DataW.trod_int Tryz.underlying3 h0
  obtain⟨k1,e1,y1,_⟩:=DataW.trod_int Tryz.underlying3 h1
  obtain⟨k2,e2,y2,_⟩:=DataW.trod_int Tryz.underlying3 h2
  obtain⟨k3,e3,y3,_⟩:=DataW.trod_int Tryz.underlying3 h3
  rw[y0]at r0;rw[y1]at r1;rw[y2]at r2;rw[y3]at r3
  simp only[DataW.lit.injEq,Lit.int.injEq,true_and]at r0 r1 r2 r3
  subst r0;subst r1;subst r2;subst r3
  exact⟨(World.var?_cell hg0 hv0 0).trans (by rw[←Array.getElem?_toList];exact take1 e0),(World.var?_cell hg0 hv0 1).trans (by rw[←Array.getElem?_toList];exact take1 e1),
   (World.var?_cell hg0 hv0 2).trans (by rw[←Array.getElem?_toList];exact take1 e2),(World.var?_cell hg0 hv0 3).trans (by rw[←Array.getElem?_toList];exact take1 e3)⟩
end Go.Proofs.YtmhghnbgllaihaaGreatDoor

namespace Go.Proofs.YtmhghnbgllaihaaGreatDoor
open Go.RowKit
abbrev iE (t:Int):List Value:=[.int .i64 t]
theorem iE_len (t:Int):(iE t).length=1:=rfl
theorem int_info:(Tryz.prog.info? 3).map (fun i=>(i.zero,i.size,i.bytes))=some (some (.int .i64 0),1,8):=by kernel_rfl
theorem cells_int (w:World) (t:Int) (ty:TypeId):∀ j u,(iE t)[j]? = some u→(w.alloc (.cells #[.int .i64 t] ty)).cell? ((⟨w.heap.size,0,none⟩:Addr).add j)=some u:=by
 intro j u hj
 match j,hj with
 | 0,hj=>simp at hj;subst hj;simp[Addr.add]
 | j+1,hj=>simp at hj
def eqR (L M:List (List Fl)):Bool:=decide (L=M)
theorem eqR_len {L M:List (List Fl)} (h:L.length≠M.length):eqR L M=false:=decide_eq_false (fun e=>h (by rw[e]))
theorem eqR_at {L M:List (List Fl)} (j:Nat) (h1:j<L.length) (h2:j<M.length) (h:L[j]≠M[j]):eqR L M=false:=decide_eq_false (fun e=>by subst e;exact h rfl)
theorem eqR_all {L M:List (List Fl)} (hl:L.length=M.length) (h:∀ j (h1:j<L.length) (h2:j<M.length),L[j]=M[j]):eqR L M=true:=decide_eq_true (List.ext_getElem hl h)
def smallL (L:List (List Fl)):Prop:=∀ j (h:j<L.length),L[j].length≤1000
def sameG (G O:Gd):Bool:=G.x==O.x&&(G.z==O.z&&(G.w==O.w&&(G.d==O.d&&eqR G.L O.L)))
theorem bx0_ok {x z w d:Int} (h:boxB x z w d=true):(⟨x,z,w,d⟩:Bx).ok:=by
 have:=boxB_iff.1 h
 refine⟨?_,?_,?_,?_,?_,?_,?_,?_⟩ <;> (dsimp only;(try unfold i64B);omega)
theorem bR_len (C:CfgR) (l:List TriR) (x z wi d:Int):(bR C l x z wi d).length≤4096:=by
 unfold bR
 split
 ·rename_i h
  have hb:boxB x z wi d=true:=by
   cases hb:boxB x z wi d with
   | true=>rfl
   | false =>
    unfold bE at h
    split at h
    ·rename_i h1;exact absurd h h1
    ·rw[hb]at h;simp at h
  rw[rowsL_len]
  exact Bx.n_le (bx0_ok hb)
 ·simp
def bF (C:CfgR) (l:List TriR) (x z wi d:Int):List (List Fl):=(bR C l x z wi d).map (flX C)
def Built (er:Int) (x z wi d:Int) (F:List (List Fl)) (w:World) (e:Ending) (w':World):Prop :=
 ∃ G:Gd,e=.returned (.tuple #[.agg #[.int .i64 G.x,.int .i64 G.z,.int .i64 G.w,.int .i64 G.d,.slice G.ga G.L.length G.gc],.int .i64 er])∧G.ok w'∧(er=0→G.x=x∧G.z=z∧G.w=wi∧G.d=d∧G.L=F)∧(er≠0→G.x=0∧G.z=0∧G.w=0∧G.d=0∧G.L=[])∧New w w'
end Go.Proofs.YtmhghnbgllaihaaGreatDoor
