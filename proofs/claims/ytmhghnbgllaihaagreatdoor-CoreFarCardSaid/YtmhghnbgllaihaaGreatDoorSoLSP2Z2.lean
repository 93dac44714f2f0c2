import Derived.Test.YtmhghnbgllaihaaGreatDoorSoXFP2Z2
import Derived.StillTail
import Derived.OwnWalk
import Derived.OneCell
import Derived.Lib.AppendZerosOnto
import Derived.Deep.LoopGhost
set_option linter.unusedVariables false
set_option maxHeartbeats 16000000
set_option maxRecDepth 100000

namespace Go.Proofs.YtmhghnbgllaihaaGreatDoor
open Go.RowKit
section
variable {P:Program} {md:Region.Mode} {ops:Array Oper} {W:World} {n:Nat} {al:List Nat}
def Mild (P:Program) (W:World) (o:Oper) (a:Act) (v:Value):Prop:=∀ x:Hat W,o.quietAt P a (fun w'=>New x.w w') x.w v
def Step (P:Program) (ops:Array Oper) (W:World) (al:List Nat) (i:Nat) (o:Oper) (a:Act) (v:Value):Prop :=
 if i∈al then v=undef else if Region.wanted o (yielded ops a.tmps)=true then Mild P W o a v else v=undef
def mildWalk (P:Program) (ops:Array Oper) (W:World) (al:List Nat) (Q:Act→Prop):Nat→List Oper→Act→Prop
 | _,[],a=>Q a
 | k,o::rest,a=>∃ v,Step P ops W al k o a v∧mildWalk P ops W al Q (k+1) rest (a.put o.dst v)
theorem mildWalk_nil {Q:Act→Prop} {k:Nat} {a:Act} (h:Q a):mildWalk P ops W al Q k [] a:=h
theorem mildWalk_made {Q:Act→Prop} {k:Nat} {o:Oper} {rest:List Oper} {a:Act} (hk:k∈al) (h:mildWalk P ops W al Q (k+1) rest (a.put o.dst undef)):mildWalk P ops W al Q k (o::rest) a :=
 ⟨_,by unfold Step;rw[if_pos hk],h⟩
theorem mildWalk_step {Q:Act→Prop} {k:Nat} {o:Oper} {rest:List Oper} {a:Act} (hk:k∉al)
  (h:∀ K:Act→Prop,(∀ a,mildWalk P ops W al Q (k+1) rest a→K a)→if Region.wanted o (yielded ops a.tmps)=true then ∃ v,(∀ x:Hat W,o.quietAt P a (fun w'=>New x.w w') x.w v)∧K (a.put o.dst v)else K (a.put o.dst undef)):mildWalk P ops W al Q k (o::rest) a:=by
 have h:=h _ fun _ h=>h
 by_cases hw:Region.wanted o (yielded ops a.tmps)=true
 ·rw[if_pos hw]at h
  obtain⟨v,hv,hr⟩:=h
  exact⟨v,by unfold Step;rw[if_neg hk,if_pos hw];exact hv,hr⟩
 ·rw[if_neg hw]at h
  exact⟨undef,by unfold Step;rw[if_neg hk,if_neg hw],h⟩
theorem mildWalk_mono {Q Q':Act→Prop} (hq:∀ a,Q a→Q' a):∀ (l:List Oper) (k:Nat) (a:Act),mildWalk P ops W al Q k l a→mildWalk P ops W al Q' k l a
 | [],_,_,h=>hq _ h
 | _::l,k,_,⟨v,hv,h⟩=>⟨v,hv,mildWalk_mono hq l (k+1) _ h⟩
def anyWalk (P:Program) (md:Region.Mode) (ops:Array Oper) (W:World) (n:Nat) (al:List Nat) (L:Array Bool→Act→Prop):Nat→Array Bool→Act→Prop
 | 0,listed,a=>L listed a
 | f+1,listed,a=>Region.ready md ops listed≠[]∧∀ i∈Region.ready md ops listed,i<n∧∃ o v,ops[i]? = some o∧Step P ops W al i o a v∧anyWalk P md ops W n al L f (listed.setIfInBounds i true) (a.put o.dst v)
def Waits (md:Region.Mode) (ops:Array Oper) (n:Nat):Prop :=
 ∀ listed,HeadInv md ops n listed→∀ i,i<n→listed.getD i true=false→∀ t∈Region.ready md ops listed,t<n
theorem waits_of (hs:Region.sinkB md ops n=true) (hc:Region.chainB md ops n=true) (hn:n<ops.size):Waits md ops n:=fun listed inv i hi hun t ht =>
 Nat.lt_of_not_le fun hle=>tail_waits hs hc hn inv _ i rfl hi hun t hle ht
theorem waits_all:Waits md ops ops.size:=fun _ _ _ _ _ _ ht=>by
 obtain⟨_,o,ho,_⟩:=mem_ready.1 ht
 exact(Array.getElem?_eq_some_iff.1 ho).1
theorem step_put {i:Nat} {o:Oper} {a:Act} {v:Value} (hs:∀ cs b,o.op≠.select cs b) (d:Option Tmp) (u:Value) (h:∀ t,d=some t→t∉o.looksAt ops):Step P ops W al i o (a.put d u) v↔Step P ops W al i o a v:=by
 unfold Step
 rw[wanted_put o a d u h]
 unfold Mild Oper.quietAt
 rw[execOp_put o hs a d u h]
theorem anyWalk_first {L:Array Bool→Act→Prop} (hw:Waits md ops n) (hsel:∀ (j:Nat) (o:Oper) cs b,ops[j]? = some o→o.op≠.select cs b) (hdone:∀ listed a,L listed a→∀ j∈Region.ready md ops listed,n≤j) {i:Nat} {oi:Oper} {v:Value} (hi:ops[i]? = some oi) (hin:i<n) :
  ∀ (f:Nat) (listed:Array Bool) (a:Act),HeadInv md ops n listed →
   (∀ j oj,ops[j]? = some oj→j≠i→listed.getD j true=false→(∀ e∈oj.after,Region.binds md e=true→e.on≠i)→oi.apart ops oj=true) →
   i∈Region.ready md ops listed→Step P ops W al i oi a v→anyWalk P md ops W n al L f (listed.setIfInBounds i true) (a.put oi.dst v)→anyWalk P md ops W n al L (f+1) listed a
 | 0,listed,a,inv,_,hr,hy,H=>⟨fun h0=>(by rw[h0]at hr;cases hr),fun j hj=>by
  have hjn:=hw listed inv i hin (mem_ready.1 hr).1 j hj
  refine⟨hjn,?_⟩
  by_cases hji:j=i
  ·subst hji;exact⟨oi,v,hi,hy,H⟩
  ·have:=hdone _ _ H j (ready_mono hj hji)
   omega⟩
 | f+1,listed,a,inv,hfree,hr,hy,H=>⟨fun h0=>(by rw[h0]at hr;cases hr),fun j hj=>by
  have hjn:=hw listed inv i hin (mem_ready.1 hr).1 j hj
  refine⟨hjn,?_⟩
  by_cases hji:j=i
  ·subst hji;exact⟨oi,v,hi,hy,H⟩
  ·obtain⟨_,oj,u,hoj,hyj,Hj⟩:=H.2 j (ready_mono hj hji)
   obtain⟨hjun,oj',hoj',hall⟩:=mem_ready.1 hj
   obtain rfl:oj=oj':=Option.some.inj (hoj.symm.trans hoj')
   have hno:∀ e∈oj.after,Region.binds md e=true→e.on≠i:=fun e he hb heq=>by
    have h1:=hall e he hb
    rw[heq,getD_both (mem_ready.1 hr).1]at h1
    cases h1
   have hap:=hfree j oj hoj hji hjun hno
   obtain⟨h1,h2,h3⟩:=Oper.apart_spec hap
   refine⟨oj,u,hoj,(step_put (hsel j oj · · hoj) oi.dst v h1).1 hyj,?_⟩
   refine anyWalk_first hw hsel hdone hi hin f _ _ (inv.set hj hjn) (fun k ok hk hki hun hno=>?_) (ready_mono hr (Ne.symm hji)) ((step_put (hsel i oi · · hi) oj.dst u h3).2 hy) ?_
   ·refine hfree k ok hk hki ?_ hno
    by_cases hjk:j=k
    ·subst hjk;exact hjun
    ·rw[getD_set_ne true hjk]at hun;exact hun
   ·rw[Array.setIfInBounds_comm _ _ hji,←Act.put_comm a v u h2]
    exact Hj⟩
def lexHeadB (md:Region.Mode) (ops:Array Oper) (g n:Nat) (al:List Nat):Nat→Nat→Array Bool→Bool
 | 0,k,listed=>decide (k=n)&&al.all (fun i=>listed.getD i false)&&Region.seqB md ops g k listed
 | f+1,k,listed=>(Region.ready md ops listed).contains k&&Region.free md ops listed k&&lexHeadB md ops g n al f (k+1) (listed.setIfInBounds k true)
theorem anyWalk_lex {g:Nat} {Lq:Act→Prop} (hw:Waits md ops n) (hsel:∀ (j:Nat) (o:Oper) cs b,ops[j]? = some o→o.op≠.select cs b) :
  ∀ (l:List Oper) (k:Nat) (listed:Array Bool) (a:Act),(∀ j,j<l.length→l[j]? = ops[k+j]?)→k+l.length=n→HeadInv md ops n listed →
  lexHeadB md ops g n al l.length k listed=true→mildWalk P ops W al Lq k l a →
  anyWalk P md ops W n al (fun listed' a'=>(al.all (fun i=>listed'.getD i false)=true∧Region.seqB md ops g n listed'=true)∧Lq a') l.length listed a
 | [],k,listed,a,_,hk,_,hB,h=>by
  have hkn:k=n:=by simpa using hk
  subst hkn
  simp only[List.length_nil,lexHeadB,Bool.and_eq_true]at hB
  exact⟨⟨hB.1.2,hB.2⟩,h⟩
 | o::l,k,listed,a,hl,hk,inv,hB,h=>by
  have h0:ops[k]? = some o:=by simpa using (hl 0 (by simp)).symm
  simp only[List.length_cons,lexHeadB,Bool.and_eq_true]at hB
  obtain⟨⟨hr,hf⟩,hB'⟩:=hB
  have hkn:k<n:=by simp only[List.length_cons]at hk;omega
  have hr':k∈Region.ready md ops listed:=by simpa using hr
  obtain⟨v,hy,hK⟩:=h
  exact anyWalk_first hw hsel (fun listed' a' hL=>seqB_ready hL.1.2) h0 hkn l.length listed a inv (Region.free_spec h0 hf) hr' hy
   (anyWalk_lex hw hsel l (k+1) _ _ (fun j hj=>by have:=hl (j+1) (by simp;omega);simpa [Nat.add_assoc,Nat.add_comm 1 j]using this) (by simp only[List.length_cons]at hk;omega) (inv.set hr' hkn) hB' hK)
structure Made where
 i:Nat
 d:Tmp
 o:Obj
structure Keeps (W:World) (ms:List Made) (listed:Array Bool) (av ar:Act) (w:World):Prop where
 new:New W w
 defers:ar.defers=av.defers
 size:ar.tmps.size=av.tmps.size
 inb:∀ x∈ms,x.d<av.tmps.size
 same:∀ s,(∀ x∈ms,x.d≠s)→ar.tmps[s]? = av.tmps[s]?
 made:∀ x∈ms,listed.getD x.i false=true→∃ b,W.heap.size≤b∧w.heap[b]? = some x.o∧ar.tmps[x.d]? = some (.pointer (some ⟨b,0,none⟩))
 unlike:∀ x∈ms,∀ y∈ms,listed.getD x.i false=true→listed.getD y.i false=true→x.i≠y.i→ar.tmps[x.d]? ≠ ar.tmps[y.d]?
theorem put_get_ne {a:Act} {d:Option Tmp} {v:Value} {s:Nat} (h:∀ t,d=some t→t≠s):(a.put d v).tmps[s]? = a.tmps[s]? := by
 cases d with
 | none=>rfl
 | some t=>simp[Act.put,Array.getElem?_setIfInBounds_ne (h t rfl)]
theorem put_get_eq {a:Act} {t:Tmp} {v:Value} (h:t<a.tmps.size):(a.put (some t) v).tmps[t]? = some v:=by
 simp[Act.put,h]
theorem put_get_both {a b:Act} {d:Option Tmp} {v:Value} {s:Nat} (hz:a.tmps.size=b.tmps.size) (h:a.tmps[s]? = b.tmps[s]?):(a.put d v).tmps[s]? = (b.put d v).tmps[s]? := by
 cases d with
 | none=>exact h
 | some t =>
  by_cases hts:t=s
  ·subst hts
   simp[Act.put,Array.getElem?_setIfInBounds,hz]
  ·rw[put_get_ne (by rintro _ ⟨rfl⟩;exact hts),put_get_ne (by rintro _ ⟨rfl⟩;exact hts)];exact h
theorem put_size (a:Act) (d:Option Tmp) (v:Value):(a.put d v).tmps.size=a.tmps.size:=by cases d <;> simp[Act.put]
theorem put_def (a:Act) (d:Option Tmp) (v:Value):(a.put d v).defers=a.defers:=by cases d <;> rfl
theorem heap_new (w:World) (o:Obj):(w.alloc o).heap[w.heap.size]? = some o:=by
 show(w.heap.push o)[w.heap.size]? = some o
 simp
theorem new_block {a w:World} (h:New a w) {b:Nat} {o:Obj} (hb:a.heap[b]? = some o):w.heap[b]? = some o:=by
 rw[h.block b (by rcases Nat.lt_or_ge b a.heap.size with q|q;exact q;rw[Array.getElem?_eq_none q]at hb;cases hb)];exact hb
structure Makes (P:Program) (ops:Array Oper) (n:Nat) (ms:List Made):Prop where
 run:∀ x∈ms,∃ o,ops[x.i]? = some o∧o.dst=some x.d∧o.guard=none∧∀ (e:Operand→Value) (w:World),(execOp e o).run P w=.ok (.value (.pointer (some ⟨w.heap.size,0,none⟩))) (w.alloc x.o)
 apart:∀ x∈ms,∀ j oj,j<n→ops[j]? = some oj→j∉ms.map (·.i)→x.d∉oj.looksAt ops∧oj.dst≠some x.d
 inj:∀ x∈ms,∀ y∈ms,x.i≠y.i→x.d≠y.d
theorem eval_same {ms:List Made} {listed:Array Bool} {av ar:Act} {w:World} (K:Keeps W ms listed av ar w) {o:Oper} (hs:∀ cs b,o.op≠.select cs b) (h:∀ x∈ms,x.d∉o.looksAt ops) :
  execOp ar.eval o=execOp av.eval o∧Region.wanted o (yielded ops ar.tmps)=Region.wanted o (yielded ops av.tmps):=by
 constructor
 ·refine execOp_congr o hs fun x hx=>?_
  cases x with
  | tmp t =>
   have:ar.tmps[t]? = av.tmps[t]? := K.same t fun y hy hyt=>h y hy (by subst hyt;exact List.mem_append_left _ (List.mem_filterMap.2 ⟨.tmp _,by simpa using hx,rfl⟩))
   simp only[Act.eval,Array.getD_eq_getD_getElem?,this]
  | _=>rfl
 ·unfold Region.wanted
  cases hg:o.guard with
  | none=>rfl
  | some gw =>
   obtain⟨g,want⟩:=gw
   have hy:yielded ops ar.tmps g=yielded ops av.tmps g:=by
    unfold yielded
    cases ht:(ops[g]?).bind (·.dst)with
    | none=>rfl
    | some t =>
     have:ar.tmps[t]? = av.tmps[t]? := K.same t fun y hy hyt=>h y hy (by subst hyt;simp[Oper.looksAt,hg,ht])
     show(match ar.tmps[t]? with|some (.bool b)=>some b|_=>none)=_
     rw[this]
     rfl
   simp only[hy]
theorem keeps_put {ms:List Made} {listed:Array Bool} {av ar:Act} {w w':World} {i:Nat} {dst:Option Tmp} {v:Value} (K:Keeps W ms listed av ar w) (hn:New w w') (hi:i∉ms.map (·.i)) (hd:∀ x∈ms,dst≠some x.d) :
  Keeps W ms (listed.setIfInBounds i true) (av.put dst v) (ar.put dst v) w':=by
 have hk:∀ x∈ms,(listed.setIfInBounds i true).getD x.i false=listed.getD x.i false:=fun x hx =>
  getD_set_ne false (fun e=>hi (List.mem_map.2 ⟨x,hx,e.symm⟩))
 have hs:∀ x∈ms,(ar.put dst v).tmps[x.d]? = ar.tmps[x.d]? := fun x hx=>put_get_ne fun t ht e=>hd x hx (by rw[ht,e])
 refine⟨K.new.trans hn,by rw[put_def,put_def,K.defers],by rw[put_size,put_size,K.size],fun x hx=>by rw[put_size];exact K.inb x hx,fun s h=>put_get_both K.size (K.same s h),fun x hx hl=>?_,fun x hx y hy hlx hly hne=>?_⟩
 ·rw[hk x hx]at hl
  obtain⟨b,hb,hh,hp⟩:=K.made x hx hl
  exact⟨b,hb,new_block hn hh,by rw[hs x hx];exact hp⟩
 ·rw[hk x hx]at hlx
  rw[hk y hy]at hly
  rw[hs x hx,hs y hy]
  exact K.unlike x hx y hy hlx hly hne
theorem keeps_made {ms:List Made} {listed:Array Bool} {av ar:Act} {w:World} (M:Makes P ops n ms) (K:Keeps W ms listed av ar w) {x:Made} (hx:x∈ms) (hun:listed.getD x.i false=false) :
  Keeps W ms (listed.setIfInBounds x.i true) (av.put (some x.d) undef) (ar.put (some x.d) (.pointer (some ⟨w.heap.size,0,none⟩))) (w.alloc x.o):=by
 have hk:∀ y∈ms,y.i≠x.i→(listed.setIfInBounds x.i true).getD y.i false=listed.getD y.i false:=fun y hy h=>getD_set_ne false (Ne.symm h)
 have hd:∀ y∈ms,y.i≠x.i→(ar.put (some x.d) (.pointer (some ⟨w.heap.size,0,none⟩))).tmps[y.d]? = ar.tmps[y.d]? := fun y hy h =>
  put_get_ne (by rintro _ ⟨rfl⟩ e;exact M.inj y hy x hx h e.symm)
 have hx':(ar.put (some x.d) (.pointer (some ⟨w.heap.size,0,none⟩))).tmps[x.d]? = some (.pointer (some ⟨w.heap.size,0,none⟩)):=put_get_eq (by rw[K.size];exact K.inb x hx)
 have same_d:∀ y∈ms,y.i=x.i→y.d=x.d∧y.o=x.o:=fun y hy e=>by
  obtain⟨o,ho,h1,_,h2⟩:=M.run y hy
  obtain⟨o',ho',h1',_,h2'⟩:=M.run x hx
  rw[e]at ho
  obtain rfl:o=o':=Option.some.inj (ho.symm.trans ho')
  refine⟨Option.some.inj (h1.symm.trans h1'),?_⟩
  have e1:=(h2 (fun _=>undef) W).symm.trans (h2' (fun _=>undef) W)
  have e2:(W.alloc y.o).heap[W.heap.size]? = (W.alloc x.o).heap[W.heap.size]? := by injection e1 with _ q;rw[q]
  rw[heap_new,heap_new]at e2
  exact Option.some.inj e2
 refine⟨K.new.trans (New.alloc (New.refl _) _),by rw[put_def,put_def,K.defers],by rw[put_size,put_size,K.size],fun y hy=>by rw[put_size];exact K.inb y hy,fun s h=>?_,fun y hy hl=>?_,fun y hy z hz hly hlz hne=>?_⟩
 ·rw[put_get_ne (by rintro _ ⟨rfl⟩;exact h x hx),put_get_ne (by rintro _ ⟨rfl⟩;exact h x hx)]
  exact K.same s h
 ·by_cases e:y.i=x.i
  ·obtain⟨e1,e2⟩:=same_d y hy e
   refine⟨w.heap.size,K.new.size,?_,by rw[e1];exact hx'⟩
   rw[e2];exact heap_new _ _
  ·rw[hk y hy e]at hl
   obtain⟨b,hb,hh,hp⟩:=K.made y hy hl
   exact⟨b,hb,new_block (New.alloc (New.refl _) _) hh,by rw[hd y hy e];exact hp⟩
 ·have lt:∀ y∈ms,y.i≠x.i→(listed.setIfInBounds x.i true).getD y.i false=true→ar.tmps[y.d]? ≠ some (.pointer (some ⟨w.heap.size,0,none⟩)):=fun y hy e hl h=>by
   rw[hk y hy e]at hl
   obtain⟨b,hb,hh,hp⟩:=K.made y hy hl
   rw[hp]at h
   injection h with h;injection h with h;injection h with h;injection h with h
   subst h
   rw[Array.getElem?_eq_none (Nat.le_refl _)]at hh
   cases hh
  by_cases e:y.i=x.i
  ·have e':z.i≠x.i:=fun h=>hne (e.trans h.symm)
   rw[(same_d y hy e).1,hx',hd z hz e']
   exact(lt z hz e' hlz).symm
  ·rw[hd y hy e]
   by_cases e':z.i=x.i
   ·rw[(same_d z hz e').1,hx']
    exact lt y hy e hly
   ·rw[hd z hz e']
    rw[hk y hy e]at hly
    rw[hk z hz e']at hlz
    exact K.unlike y hy z hz hly hlz hne
theorem wpAny_of_mild {ms:List Made} {g:Nat} {L:Array Bool→Act→Prop} {Q':Exit→Act→World→Prop} (M:Makes P ops n ms) (hsel:∀ (j:Nat) (o:Oper) cs b,ops[j]? = some o→o.op≠.select cs b)
  (hL:∀ listed av ar w,L listed av→Keeps W ms listed av ar w→wpAny P md ops Q' g listed ar w) :
  ∀ (f:Nat) (listed:Array Bool) (av ar:Act) (w:World),anyWalk P md ops W n (ms.map (·.i)) L f listed av→Keeps W ms listed av ar w→wpAny P md ops Q' (f+g) listed ar w
 | 0,listed,av,ar,w,h,K=>by rw[Nat.zero_add];exact hL _ _ _ _ h K
 | f+1,listed,av,ar,w,h,K=>by
  rw[show f+1+g=(f+g)+1 by omega]
  refine⟨fun h0=>absurd h0 h.1,fun i hi=>?_⟩
  obtain⟨hin,o,v,ho,hy,hr⟩:=h.2 i hi
  have on:=wpAny_of_mild M hsel hL f (listed.setIfInBounds i true)
  have hun:listed.getD i false=false:=getD_both (mem_ready.1 hi).1
  unfold wpOp
  simp only[ho]
  unfold Step at hy
  by_cases hial:i∈ms.map (·.i)
  ·rw[if_pos hial]at hy
   obtain⟨x,hx,rfl⟩:=List.mem_map.1 hial
   obtain⟨o',ho',hd,hg,hrun⟩:=M.run x hx
   obtain rfl:o=o':=Option.some.inj (ho.symm.trans ho')
   have hw:Region.wanted o (yielded ops ar.tmps)=true:=by unfold Region.wanted;rw[hg]
   rw[if_pos hw]
   refine .inl ?_
   unfold Oper.wp
   rw[hrun ar.eval w]
   simp only[Oper.upon]
   rw[hd]
   subst hy
   rw[hd]at hr
   exact on _ _ _ hr (keeps_made M K hx hun)
  ·rw[if_neg hial]at hy
   have hap:=fun x hx=>M.apart x hx i o hin ho hial
   obtain⟨e1,e2⟩:=eval_same K (hsel i o · · ho) (fun x hx=>(hap x hx).1)
   have hd:∀ x∈ms,o.dst≠some x.d:=fun x hx=>(hap x hx).2
   rw[e2]
   by_cases hw:Region.wanted o (yielded ops av.tmps)=true
   ·rw[if_pos hw]at hy ⊢
    refine .inl ?_
    have hm:=hy ⟨w,K.new⟩
    unfold Oper.quietAt at hm
    unfold Oper.wp
    rw[e1]
    generalize (execOp av.eval o).run P w=r at hm
    cases r with
    | ok nx w' =>
     cases nx <;> simp only[Oper.quietUpon]at hm <;> simp only[Oper.upon]
     case value u =>
      obtain⟨rfl,rfl⟩:=hm
      exact on _ _ _ hr (keeps_put K (New.refl _) hial hd)
     case skip =>
      obtain⟨rfl,rfl⟩:=hm
      exact on _ _ _ hr (keeps_put K (New.refl _) hial hd)
     case enter fn args =>
      obtain⟨rfl,hc⟩:=hm
      exact hc.mono fun e w'' ⟨he,hn⟩=>by subst he;exact on _ _ _ hr (keeps_put K hn hial hd)
    | halt x w'=>simp only[Oper.quietUpon]at hm
   ·rw[if_neg hw]at hy ⊢
    subst hy
    exact on _ _ _ hr (keeps_put K (New.refl _) hial hd)
def steadyB (ops:Array Oper) (n:Nat) (al:List Nat):Bool :=
 Region.noSelect ops&&(decide (n=ops.size)||(decide (n<ops.size)&&Region.sinkB .any ops n&&Region.chainB .any ops n))&&lexHeadB .any ops (ops.size - n) n al n 0 (Array.replicate ops.size false)
theorem wp_region_made {id:Nat} {Q:Exit→Act→World→Prop} {a:Act} {w:World} {l:List Oper} {ms:List Made} (hm:P.follows .mixedOrders=true) (hB:steadyB l.toArray n (ms.map (·.i))=true) (M:Makes P l.toArray n ms) (hin:∀ x∈ms,x.d<a.tmps.size)
  (h:mildWalk P l.toArray w (ms.map (·.i)) (fun av=>∀ listed ar w',(∀ x∈ms,listed.getD x.i false=true)→Keeps w ms listed av ar w'→wpList P l.toArray Q (l.drop n) ar w') 0 (l.take n) a):(Code.region id l.toArray true).wp P Q a w:=by
 simp only[steadyB,Bool.and_eq_true,Bool.or_eq_true,decide_eq_true_eq]at hB
 obtain⟨⟨hs,hn⟩,hlex⟩:=hB
 have hsel:=Region.noSelect_spec hs
 have hle:n≤l.length:=by
  have:l.toArray.size=l.length:=by simp
  rcases hn with hn|hn <;> omega
 have hW:Waits .any l.toArray n:=by
  rcases hn with rfl|⟨⟨h1,h2⟩,h3⟩
  ·exact waits_all
  ·exact waits_of h2 h3 h1
 have htl:(l.take n).length=n:=by simp;omega
 have hdl:(l.drop n).length=l.toArray.size - n:=by simp
 have inv0:HeadInv .any l.toArray n (Array.replicate l.toArray.size false) :=
  ⟨by simp,fun j oj _ hl=>(by rw[getD_replicate_false]at hl;cases hl),fun t _ ht=>getD_in (by simpa using ht) (getD_replicate_false _ _)⟩
 have H:=anyWalk_lex (md:=.any) (g:=l.toArray.size - n) hW hsel (l.take n) 0 _ a (fun j hj=>by
  have hj':j<n:=by rw[htl]at hj;exact hj
  simp[hj']) (by simpa using htl) inv0 (by rw[htl];exact hlex) h
 refine wp_region_any hm ?_
 have:=wpAny_of_mild (Q':=Q) (g:=l.toArray.size - n) M hsel (fun listed av ar w' hL K=>by
  have:=wpAny_of_seq (md:=.any) (Q':=Q) (l.drop n) n listed ar w' (fun j=>by simp[List.getElem?_drop]) (by rw[hdl];exact hL.1.2)
   (hL.2 listed ar w' (fun x hx=>by have:=List.all_eq_true.1 hL.1.1 x.i (List.mem_map.2 ⟨x,hx,rfl⟩);exact this) K)
  rwa [hdl]at this) _ _ _ _ _ H (⟨Below.drew (Below.refl _ w),rfl,rfl,hin,fun _ _=>rfl,(fun x _ hl=>by rw[getD_replicate_false]at hl;cases hl),(fun x _ y _ hl=>by rw[getD_replicate_false]at hl;cases hl)⟩:Keeps w ms _ a a { w with drawn:=w.drawn+1 })
 rw[htl,show n+(l.toArray.size - n)=l.toArray.size by simp;omega]at this
 exact this
theorem act_eq {a b:Act} (h:a.defers=b.defers) (k:∀ s:Nat,a.tmps[s]? = b.tmps[s]?):a=b:=by
 obtain⟨t,d⟩:=a
 obtain⟨t',d'⟩:=b
 obtain rfl:d=d':=h
 obtain rfl:t=t':=Array.ext_getElem? k
 rfl
theorem wp_region_steady {id:Nat} {Q:Exit→Act→World→Prop} {a:Act} {w:World} {l:List Oper} (n:Nat) (hm:P.follows .mixedOrders=true) (hB:steadyB l.toArray n []=true)
  (h:(∀ (x:Hat w) (b o:Nat),(w.cell? ⟨b,o,none⟩).isSome=true→x.w.cell? ⟨b,o,none⟩=w.cell? ⟨b,o,none⟩)→(∀ (x:Hat w) (b o:Nat),(w.cell? ⟨b,o,none⟩).isSome=true→x.w.frozen? ⟨b,o,none⟩=w.frozen? ⟨b,o,none⟩)→mildWalk P l.toArray w [] (fun av=>∀ x:Hat w,wpList P l.toArray Q (l.drop n) av x.w) 0 (l.take n) a):(Code.region id l.toArray true).wp P Q a w:=by
 refine wp_region_made (ms:=[]) hm hB ⟨(fun _ h=>nomatch h),(fun _ h=>nomatch h),(fun _ h=>nomatch h)⟩ (fun _ h=>nomatch h) ?_
 have e:(fun av=>∀ listed ar w',(∀ x∈([]:List Made),listed.getD x.i false=true)→Keeps w [] listed av ar w'→wpList P l.toArray Q (l.drop n) ar w')=(fun av=>∀ x:Hat w,wpList P l.toArray Q (l.drop n) av x.w):=by
  funext av
  refine propext ⟨fun h x=>h #[] av x.w (fun _ h=>(nomatch h)) ⟨x.h,rfl,rfl,(fun _ h=>nomatch h),(fun _ _=>rfl),(fun _ h=>nomatch h),(fun _ h=>nomatch h)⟩,fun h _ ar w' _ K=>?_⟩
  rw[act_eq K.defers fun s=>K.same s fun _ h=>nomatch h]
  exact h ⟨w',K.new⟩
 rw[show List.map (·.i) ([]:List Made)=[]from rfl,e]
 exact h hat_cell hat_frozen
def makesB (ops:Array Oper) (n i d:Nat):Bool :=
 (List.range n).all fun j=>j==i||match ops[j]? with|some o => !(o.looksAt ops).contains d&&o.dst != some d|none=>true
theorem makes_one {i d:Nat} {o:Oper} {ob:Obj} (ho:ops[i]? = some o) (hd:o.dst=some d) (hg:o.guard=none) (hr:∀ (e:Operand→Value) (w:World),(execOp e o).run P w=.ok (.value (.pointer (some ⟨w.heap.size,0,none⟩))) (w.alloc ob)) (hB:makesB ops n i d=true) :
  Makes P ops n [⟨i,d,ob⟩]:=by
 refine⟨fun x hx=>?_,fun x hx j oj hj hoj hji=>?_,fun x hx y hy hne=>?_⟩
 ·obtain rfl:=List.mem_singleton.1 hx
  exact⟨o,ho,hd,hg,hr⟩
 ·obtain rfl:=List.mem_singleton.1 hx
  have h1:=List.all_eq_true.1 hB j (List.mem_range.2 hj)
  have hji':j≠i:=fun e=>hji (by simp[e])
  simp only[hoj,Bool.or_eq_true,beq_iff_eq,hji',false_or,Bool.and_eq_true,Bool.not_eq_true',bne_iff_ne]at h1
  exact⟨fun h=>by have:=h1.1;simp[h]at this,h1.2⟩
 ·obtain rfl:=List.mem_singleton.1 hx
  obtain rfl:=List.mem_singleton.1 hy
  exact absurd rfl hne
theorem wp_region_steady2 {id:Nat} {Q:Exit→Act→World→Prop} {a:Act} {w:World} {l:List Oper} (n i d i' d':Nat) {o o':Oper} {ob ob':Obj} (hm:P.follows .mixedOrders=true) (hB:steadyB l.toArray n [i,i']=true) (hii:i≠i') (hdd:d≠d')
  (ho:l.toArray[i]? = some o) (hd:o.dst=some d) (hg:o.guard=none) (hr:∀ (e:Operand→Value) (w:World),(execOp e o).run P w=.ok (.value (.pointer (some ⟨w.heap.size,0,none⟩))) (w.alloc ob)) (hM:makesB l.toArray n i d=true) (hin:d<a.tmps.size)
  (ho':l.toArray[i']? = some o') (hd':o'.dst=some d') (hg':o'.guard=none) (hr':∀ (e:Operand→Value) (w:World),(execOp e o').run P w=.ok (.value (.pointer (some ⟨w.heap.size,0,none⟩))) (w.alloc ob')) (hM':makesB l.toArray n i' d'=true) (hin':d'<a.tmps.size)
  (h:(∀ (x:Hat w) (b o:Nat),(w.cell? ⟨b,o,none⟩).isSome=true→x.w.cell? ⟨b,o,none⟩=w.cell? ⟨b,o,none⟩)→(∀ (x:Hat w) (b o:Nat),(w.cell? ⟨b,o,none⟩).isSome=true→x.w.frozen? ⟨b,o,none⟩=w.frozen? ⟨b,o,none⟩)→mildWalk P l.toArray w [i,i'] (fun av=>∀ (x:Hat w) (b b':Nat),w.heap.size≤b→w.heap.size≤b'→b≠b'→x.w.heap[b]? = some ob→x.w.heap[b']? = some ob'→wpList P l.toArray Q (l.drop n) ((av.put (some d) (.pointer (some ⟨b,0,none⟩))).put (some d') (.pointer (some ⟨b',0,none⟩))) x.w) 0 (l.take n) a):(Code.region id l.toArray true).wp P Q a w:=by
 have M1:=makes_one ho hd hg hr hM
 have M2:=makes_one ho' hd' hg' hr' hM'
 have two:∀ x:Made,x∈[(⟨i,d,ob⟩:Made),⟨i',d',ob'⟩]→x=⟨i,d,ob⟩∨x=⟨i',d',ob'⟩:=fun x hx=>by simpa using hx
 refine wp_region_made (ms:=[⟨i,d,ob⟩,⟨i',d',ob'⟩]) hm hB ⟨fun x hx=>?_,fun x hx j oj hj hoj hji=>?_,fun x hx y hy hne=>?_⟩ (fun x hx=>by rcases two x hx with rfl|rfl;exact hin;exact hin') ?_
 ·rcases two x hx with rfl|rfl
  ·exact M1.run _ (List.mem_singleton.2 rfl)
  ·exact M2.run _ (List.mem_singleton.2 rfl)
 ·have hj1:j∉List.map (·.i) [(⟨i,d,ob⟩:Made)]:=fun h=>hji (by simp at h ⊢;exact Or.inl h)
  have hj2:j∉List.map (·.i) [(⟨i',d',ob'⟩:Made)]:=fun h=>hji (by simp at h ⊢;exact Or.inr h)
  rcases two x hx with rfl|rfl
  ·exact M1.apart _ (List.mem_singleton.2 rfl) j oj hj hoj hj1
  ·exact M2.apart _ (List.mem_singleton.2 rfl) j oj hj hoj hj2
 ·rcases two x hx with rfl|rfl <;> rcases two y hy with rfl|rfl
  ·exact absurd rfl hne
  ·exact hdd
  ·exact Ne.symm hdd
  ·exact absurd rfl hne
 refine mildWalk_mono (fun av h=>?_) _ _ _ (h hat_cell hat_frozen)
 intro listed ar w' hl K
 have m1:(⟨i,d,ob⟩:Made)∈[(⟨i,d,ob⟩:Made),⟨i',d',ob'⟩]:=by simp
 have m2:(⟨i',d',ob'⟩:Made)∈[(⟨i,d,ob⟩:Made),⟨i',d',ob'⟩]:=by simp
 obtain⟨b,hb,hh,hp⟩:=K.made _ m1 (hl _ m1)
 obtain⟨b',hb',hh',hp'⟩:=K.made _ m2 (hl _ m2)
 have hi:=K.inb _ m1
 have hi':=K.inb _ m2
 have hne:b≠b':=fun e=>K.unlike _ m1 _ m2 (hl _ m1) (hl _ m2) hii (by rw[hp,hp',e])
 have e:ar=(av.put (some d) (.pointer (some ⟨b,0,none⟩))).put (some d') (.pointer (some ⟨b',0,none⟩)):=act_eq (by rw[K.defers,put_def,put_def]) fun s=>by
  by_cases hs':d'=s
  ·subst hs';rw[put_get_eq (by rw[put_size];exact hi')];exact hp'
  ·rw[put_get_ne (by rintro _ ⟨rfl⟩;exact hs')]
   by_cases hs:d=s
   ·subst hs;rw[put_get_eq hi];exact hp
   ·rw[put_get_ne (by rintro _ ⟨rfl⟩;exact hs)];exact K.same s fun x hx=>by rcases two x hx with rfl|rfl;exact hs;exact hs'
 rw[e]
 exact h ⟨w',K.new⟩ b b' hb hb' hne hh hh'
theorem cell_of_heap {w:World} {b o:Nat} {cs:Array Value} {t:TypeId} {f:Nat×Nat} {v:Value} (h:w.heap[b]? = some (.cells cs t f)) (hv:cs[o]? = some v):w.cell? ⟨b,o,none⟩=some v:=by
 simp[World.cell?,h,hv]
theorem frozen_of_heap {w:World} {b o:Nat} {cs:Array Value} {t:TypeId} (h:w.heap[b]? = some (.cells cs t (0,0))):w.frozen? ⟨b,o,none⟩=false:=by
 simp[World.frozen?,h]
end
theorem newGrown {a w w':World} {row:Option Nat} (h:New a w) (hg:w.grownBy w' row) (hr:∀ k,row=some k→a.heap.size≤k):New a w':=Below.grown h hg h.size hr
theorem own_new {w w':World} {base size:Nat} {e:TypeId} {v:Value} {n:Nat} {xs:List Value} (h:w.ownsRow base e size v n xs) (hn:New w w'):w'.ownsRow base e size v n xs:=by
 obtain⟨h1,h2⟩:=h
 refine⟨h1,h2.imp id ?_⟩
 rintro⟨g,cap,cur,rfl,hb,hg,r⟩
 exact⟨g,cap,cur,rfl,hb,new_block' hn hg,r⟩
where
 new_block' {a w:World} (h:New a w) {b:Nat} {o:Obj} (hb:a.heap[b]? = some o):w.heap[b]? = some o:=by
  rw[h.block b (by rcases Nat.lt_or_ge b a.heap.size with q|q;exact q;rw[Array.getElem?_eq_none q]at hb;cases hb)];exact hb
theorem own_block {w:World} {base size:Nat} {e:TypeId} {v:Value} {n:Nat} {xs:List Value} (h:w.ownsRow base e size v n xs):∀ k,v.ownBlock=some k→base≤k:=by
 rintro k hk
 rcases h.2 with ⟨rfl,_⟩|⟨g,cap,cur,rfl,hb,_⟩
 ·cases hk
 ·have e1:g=k:=by simpa [Value.ownBlock]using hk
  omega
section
variable {α:Type}
theorem flatMap_len {enc:α→List Value} {k:Nat} (hk:∀ a,(enc a).length=k):∀ l:List α,(l.flatMap enc).length=l.length*k
 | []=>by simp
 | a::l=>by rw[List.flatMap_cons,List.length_append,flatMap_len hk l,hk,List.length_cons,Nat.add_mul];omega
theorem flatMap_get {enc:α→List Value} {k:Nat} (hk:∀ a,(enc a).length=k):∀ (l:List α) (j:Nat) (h:j<l.length) (i:Nat),i<k→(l.flatMap enc)[j*k+i]? = (enc l[j])[i]?
 | a::l,0,_,i,hi=>by
  rw[List.flatMap_cons,Nat.zero_mul,Nat.zero_add,List.getElem?_append_left (by rw[hk];exact hi)]
  rfl
 | a::l,j+1,h,i,hi=>by
  rw[List.flatMap_cons,List.getElem?_append_right (by rw[hk,Nat.add_mul];omega),hk,show(j+1)*k+i - k=j*k+i by rw[Nat.add_mul];omega]
  exact flatMap_get hk l j (by simpa using h) i hi
theorem own_sl {enc:α→List Value} {k:Nat} (hk:∀ a,(enc a).length=k) {w:World} {base:Nat} {e:TypeId} {v:Value} {l:List α} (h:w.ownsRow base e k v l.length (l.flatMap enc)):Sl enc k w v l:=by
 rcases h.2 with ⟨rfl,h0⟩|⟨g,cap,cur,rfl,hb,hg,hc,hm,_⟩
 ·obtain rfl:=List.eq_nil_of_length_eq_zero h0
  exact Sl.nil
 ·refine⟨some ⟨g,0,none⟩,cap,rfl,hc,hm,fun h=>(by cases h),fun _=>⟨g,0,rfl,fun j hj i hi=>?_⟩⟩
  have hik:i<k:=by rw[←hk l[j]];exact hi
  have hlt:j*k+i<l.length*k:=by
   have:=Nat.mul_le_mul_right k (show j+1≤l.length from hj)
   rw[Nat.add_mul]at this
   omega
  have a:=World.ownsRow.cellAt h (j*k+i) (by omega)
  rw[flatMap_get hk l j hj i hik]at a
  rw[Nat.zero_add,a,List.getElem?_eq_getElem hi]
structure Part (α:Type) where
 a:Option Addr
 l:List α
 c:Nat
def PartsAt (enc:α→List Value) (k:Nat) (w:World) (b:Nat) (ps:List (Part α)):Prop:=∀ j (h:j<ps.length),w.cell? ⟨b,j,none⟩=some (.slice ps[j].a ps[j].l.length ps[j].c)∧Sl enc k w (.slice ps[j].a ps[j].l.length ps[j].c) ps[j].l
theorem PartsAt.keep {enc:α→List Value} {k:Nat} {w w':World} {b:Nat} {ps:List (Part α)} (h:PartsAt enc k w b ps) (hn:New w w'):PartsAt enc k w' b ps:=fun j hj=>⟨hn.keep (h j hj).1,(h j hj).2.keep hn⟩
def cat (ps:List (Part α)) (i:Nat):List α:=(ps.take i).flatMap (·.l)
theorem cat_succ (ps:List (Part α)) (i:Nat) (h:i<ps.length):cat ps (i+1)=cat ps i++ps[i].l:=by
 unfold cat
 rw[List.take_succ_eq_append_getElem h,List.flatMap_append]
 simp
theorem cat_all (ps:List (Part α)):cat ps ps.length=ps.flatMap (·.l):=by unfold cat;rw[List.take_length]
theorem cat_le (ps:List (Part α)):∀ i,(cat ps i).length≤(ps.flatMap (·.l)).length:=fun i=>by
 unfold cat
 conv=>rhs;rw[←List.take_append_drop i ps,List.flatMap_append,List.length_append]
 omega
theorem sl_news {enc:α→List Value} {k:Nat} (hk:∀ a,(enc a).length=k) {w:World} {ad:Addr} {c:Nat} {l:List α} (h:Sl enc k w (.slice (some ad) l.length c) l):∀ j u,(l.flatMap enc)[j]? = some u→w.cell? (ad.add j)=some u:=by
 intro j u hu
 have hj:j<l.length*k:=by
  have:=(List.getElem?_eq_some_iff.1 hu).1
  rwa [flatMap_len hk]at this
 have h0:0<l.length:=by
  rcases Nat.eq_zero_or_pos l.length with q|q
  ·rw[q,Nat.zero_mul]at hj;omega
  ·exact q
 obtain⟨b,off,e,hA⟩:=h.row.2.2.2.2 h0
 injection e with e
 subst e
 have hk0:0<k:=by
  rcases Nat.eq_zero_or_pos k with q|q
  ·rw[q,Nat.mul_zero]at hj;omega
  ·exact q
 have hq:j / k<l.length:=Nat.div_lt_of_lt_mul (by rw[Nat.mul_comm];exact hj)
 have hr:j % k<k:=Nat.mod_lt _ hk0
 have e1:j=j / k*k+j % k:=by rw[Nat.mul_comm];exact(Nat.div_add_mod j k).symm
 have h1:=flatMap_get hk l (j / k) hq (j % k) hr
 rw[←e1,hu]at h1
 have h2:=hA (j / k) hq (j % k) (by rw[hk];exact hr)
 rw[Addr.add_lit,show off+j=off+j / k*k+j % k by omega,h2,h1,List.getElem?_eq_getElem]
end
theorem sn_info:(Tryz.prog.info? 180).map (fun i=>(i.zero,i.size,i.bytes))=some (some (.agg #[.int .i64 Sn.zero.lo,.int .i64 Sn.zero.hi,.bool Sn.zero.wk]),3,24):=by kernel_rfl
def sn_Grown (n:Nat) (w:World) (e:Ending) (w':World):Prop:=∃ v,e=.returned v∧w'.ownsRow w.heap.size 180 3 v 0 []∧New w w'
theorem sn_grow (n:Nat) (hn:n≤1000) (w:World):Calls Tryz.prog 233 #[.slice none 0 0,.int .i64 n] w (sn_Grown n w):=by
 have h1:¬ ((n:Int)<0):=by omega
 rcases Nat.eq_zero_or_pos n with rfl|h0
 ·go_enter Tryz.func233,Tryz.ntmps233
  go_wp2_with fail
  go_ret
  exact⟨_,rfl,World.ownsRow_nil _ _ _ _,New.refl _⟩
 ·obtain⟨i,hi,hz0,hz1,hz2⟩:=info_parts sn_info
  have hr:∀ ty,(Builtin.append_ #[147,3] ty #[.slice none 0 0,.int .i64 (n:Int)]).run Tryz.prog w=_:=fun ty =>
   Lib.run_append_nil_zeros w 147 3 ty 180 i _ .i64 .i64 Tryz.underlying147 Tryz.underlying3 hi hz0 n h0 (by rw[hz1];omega) (by omega) (by rw[hz2];omega)
  have hge:n≤grownCap w n 0 180:=grownCap_ge w _ _ _
  have hle:grownCap w n 0 180≤maxLen:=grownCap_le_maxLen w n 0 180 (by unfold maxLen;omega)
  obtain⟨G,hG⟩:∃ G,G=grownCap w n 0 180:=⟨_,rfl⟩
  rw[←hG]at hr hge hle
  have HLE:=Lib.hid hle
  unfold maxLen at hle
  have h2:(0:Int)<(n:Int):=by omega
  clear hG
  go_enter Tryz.func233,Tryz.ntmps233
  go_wp2_with (at_builtin;refine Lib.wpList_append_run _ rfl _ _ _ _ rfl _ _ rfl rfl _ _ (hr _) ?_)
  go_ret
  refine⟨_,rfl,⟨by simp,Or.inr ⟨w.heap.size,G,_,rfl,Nat.le_refl _,heap_new w.drew _,Nat.zero_le _,HLE.out,?_,by simp⟩⟩,(New.refl w).drew.alloc _⟩
  rw[Array.size_append,size_zeroCells,size_zeroCells]
  show n*3+(G - n)*3=G*3
  omega
theorem sn_some {snr:Option Addr} (h:¬ snr=none):∃ a,snr=some a:=by
 cases snr with
 | none=>exact absurd rfl h
 | some a=>exact⟨a,rfl⟩
theorem sn_concat (B c:Nat) (ps:List (Part Sn)) (hps:ps.length≤10) (htot:(ps.flatMap (·.l)).length≤1000) (w:World) (H:PartsAt Sn.enc 3 w B ps) :
  Calls Tryz.prog 199 #[.slice (some ⟨B,0,none⟩) ps.length c] w fun e w'=>∃ v,e=.returned v∧w'.ownsRow w.heap.size 180 3 v (ps.flatMap (·.l)).length ((ps.flatMap (·.l)).flatMap Sn.enc)∧New w w':=by
 obtain⟨i0,hi,hz0,hz1,hz2⟩:=info_parts sn_info
 have HH:=Lib.hid H
 clear H
 go_enter Tryz.func199,Tryz.ntmps199
 go_wp2_with fail
 go_loopg [3,11] ps.length (fun k s t wr=>∃ i:Nat,t=.int .i64 i∧i+k=ps.length∧s=.int .i64 (cat ps i).length∧wr=w)
 case atStart=>exact⟨0,by simp,by omega,by simp[cat],rfl⟩
 case round =>
  obtain⟨i,rfl,hik,rfl,hw⟩:=hrel
  obtain rfl:w=wr:=hw.symm
  by_cases hlt:i<ps.length
  ·have c0:=(HH.out i hlt).1
   have hcs:=cat_succ ps i hlt
   have hle:=cat_le ps (i+1)
   rw[hcs,List.length_append]at hle
   have HCS:=Lib.hid hcs
   have hd:decide ((cat ps i).length+ps[i].l.length<(0:Int))=false:=by simp;omega
   clear hcs
   go_wp2_with fail
   go_roundg (gk - 1)
   case measure=>omega
   case rel=>exact⟨i+1,by go_num,by omega,by rw[HCS.out,List.length_append];go_num,rfl⟩
  ·obtain rfl:i=ps.length:=by omega
   have HC:=Lib.hid (cat_all ps)
   have hg:=Lib.hid (sn_grow (cat ps ps.length).length (by rw[HC.out];exact htot) w)
   generalize (cat ps ps.length).length=N at *
   go_wp2_with fail
   refine hg.out.mono ?_
   rintro e w1 ⟨v,rfl,hown,n1⟩
   have OW:=Lib.hid hown
   clear hown hg
   go_wp2_with fail
   clear hik hlt
   have HP:=Lib.hid (HH.out.keep n1)
   go_loopg [6,27] ps.length (fun k s t wr=>∃ i:Nat,t=.int .i64 i∧i+k=ps.length∧wr.ownsRow w.heap.size 180 3 s (cat ps i).length ((cat ps i).flatMap Sn.enc)∧New w wr)
   case atStart=>exact⟨0,by simp,by omega,by simpa [cat]using OW.out,n1⟩
   case round =>
    clear OW n1
    obtain⟨i,rfl,hik,hown,hn⟩:=hrel
    have OW:=Lib.hid hown
    clear hown
    by_cases hlt:i<ps.length
    ·have hp:=HH.out.keep hn i hlt
     have c0:=hp.1
     have hcs:=cat_succ ps i hlt
     have hle:=cat_le ps (i+1)
     rw[hcs,List.length_append]at hle
     have HCS:=Lib.hid hcs
     have HS:=Lib.hid hp.2
     have HB:=hn.size
     clear hcs hp
     by_cases hnone:ps[i].a=none
     ·have hrow:=HS.out.row
      have hc0:=hrow.2.2.2.1 hnone
      have hl0:ps[i].l=[]:=List.eq_nil_of_length_eq_zero (by omega)
      rw[hnone,hc0,hl0]at c0
      simp only[List.length_nil]at c0
      have HL:=Lib.hid hl0
      clear hrow hc0 hl0 hnone
      go_wp2_with (at_builtin;refine Lib.wpList_append_run _ rfl _ _ _ _ rfl _ _ rfl rfl _ _ (run_append_owned_none (P:=Tryz.prog) wr w.heap.size 147 _ 180 i0 3 Tryz.underlying147 hi _ _ _ OW.out) ?_)
      go_roundg (gk - 1)
      case measure=>omega
      case rel=>exact⟨i+1,by go_num,by omega,by rw[HCS.out,HL.out,List.append_nil];exact OW.out,hn⟩
     ·obtain⟨ad,had⟩:=sn_some hnone
      rw[had]at c0 HS
      clear hnone had
      go_wp2_with (at_builtin;refine wpList_append_own _ rfl _ _ 147 rfl w.heap.size 180 i0 (.agg #[.int .i64 Sn.zero.lo,.int .i64 Sn.zero.hi,.bool Sn.zero.wk]) 3 24 Tryz.underlying147 hi hz0 hz1 hz2 rfl (by decide) _ _ _ rfl OW.out ad _ _ (ps[i].l.flatMap Sn.enc) rfl (flatMap_len Sn.enc_len _) (sl_news Sn.enc_len HS.out) (fun u hu=>by obtain⟨x,_,hx⟩:=List.mem_flatMap.1 hu;exact Sn.enc_one x u hx) (by unfold maxLen;omega) (by omega) HB ?_;intro v' w2 hown' hgrow _)
      have hn2:New w w2:=newGrown hn hgrow (own_block OW.out)
      have OW2:=Lib.hid hown'
      clear hown' hgrow OW c0
      go_roundg (gk - 1)
      case measure=>omega
      case rel=>exact⟨i+1,by go_num,by omega,by rw[HCS.out,List.length_append,List.flatMap_append];exact OW2.out,hn2⟩
    ·obtain rfl:i=ps.length:=by omega
     go_wp2_with fail
     go_ret
     exact⟨_,rfl,by have:=OW.out;rwa [HC.out]at this,hn⟩
end Go.Proofs.YtmhghnbgllaihaaGreatDoor
