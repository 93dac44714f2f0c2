import Derived.Test.YtmhghnbgllaihaaGreatDoorSoLSP2Z2
import Derived.Deep.LoopGhost
import Derived.Test.YtmhghnbgllaihaaGreatDoorSoXFP2Z2
import Derived.RowKit
set_option linter.unusedVariables false
set_option linter.unusedSimpArgs false
set_option maxHeartbeats 16000000
set_option maxRecDepth 100000

namespace Go.Proofs.YtmhghnbgllaihaaGreatDoor
open Go.RowKit
section
variable {P:Program} {ops:Array Oper} {W:World} {n:Nat}
def Comes (P:Program) (R:Value→World→Prop):Result Next→Prop
 | .ok (.value v) w'=>R v w'
 | .ok (.enter f args) w'=>Calls P f args w' fun e w''=>∃ v,e=.returned v∧R v w''
 | _=>False
def Yields (P:Program) (o:Oper) (a:Act) (w:World) (R:Value→World→Prop):Prop:=Comes P R ((execOp a.eval o).run P w)
theorem yields_wp {o:Oper} {a:Act} {w:World} {R:Value→World→Prop} {K:Act→World→Prop} {Q:Exit→Act→World→Prop} (h:Yields P o a w R) (hK:∀ v w',R v w'→K (a.put o.dst v) w'):o.wp P a w K Q:=by
 unfold Yields at h
 unfold Oper.wp
 generalize (execOp a.eval o).run P w=r at h
 cases r with
 | ok nx w' =>
  cases nx <;> simp only[Comes]at h <;> simp only[Oper.upon]
  case value v=>exact hK _ _ h
  case enter f args=>exact h.mono fun e w'' ⟨v,he,hr⟩=>by subst he;exact hK _ _ hr
 | halt x w'=>simp only[Comes]at h
theorem yields_value {o:Oper} {a:Act} {w w':World} {R:Value→World→Prop} (v:Value) (hr:(execOp a.eval o).run P w=.ok (.value v) w') (h:R v w'):Yields P o a w R:=by
 unfold Yields;rw[hr];exact h
theorem yields_enter {o:Oper} {a:Act} {w w':World} {R:Value→World→Prop} (f:FuncId) (args:Array Value) (hr:(execOp a.eval o).run P w=.ok (.enter f args) w') (h:Calls P f args w' fun e w''=>∃ v,e=.returned v∧R v w''):Yields P o a w R:=by
 unfold Yields;rw[hr];exact h
def chain2B (ops:Array Oper) (n:Nat):Bool :=
 (List.range ops.size).all fun t=>decide (t≤n)||(List.range t).any fun j=>decide (n≤j)&&Region.waitsFor .any ops t j
theorem tail_waits2 {listed:Array Bool} (hs:Region.sinkB .any ops n=true) (hc:chain2B ops n=true) (hn:n<ops.size) (inv:HeadInv .any ops n listed) (i:Nat) (hi:i<n) (hun:listed.getD i true=false) :
  ∀ t,n≤t→t∉Region.ready .any ops listed:=by
 intro t ht hr
 obtain⟨_,ot,hot,hall⟩:=mem_ready.1 hr
 have htlt:t<ops.size:=(Array.getElem?_eq_some_iff.1 hot).1
 by_cases htn:t=n
 ·subst htn
  have key:∀ (d i:Nat),t - i=d→i<t→listed.getD i true=false→False:=by
   intro d
   induction d using Nat.strongRecOn with
   | _ d ih =>
    intro i hd hi hun
    have h1:=List.all_eq_true.1 hs i (List.mem_range.2 hi)
    obtain⟨j,hj,hj2⟩:=List.any_eq_true.1 h1
    simp only[Bool.and_eq_true,decide_eq_true_eq]at hj2
    obtain⟨oj,hoj,e,he,hb,hon⟩:=Region.waitsFor_spec hj2.2
    have hjle:j≤t:=by have:=List.mem_range.1 hj;omega
    by_cases hjt:j=t
    ·subst hjt
     have:oj=ot:=Option.some.inj (hoj.symm.trans hot)
     subst this
     have h2:=hall e he hb
     rw[hon,getD_both hun]at h2
     cases h2
    ·cases hl:listed.getD j false with
     | true =>
      have h2:=inv.closed j oj hoj hl e he hb
      rw[hon,getD_both hun]at h2
      cases h2
     | false =>
      have hjs:j<listed.size:=by rw[inv.size];omega
      exact ih (t - j) (by omega) j rfl (by omega) (getD_in hjs hl)
  exact key _ i rfl hi hun
 ·have h1:=List.all_eq_true.1 hc t (List.mem_range.2 htlt)
  simp only[Bool.or_eq_true,decide_eq_true_eq]at h1
  rcases h1 with h1|h1
  ·omega
  ·obtain⟨j,hj,hj2⟩:=List.any_eq_true.1 h1
   simp only[Bool.and_eq_true,decide_eq_true_eq]at hj2
   have hjt:=List.mem_range.1 hj
   obtain⟨o',ho',e,he,hb,hon⟩:=Region.waitsFor_spec hj2.2
   have:o'=ot:=Option.some.inj (ho'.symm.trans hot)
   subst this
   have h2:=hall e he hb
   rw[hon,getD_both (inv.tail j hj2.1 (by omega))]at h2
   cases h2
def toCome (listed:Array Bool):Nat→Nat
 | 0=>0
 | k+1=>(if listed.getD k false=true then 0 else 1)+toCome listed k
theorem toCome_out {listed:Array Bool} {i:Nat}:∀ k,k≤i→toCome (listed.setIfInBounds i true) k=toCome listed k
 | 0,_=>rfl
 | k+1,h=>by
  unfold toCome
  rw[toCome_out k (by omega),getD_set_ne false (by omega)]
theorem toCome_set {listed:Array Bool} {i:Nat} (hs:i<listed.size) (hun:listed.getD i false=false):∀ k,i<k→toCome (listed.setIfInBounds i true) k+1=toCome listed k
 | 0,h=>by omega
 | k+1,h=>by
  unfold toCome
  by_cases hik:i=k
  ·subst hik
   rw[toCome_out _ (Nat.le_refl _),hun]
   have:(listed.setIfInBounds i true).getD i false=true:=by simp[Array.getD_eq_getD_getElem?,hs]
   rw[this]
   simp
   omega
  ·rw[getD_set_ne false hik]
   have:=toCome_set hs hun k (by omega)
   omega
theorem toCome_zero {listed:Array Bool}:∀ k,toCome listed k=0→∀ j,j<k→listed.getD j false=true
 | 0,_,j,hj=>by omega
 | k+1,h,j,hj=>by
  unfold toCome at h
  by_cases hl:listed.getD k false=true
  ·by_cases hjk:j=k
   ·subst hjk;exact hl
   ·exact toCome_zero k (by omega) j (by omega)
  ·rw[if_neg hl]at h
   exact absurd h (by omega)
theorem toCome_some {listed:Array Bool}:∀ k,0<toCome listed k→∃ j,j<k∧listed.getD j false=false
 | 0,h=>by simp[toCome]at h
 | k+1,h=>by
  by_cases hl:listed.getD k false=true
  ·unfold toCome at h
   rw[if_pos hl]at h
   obtain⟨j,hj,hf⟩:=toCome_some (listed:=listed) k (by omega)
   exact⟨j,by omega,hf⟩
  ·exact⟨k,by omega,by simpa using hl⟩
def restsB (ops:Array Oper) (n t:Nat):Bool:=(List.range n).all fun j=>match ops[j]? with|some o=>o.dst != some t|none=>true
def opB (ops:Array Oper) (n sz j:Nat):Bool:=match ops[j]? with
 | some o=>o.guard.isNone&&(match o.dst with
  | some d=>decide (d<sz)&&(List.range n).all fun k=>k==j||match ops[k]? with|some o'=>o'.dst != some d|none=>true
  | none=>false)&&o.after.all fun e => !Region.binds .any e||decide (e.on<j)
 | none=>false
def heads (sz n:Nat):Array Bool:=((List.range sz).map fun j=>decide (j<n)).toArray
def looseB (ops:Array Oper) (n sz:Nat):Bool :=
 Region.sinkB .any ops n&&chain2B ops n&&decide (n<ops.size)&&(List.range n).all (opB ops n sz)&&Region.seqB .any ops (ops.size - n) n (heads ops.size n)
theorem opB_spec {sz j:Nat} (h:opB ops n sz j=true):∃ o d,ops[j]? = some o∧o.guard=none∧o.dst=some d∧d<sz∧(∀ k o',k<n→k≠j→ops[k]? = some o'→o'.dst≠some d)∧∀ e∈o.after,Region.binds .any e=true→e.on<j:=by
 unfold opB at h
 split at h
 ·rename_i o ho
  simp only[Bool.and_eq_true]at h
  obtain⟨⟨h1,h2⟩,h3⟩:=h
  split at h2
  ·rename_i d hd
   simp only[Bool.and_eq_true,decide_eq_true_eq]at h2
   refine⟨o,d,ho,by simpa using h1,hd,h2.1,fun k o' hk hkj hok hd'=>?_,fun e he hb=>?_⟩
   ·have h4:=List.all_eq_true.1 h2.2 k (List.mem_range.2 hk)
    simp only[hok,Bool.or_eq_true,beq_iff_eq,hkj,false_or,bne_iff_ne]at h4
    exact h4 hd'
   ·have h5:=Array.all_eq_true_iff_forall_mem.1 h3 e he
    simpa [hb]using h5
  ·cases h2
 ·cases h
structure LInv (ops:Array Oper) (W:World) (n:Nat) (V:Nat→World→Value→Prop) (a:Act) (listed:Array Bool) (a':Act) (w':World):Prop where
 new:New W w'
 defs:a'.defers=a.defers
 size:a'.tmps.size=a.tmps.size
 same:∀ s,(∀ j oj,j<n→ops[j]? = some oj→oj.dst≠some s)→a'.tmps[s]? = a.tmps[s]?
 held:∀ j oj d,j<n→ops[j]? = some oj→listed.getD j false=true→oj.dst=some d→V j w' (a'.eval (.tmp d))
theorem eval_get (a:Act) (t:Nat):a.eval (.tmp t)=(a.tmps[t]?).getD undef:=by
 show a.tmps.getD t undef=_
 rw[Array.getD_eq_getD_getElem?]
def waitsB (o:Oper) (j:Nat):Bool:=o.after.any fun e=>Region.binds .any e&&e.on==j
theorem wpAny_loose {V:Nat→World→Value→Prop} {a:Act} {Q:Exit→Act→World→Prop} {g:Nat} (hs:Region.sinkB .any ops n=true) (hc:chain2B ops n=true) (hlt:n<ops.size) (ho:∀ j,j<n→opB ops n a.tmps.size j=true)
  (hV:∀ i w w' v,V i w v→New w w'→V i w' v)
  (hstep:∀ i o,i<n→ops[i]? = some o→∀ a' w',New W w'→(∀ t,restsB ops n t=true→a'.eval (.tmp t)=a.eval (.tmp t))→(∀ j d,j<n→waitsB o j=true→(ops[j]?).bind (·.dst)=some d→V j w' (a'.eval (.tmp d)))→Yields P o a' w' fun v w''=>New w' w''∧V i w'' v)
  (hL:∀ listed a' w',(∀ j,j<n→listed.getD j false=true)→HeadInv .any ops n listed→LInv ops W n V a listed a' w'→wpAny P .any ops Q g listed a' w') :
  ∀ (f:Nat) (listed:Array Bool) (a':Act) (w':World),HeadInv .any ops n listed→toCome listed n=f→LInv ops W n V a listed a' w'→wpAny P .any ops Q (f+g) listed a' w'
 | 0,listed,a',w',inv,hf,K=>by rw[Nat.zero_add];exact hL _ _ _ (toCome_zero n hf) inv K
 | f+1,listed,a',w',inv,hf,K=>by
  rw[show f+1+g=(f+g)+1 by omega]
  obtain⟨i0,hi0,hm0⟩:=exists_least (toCome_some n (by omega:0<toCome listed n))
  obtain⟨o0,d0,ho0,_,_,_,_,haf⟩:=opB_spec (ho i0 hi0.1)
  have hsz:i0<listed.size:=by rw[inv.size];omega
  have hr0:i0∈Region.ready .any ops listed:=mem_ready.2 ⟨getD_in hsz hi0.2,o0,ho0,fun e he hb=>by
   have h1:=haf e he hb
   cases hl:listed.getD e.on false with
   | true=>rfl
   | false=>have:=hm0 e.on ⟨by omega,hl⟩;omega⟩
  refine⟨fun h0=>absurd hr0 (by rw[h0];simp),fun i hi=>?_⟩
  have hin:i<n:=Nat.lt_of_not_le fun h=>tail_waits2 hs hc hlt inv i0 hi0.1 (getD_in hsz hi0.2) i h hi
  obtain⟨hun,o',ho',hall⟩:=mem_ready.1 hi
  obtain⟨o,d,hoi,hg,hd,hds,hdis,_⟩:=opB_spec (ho i hin)
  obtain rfl:o'=o:=Option.some.inj (ho'.symm.trans hoi)
  unfold wpOp
  simp only[hoi]
  have hw:Region.wanted o' (yielded ops a'.tmps)=true:=by unfold Region.wanted;rw[hg]
  rw[if_pos hw]
  refine .inl (yields_wp (hstep i o' hin hoi a' w' K.new (fun t ht=>?_) (fun j dj hj hwj hdj=>?_)) fun v w'' ⟨hn,hv⟩=>?_)
  ·rw[eval_get,eval_get,K.same t fun j oj hj hoj hd'=>by
    have h1:=List.all_eq_true.1 ht j (List.mem_range.2 hj)
    simp only[hoj,bne_iff_ne]at h1
    exact h1 hd']
  ·obtain⟨e,he,hb⟩:=Array.any_eq_true'.1 hwj
   simp only[Bool.and_eq_true,beq_iff_eq]at hb
   have h1:=hall e he hb.1
   rw[hb.2]at h1
   cases hoj:ops[j]? with
   | none=>rw[hoj]at hdj;cases hdj
   | some oj =>
    rw[hoj]at hdj
    exact K.held j oj dj hj hoj h1 hdj
  ·rw[hd]
   refine wpAny_loose hs hc hlt ho hV hstep hL f _ _ _ (inv.set hi hin) (by have:=toCome_set (by rw[inv.size];omega) (getD_both hun) n hin;omega) ⟨K.new.trans hn,by rw[put_def];exact K.defs,by rw[put_size];exact K.size,fun s h=>?_,fun j oj dj hj hoj hl hdj=>?_⟩
   ·rw[put_get_ne (by rintro _ ⟨rfl⟩ e;subst e;exact h i o' hin hoi hd)]
    exact K.same s h
   ·by_cases hji:j=i
    ·subst hji
     obtain rfl:oj=o':=Option.some.inj (hoj.symm.trans hoi)
     obtain rfl:dj=d:=Option.some.inj (hdj.symm.trans hd)
     rw[eval_get,put_get_eq (by rw[K.size];exact hds)]
     exact hv
    ·rw[getD_set_ne false (fun e=>hji e.symm)]at hl
     have h1:=hdis j oj hj hji hoj
     rw[eval_get,put_get_ne (by rintro _ ⟨rfl⟩ e;subst e;exact h1 hdj),←eval_get]
     exact hV _ _ _ _ (K.held j oj dj hj hoj hl hdj) hn
def putL:List Oper→(Nat→Value)→Nat→Act→Act
 | [],_,_,a=>a
 | o::l,vs,k,a=>putL l vs (k+1) (a.put o.dst (vs k))
theorem putL_def:∀ (l:List Oper) (vs:Nat→Value) (k:Nat) (a:Act),(putL l vs k a).defers=a.defers
 | [],_,_,_=>rfl
 | o::l,vs,k,a=>by unfold putL;rw[putL_def l,put_def]
theorem putL_none {s:Nat}:∀ (l:List Oper) (vs:Nat→Value) (k:Nat) (a:Act),(∀ o∈l,o.dst≠some s)→(putL l vs k a).tmps[s]? = a.tmps[s]?
 | [],_,_,_,_=>rfl
 | o::l,vs,k,a,h=>by
  unfold putL
  rw[putL_none l vs (k+1) _ fun o' ho'=>h o' (List.mem_cons_of_mem _ ho'),put_get_ne fun t ht e=>h o List.mem_cons_self (by rw[ht,e])]
theorem putL_some {d:Nat}:∀ (l:List Oper) (vs:Nat→Value) (k:Nat) (a:Act) (j:Nat) (o:Oper),l[j]? = some o→o.dst=some d→d<a.tmps.size→(∀ i o',l[i]? = some o'→i≠j→o'.dst≠some d)→(putL l vs k a).tmps[d]? = some (vs (k+j))
 | [],_,_,_,j,o,h,_,_,_=>by simp at h
 | o::l,vs,k,a,0,o1,h,hd,hs,hdis=>by
  obtain rfl:o=o1:=by simpa using h
  unfold putL
  rw[putL_none l vs (k+1) _ fun o' ho'=>by
   obtain⟨i,hi,he⟩:=List.getElem_of_mem ho'
   exact hdis (i+1) o' (by simp[List.getElem?_eq_getElem hi,he]) (by omega),hd,put_get_eq hs]
  rfl
 | o::l,vs,k,a,j+1,o1,h,hd,hs,hdis=>by
  unfold putL
  rw[putL_some l vs (k+1) _ j o1 (by simpa using h) hd (by rw[put_size];exact hs) fun i o' hi hij=>hdis (i+1) o' (by simpa using hi) (by omega)]
  rw[show k+1+j=k+(j+1) by omega]
theorem wp_region_loose {id:Nat} {Q:Exit→Act→World→Prop} {a:Act} {w:World} {l:List Oper} (n:Nat) (V:Nat→World→Value→Prop) (hm:P.follows .mixedOrders=true) (hB:looseB l.toArray n a.tmps.size=true)
  (hV:∀ i w w' v,V i w v→New w w'→V i w' v)
  (hstep:∀ i o,i<n→l.toArray[i]? = some o→∀ a' w',New w w'→(∀ t,restsB l.toArray n t=true→a'.eval (.tmp t)=a.eval (.tmp t))→(∀ j d,j<n→waitsB o j=true→(l.toArray[j]?).bind (·.dst)=some d→V j w' (a'.eval (.tmp d)))→Yields P o a' w' fun v w''=>New w' w''∧V i w'' v)
  (htail:∀ vs w',New w w'→(∀ j,j<n→V j w' (vs j))→wpList P l.toArray Q (l.drop n) (putL (l.take n) vs 0 a) w'):(Code.region id l.toArray true).wp P Q a w:=by
 simp only[looseB,Bool.and_eq_true,decide_eq_true_eq]at hB
 obtain⟨⟨⟨⟨hs,hc⟩,hlt⟩,hops⟩,hseq⟩:=hB
 have ho:∀ j,j<n→opB l.toArray n a.tmps.size j=true:=fun j hj=>List.all_eq_true.1 hops j (List.mem_range.2 hj)
 have hll:l.toArray.size=l.length:=by simp
 have inv0:HeadInv .any l.toArray n (Array.replicate l.toArray.size false) :=
  ⟨by simp,fun j oj _ hl=>(by rw[getD_replicate_false]at hl;cases hl),fun t _ ht=>getD_in (by simpa using ht) (getD_replicate_false _ _)⟩
 have h0:∀ k,toCome (Array.replicate l.toArray.size false) k=k:=by
  intro k
  induction k with
  | zero=>rfl
  | succ k ih =>
   unfold toCome
   rw[ih,getD_replicate_false]
   simp
   omega
 refine wp_region_any hm ?_
 have:=wpAny_loose (P:=P) (W:=w) (V:=V) (Q:=Q) (g:=l.toArray.size - n) (a:=a) hs hc hlt ho hV hstep (fun listed a' w' hall inv K=>by
  have hlist:listed=heads l.toArray.size n:=by
   refine Array.ext (by rw[inv.size];simp[heads]) fun j h1 h2=>?_
   have hj:j<l.toArray.size:=by rw[←inv.size];exact h1
   have e2:(heads l.toArray.size n)[j]=decide (j<n):=by simp[heads]
   rw[e2]
   by_cases hjn:j<n
   ·have:=hall j hjn
    rw[Array.getD_eq_getD_getElem?,Array.getElem?_eq_getElem h1]at this
    simpa [hjn]using this
   ·have:=inv.tail j (by omega) hj
    rw[Array.getD_eq_getD_getElem?,Array.getElem?_eq_getElem h1]at this
    simpa [hjn]using this
  have hdl:(l.drop n).length=l.toArray.size - n:=by simp
  have hw:=wpAny_of_seq (P:=P) (md:=.any) (ops:=l.toArray) (Q':=Q) (l.drop n) n listed a' w' (fun j=>by simp[List.getElem?_drop]) (by rw[hdl,hlist];exact hseq) (by
   have ht:=htail (fun j=>a'.eval (.tmp (((l.toArray[j]?).bind (·.dst)).getD 0))) w' K.new (fun j hj=>by
    obtain⟨o,d,hoj,_,hd,_⟩:=opB_spec (ho j hj)
    have:=K.held j o d hj hoj (hall j hj) hd
    simpa [hoj,hd]using this)
   have hta:∀ i o,(l.take n)[i]? = some o→i<n∧l.toArray[i]? = some o:=fun i o h=>by
    have h1:i<(l.take n).length:=(List.getElem?_eq_some_iff.1 h).1
    have h2:i<n:=by simp at h1;omega
    rw[List.getElem?_take,if_pos h2]at h
    exact⟨h2,by simpa using h⟩
   have e:putL (l.take n) (fun j=>a'.eval (.tmp (((l.toArray[j]?).bind (·.dst)).getD 0))) 0 a=a':=act_eq (by rw[putL_def,K.defs]) fun s=>by
    by_cases hw:∃ j oj,j<n∧l.toArray[j]? = some oj∧oj.dst=some s
    ·obtain⟨j,oj,hj,hoj,hd⟩:=hw
     obtain⟨o,d,hoj',_,hd',hds,hdis,_⟩:=opB_spec (ho j hj)
     obtain rfl:oj=o:=Option.some.inj (hoj.symm.trans hoj')
     obtain rfl:s=d:=Option.some.inj (hd.symm.trans hd')
     rw[putL_some (l.take n) _ 0 a j oj (by rw[List.getElem?_take,if_pos hj];simpa using hoj) hd hds fun i o' hi hij hd2=>hdis i o' (hta i o' hi).1 hij (hta i o' hi).2 hd2]
     rw[Nat.zero_add,hoj]
     show some (a'.eval (.tmp ((oj.dst).getD 0)))=_
     rw[hd]
     show some (a'.eval (.tmp s))=_
     rw[eval_get,Array.getElem?_eq_getElem (by rw[K.size];exact hds)]
     rfl
    ·rw[putL_none _ _ _ _ fun o ho' hd=>by
      obtain⟨i,hi,he⟩:=List.getElem_of_mem ho'
      have:=hta i o (by rw[List.getElem?_eq_getElem hi,he])
      exact hw ⟨i,o,this.1,this.2,hd⟩]
     exact(K.same s fun j oj hj hoj hd=>hw ⟨j,oj,hj,hoj,hd⟩).symm
   rw[e]at ht
   exact ht)
  rwa [hdl]at hw) n _ a { w with drawn:=w.drawn+1 } inv0 (h0 n) ⟨Below.drew (Below.refl _ w),rfl,rfl,fun _ _=>rfl,fun j oj d _ _ hl=>by rw[getD_replicate_false]at hl;cases hl⟩
 rwa [show n+(l.toArray.size - n)=l.toArray.size by omega]at this
end
def badS (p:Sn):Bool:=decide (p.lo < -2048)||decide (p.hi<p.lo)||decide (2048<p.hi)
theorem badS_not (p:Sn):badS p=false ↔ -2048≤p.lo∧p.lo≤p.hi∧p.hi≤2048:=by
 unfold badS
 simp only[Bool.or_eq_false_iff,decide_eq_false_iff_not]
 omega
def fstB (f:Sn→Bool) (l:List Sn):Bool:=l.any f
def fstI (f:Sn→Bool) (l:List Sn):Int:=if l.any f=true then (l.findIdx f:Int)else 0
theorem fst_hit {f:Sn→Bool} {l:List Sn} {i:Nat} (h:i<l.length) (hf:f l[i]=true) (hb:∀ k (hk:k<l.length),k<i→f l[k]=false):fstB f l=true∧fstI f l=i:=by
 have h1:l.any f=true:=List.any_eq_true.2 ⟨_,List.getElem_mem h,hf⟩
 have h2:l.findIdx f=i:=(List.findIdx_eq h).2 ⟨hf,fun j hj=>hb j (by omega) hj⟩
 unfold fstB fstI
 rw[h1,h2]
 simp
theorem fst_none {f:Sn→Bool} {l:List Sn} (hb:∀ k (hk:k<l.length),f l[k]=false):fstB f l=false∧fstI f l=0:=by
 have h1:l.any f=false:=by
  rw[List.any_eq_false]
  intro x hx
  obtain⟨i,hi,rfl⟩:=List.getElem_of_mem hx
  rw[hb i hi];simp
 unfold fstB fstI
 rw[h1]
 simp
theorem k_bad (p:Sn) (w:World):Calls Tryz.prog 232 #[.agg #[.int .i64 p.lo,.int .i64 p.hi,.bool p.wk]] w fun e w'=>e=.returned (.bool (badS p))∧New w w':=by
 unfold badS
 obtain⟨a,b,c⟩:=p
 simp only
 go_enter Tryz.func232,Tryz.ntmps232
 go_wp2_with fail
 all_goals
  go_ret
  exact⟨rfl,by exact nw⟩
theorem k_firstBad (at0:Option Addr) (l:List Sn) (c:Nat) (hl:l.length≤maxLen) (w:World) (H:RowIn Sn.enc 3 w at0 l) :
  Calls Tryz.prog 231 #[.slice at0 l.length c,.func (.func 232) #[] #[]] w fun e w'=>e=.returned (.tuple #[.int .i64 (fstI (badS) l),.bool (fstB (badS) l)])∧New w w':=by
 have HI:=Lib.hid (fun x W (n:New w W)=>k_bad x W)
 obtain⟨z,hz⟩:∃ z,z=fstI (badS) l:=⟨_,rfl⟩
 obtain⟨b,hb⟩:∃ b,b=fstB (badS) l:=⟨_,rfl⟩
 rw[←hz,←hb]
 have HZ:=Lib.hid (And.intro hz hb)
 have HH:=Lib.hid H
 unfold maxLen at hl
 clear hz hb H
 go_enter Tryz.func231,Tryz.ntmps231
 go_wp2_with fail
 go_loopg [10] l.length (fun k s wr=>∃ i:Nat,s=.int .i64 i∧i+k=l.length∧Hid (∀ j (hj:j<l.length),j<i→(badS) l[j]=false)∧Hid (New w wr))
 case atStart=>exact⟨0,by simp,by omega,Lib.hid (fun _ _ h=>absurd h (by omega)),Lib.hid (New.refl _)⟩
 case round =>
  obtain⟨i,rfl,hik,HNO,hn⟩:=hrel
  by_cases hlt:i<l.length
  ·obtain⟨b0,off,rfl,hA⟩:=HH.out (by omega)
   have hA':=hA.keep hn.out
   obtain⟨c0,c1,c2⟩:=Sn.cells hA' i hlt
   clear hA hA'
   cases he:(badS) l[i]
   ·have HC:=Lib.hid (fun W n=>by have q:=HI.out l[i] W n;rw[he]at q;exact q:∀ W,New w W→Calls Tryz.prog 232 #[.agg #[.int .i64 l[i].lo,.int .i64 l[i].hi,.bool l[i].wk]] W fun e w'=>e=.returned (.bool false)∧New W w')
    have HE:=Lib.hid he
    clear he HI
    go_wp2_with fail
    refine(HC.out _ (hn.out.trans (by exact nw))).mono ?_
    rintro e W1 ⟨rfl,n1⟩
    have n2:=Lib.hid (hn.out.trans (New.trans (by exact nw) n1))
    clear n1
    go_wp2_with fail
    go_roundg (gk - 1)
    case measure=>omega
    case rel =>
     refine⟨i+1,by go_num,by omega,Lib.hid (fun j hj hji=>?_),n2⟩
     by_cases h:j<i
     ·exact HNO.out j hj h
     ·obtain rfl:j=i:=by omega
      exact HE.out
   ·have HC:=Lib.hid (fun W n=>by have q:=HI.out l[i] W n;rw[he]at q;exact q:∀ W,New w W→Calls Tryz.prog 232 #[.agg #[.int .i64 l[i].lo,.int .i64 l[i].hi,.bool l[i].wk]] W fun e w'=>e=.returned (.bool true)∧New W w')
    have HE:Hid (b=true∧z=i):=Lib.hid (by rw[HZ.out.1,HZ.out.2];exact fst_hit hlt he (fun k hk hki=>HNO.out k hk hki))
    clear he HI
    go_wp2_with fail
    refine(HC.out _ (hn.out.trans (by exact nw))).mono ?_
    rintro e W1 ⟨rfl,n1⟩
    have n2:=Lib.hid (hn.out.trans (New.trans (by exact nw) n1))
    clear n1
    go_wp2_with fail
    rw[HE.out.1,HE.out.2]
    refine bodyPost_ret (v:=.tuple #[.int .i64 i,.bool true]) (by simp[results,Tryz.results231,go_sem, *]) rfl ?_
    exact⟨rfl,n2.out⟩
  ·have HE:Hid (b=false∧z=0):=Lib.hid (by rw[HZ.out.1,HZ.out.2];exact fst_none (fun k hk=>HNO.out k hk (by omega)))
   go_wp2_with fail
   rw[HE.out.1,HE.out.2]
   refine bodyPost_ret (v:=.tuple #[.int .i64 0,.bool false]) (by simp[results,Tryz.results231,go_sem, *]) rfl ?_
   exact⟨rfl,hn.out⟩
theorem k_pieces (at0:Option Addr) (l:List Sn) (c:Nat) (hl:l.length≤maxLen) (w:World) (H:RowIn Sn.enc 3 w at0 l) :
  Calls Tryz.prog 198 #[.slice at0 l.length c] w fun e w'=>e=.returned (.bool (!fstB badS l))∧New w w':=by
 have HC:=Lib.hid (fun W n=>k_firstBad at0 l c hl W (H.keep (n:New w W)))
 clear H hl
 generalize fstB badS l=b at *
 generalize fstI badS l=z at *
 go_enter Tryz.func198,Tryz.ntmps198
 go_wp2_with fail
 refine(HC.out _ (by exact nw)).mono ?_
 rintro e W1 ⟨rfl,n1⟩
 have hn:New w W1:=New.trans (by exact nw) n1
 clear n1
 go_wp2_with fail
 go_ret
 exact⟨rfl,hn⟩
theorem k_union (p q:Sn) (w:World):Calls Tryz.prog 236 #[.agg #[.int .i64 p.lo,.int .i64 p.hi,.bool p.wk],.agg #[.int .i64 q.lo,.int .i64 q.hi,.bool q.wk]] w fun e w'=>e=.returned (.agg #[.int .i64 (un p q).lo,.int .i64 (un p q).hi,.bool (un p q).wk])∧New w w':=by
 unfold un
 obtain⟨a,b,c⟩:=p
 obtain⟨d,e,f⟩:=q
 simp only
 obtain⟨t1,ht1⟩:∃ t,t=decide (e≤b):=⟨_,rfl⟩
 obtain⟨t2,ht2⟩:∃ t,t=decide (b≤e):=⟨_,rfl⟩
 have h1:=ht1.symm
 have h2:=ht2.symm
 rw[h1,h2]
 clear ht1 ht2
 go_enter Tryz.func236,Tryz.ntmps236
 cases c <;> cases f <;> cases t1 <;> cases t2
 all_goals
  go_wp2_with fail
  simp only[Bool.false_and,Bool.true_and,Bool.and_false,Bool.and_true,Bool.false_or,Bool.true_or,Bool.or_false,Bool.or_true]
  first
  | (refine bodyPost_ret (v:=.agg #[.int .i64 (min a d),.int .i64 (max b e),.bool true]) (by simp[results,Tryz.results236,go_sem, *]) rfl ?_;exact⟨rfl,by exact nw⟩)
  | (refine bodyPost_ret (v:=.agg #[.int .i64 (min a d),.int .i64 (max b e),.bool false]) (by simp[results,Tryz.results236,go_sem, *]) rfl ?_;exact⟨rfl,by exact nw⟩)
theorem wrap64_in {n:Int} (h : -9223372036854775808≤n∧n≤9223372036854775807):wrap64 n=n:=by
 unfold wrap64;omega
theorem tdiv_bd (a b:Int) (ha : -2305843009213693952≤a∧a≤2305843009213693952) :
  -2305843009213693952≤a.tdiv b∧a.tdiv b≤2305843009213693952:=by
 have:=Int.natAbs_tdiv_le_natAbs a b
 omega
theorem fdiv_exact {a b:Int} (h:a.tmod b=0):a.fdiv b=a.tdiv b:=by
 rw[Int.fdiv_eq_tdiv,if_pos (Int.dvd_of_tmod_eq_zero h)];omega
theorem fdiv_down {a b:Int} (hb:b≠0) (h:¬ a.tmod b=0) (hs:(!decide (a<0)==decide (b<0))=true) :
  a.fdiv b=a.tdiv b - 1:=by
 rw[Int.fdiv_eq_tdiv,if_neg (fun h'=>h (Int.dvd_iff_tmod_eq_zero.mp h'))]
 rcases Int.lt_trichotomy b 0 with hb'|hb'|hb'
 ·rw[Int.sign_eq_neg_one_of_neg hb']
  have:0≤a:=by simp at hs;omega
  simp[this];omega
 ·exact absurd hb' hb
 ·rw[Int.sign_eq_one_of_pos hb']
  have:¬ 0≤a:=by simp at hs;omega
  have hb2:0≤b:=by omega
  simp[this,hb2]
theorem fdiv_same {a b:Int} (hb:b≠0) (hs:(!decide (a<0)==decide (b<0))=false) :
  a.fdiv b=a.tdiv b:=by
 by_cases h:a.tmod b=0
 ·exact fdiv_exact h
 rw[Int.fdiv_eq_tdiv,if_neg (fun h'=>h (Int.dvd_iff_tmod_eq_zero.mp h'))]
 rcases Int.lt_trichotomy b 0 with hb'|hb'|hb'
 ·rw[Int.sign_eq_neg_one_of_neg hb']
  have h1:¬ 0≤a:=by simp at hs;omega
  have h2:¬ 0≤b:=by omega
  simp[h1,h2]
 ·exact absurd hb' hb
 ·rw[Int.sign_eq_one_of_pos hb']
  have h1:0≤a:=by simp at hs;omega
  have hb2:0≤b:=by omega
  simp[h1,hb2]
theorem fdiv_bd (a b:Int) (hb:b≠0) (ha : -2305843009213693952≤a∧a≤2305843009213693952) :
  -2305843009213693953≤a.fdiv b∧a.fdiv b≤2305843009213693952:=by
 have ht:=tdiv_bd a b ha
 by_cases h:a.tmod b=0
 ·rw[fdiv_exact h];omega
 ·by_cases hs:(!decide (a<0)==decide (b<0))=true
  ·rw[fdiv_down hb h hs];omega
  ·rw[fdiv_same hb (by simpa using hs)];omega
end Go.Proofs.YtmhghnbgllaihaaGreatDoor
