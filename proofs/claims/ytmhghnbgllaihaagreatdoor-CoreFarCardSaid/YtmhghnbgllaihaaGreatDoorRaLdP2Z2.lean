import Derived.Test.YtmhghnbgllaihaaGreatDoorLooseEP2Z2
import Derived.Maps.AppendAt
import Derived.Deep.Heap
import Derived.Test.YtmhghnbgllaihaaGreatDoorRows
import Derived.WalkKit
import Derived.Lib.MinMax
import Derived.Test.YtmhghnbgllaihaaGreatDoorCrWP2Z2
import Derived.Test.YtmhghnbgllaihaaGreatDoorCrXP2Z2
import Derived.Test.YtmhghnbgllaihaaGreatDoorRaLP2Z2
set_option linter.unusedVariables false

namespace Go.Proofs.YtmhghnbgllaihaaGreatDoor
open Go.RowKit
theorem run_append_sl {P:Program} {w:World} (t ty:TypeId)
  {α:Type} {enc:α→List Value} {k:Nat} (hk:∀ a,(enc a).length=k) (h1:∀ a,∀ u∈enc a,u.oneCell'=true)
  (base:Nat) (e:TypeId) (i:TypeInfo) (z:Value) (bytes:Nat) (ht:P.underlying t=some (.slice e)) (hi:P.info? e=some i) (hz:i.zero=some z)
  (hsize:i.size=k) (hby:i.bytes=bytes) (hzs:z.cells.size=k) (hsz:0<k)
  (v:Value) (l:List α) (hown:w.ownsRow base e k v l.length (l.flatMap enc))
  (u:Value) (m:List α) (hm:Sl enc k w u m)
  (h63:l.length+m.length≤maxLen) (hbytes:(l.length+m.length)*bytes≤140737488355328) (hbase:base≤w.heap.size) :
  ∃ v' w',(Builtin.append_ #[t,t] ty #[v,u]).run P w=.ok v' w'∧w'.ownsRow base e k v' (l++m).length ((l++m).flatMap enc)∧∀ a0,New a0 w→a0.heap.size≤base→New a0 w':=by
 obtain⟨at0,c,rfl,hc,hcm,hnone,hrow⟩:=hm
 cases at0 with
 | none =>
  have hc0:=hnone rfl
  have hm0:m=[]:=List.eq_nil_of_length_eq_zero (by omega)
  subst hm0
  subst hc0
  exact⟨_,_,run_append_owned_none (P:=P) w base t ty e i k ht hi _ _ _ hown,by simpa using hown,fun _ h _=>h⟩
 | some ad =>
  obtain⟨v',w',hr,ho,hg,-,-⟩:=run_append_own_at (P:=P) (w:=w) base t ty e i z k bytes ht hi hz hsize hby hzs hsz v _ _ hown ad m.length c (m.flatMap enc) (flatMap_len hk m) (sl_news hk ⟨some ad,c,rfl,hc,hcm,hnone,hrow⟩) (by intro u hu;obtain⟨y,_,hy⟩:=List.mem_flatMap.1 hu;exact h1 y u hy) h63 hbytes hbase
  exact⟨v',w',hr,by rw[List.length_append,List.flatMap_append];exact ho,fun a0 hn hb=>newGrown hn hg (fun j hj=>Nat.le_trans hb (own_block hown j hj))⟩
theorem sl_take {α:Type} {enc:α→List Value} {k:Nat} {w:World} {b off:Nat} {l:List α} (h:RowAt enc k w b off l) {cap j:Nat} (hj:j≤l.length) (hc:l.length≤cap) (hm:cap≤maxLen):Sl enc k w (.slice (some ⟨b,off,none⟩) j cap) (l.take j) :=
 ⟨_,_,by rw[List.length_take,Nat.min_eq_left hj],by rw[List.length_take];omega,hm,fun e=>(by cases e),fun _=>⟨b,off,rfl,h.take j⟩⟩
theorem sl_drop {α:Type} {enc:α→List Value} {k:Nat} {w:World} {b off:Nat} {l:List α} (h:RowAt enc k w b off l) {cap j:Nat} (hj:j≤l.length) (hc:l.length≤cap) (hm:cap≤maxLen):Sl enc k w (.slice (some ⟨b,off+j*k,none⟩) (l.length - j) (cap - j)) (l.drop j) :=
 ⟨_,_,by rw[List.length_drop],by rw[List.length_drop];omega,by omega,fun e=>(by cases e),fun _=>⟨b,off+j*k,rfl,h.drop j⟩⟩
def SlX {α:Type} (enc:α→List Value) (k P:Nat) (w:World) (v:Value) (l:List α):Prop:=∀ w':World,(∀ b,b≠P→b<w.heap.size→w'.heap[b]? = w.heap[b]?)→Sl enc k w' v l
section
variable {α:Type} {enc:α→List Value} {k P:Nat} {w:World} {v:Value} {l:List α}
theorem SlX.sl (h:SlX enc k P w v l):Sl enc k w v l:=h w fun _ _ _=>rfl
theorem SlX.keep {w':World} (h:SlX enc k P w v l) (n:New w w'):SlX enc k P w' v l:=fun z hz=>h z fun b h1 h2=>(hz b h1 (Nat.lt_of_lt_of_le h2 n.size)).trans (n.block b h2)
theorem SlX.set (h:SlX enc k P w v l) (o:Nat) (u:Value):SlX enc k P (w.setCell ⟨P,o,none⟩ u) v l:=fun z hz=>h z fun b h1 h2=>by
 rw[hz b h1 (by rw[Go.Deep.nblk_setCell];exact h2)]
 exact Go.Deep.blk_setCell_other w ⟨P,o,none⟩ u b h1
theorem Sl.blocks {w':World} (hk:∀ a,(enc a).length=k) (h0:0<k) (h:Sl enc k w v l) (hb:∀ b,b<w.heap.size→w'.heap[b]? = w.heap[b]?):Sl enc k w' v l:=by
 obtain⟨at0,c,e,h1,h2,h3,h4⟩:=h
 refine⟨at0,c,e,h1,h2,h3,fun hl=>?_⟩
 obtain⟨b,off,rfl,hr⟩:=h4 hl
 refine⟨b,off,rfl,fun j hj i hi=>?_⟩
 have:=hr j hj i hi
 exact cell_block (hb b (cell_lt this)) this
theorem slX_old (hk:∀ a,(enc a).length=k) (h0:0<k) (h:Sl enc k w v l) {w':World} (n:New w w') (hP:w.heap.size≤P):SlX enc k P w' v l:=fun z hz=>h.blocks hk h0 fun b hb=>(hz b (by omega) (Nat.lt_of_lt_of_le hb n.size)).trans (n.block b hb)
theorem slX_own (hk:∀ a,(enc a).length=k) {base:Nat} {e:TypeId} (h:w.ownsRow base e k v l.length (l.flatMap enc)) (hP:P<base):SlX enc k P w v l:=fun z hz=>by
 refine own_sl (base:=base) (e:=e) hk ⟨h.1,h.2.imp id ?_⟩
 rintro⟨g,cap,cur,rfl,hb,hg,r⟩
 exact⟨g,cap,cur,rfl,hb,by rw[hz g (by omega) (Array.getElem?_eq_some_iff.1 hg).1];exact hg,r⟩
end
end Go.Proofs.YtmhghnbgllaihaaGreatDoor

namespace Go.Proofs.YtmhghnbgllaihaaGreatDoor
theorem run_max_three {P:Program} (w:World) (ts:Array TypeId) (t:TypeId) (k k2 k3:IntKind) (x y z:Int) :
  (Builtin.max_ ts t #[.int k x,.int k2 y,.int k3 z]).run P w=.ok (.int k (max x (max y z))) w:=by
 rw[←Int.max_assoc]
 have e:∀ a b:Int,(if b > a then b else a)=max a b:=fun a b=>by
  rw[Int.max_def]
  split <;> split <;> omega
 simp[Builtin.max_,Builtin.max2,e]
theorem run_min_three {P:Program} (w:World) (ts:Array TypeId) (t:TypeId) (k k2 k3:IntKind) (x y z:Int) :
  (Builtin.min_ ts t #[.int k x,.int k2 y,.int k3 z]).run P w=.ok (.int k (min x (min y z))) w:=by
 rw[←Int.min_assoc]
 have e:∀ a b:Int,(if b<a then b else a)=min a b:=fun a b=>by
  rw[Int.min_def]
  split <;> split <;> omega
 simp[Builtin.min_,Builtin.min2,e]
theorem far_is {C:CfgR} {S S2:SoupV} {tx tz:Int} {k:Nat} {c d:Bool} (h:cobE C S tx tz=0) (h1:S2.ts=dropK S.ts k c) (h2:S2.bs=dropK S.bs k d) (h3:S2.hs=S.hs) (hc:c=true→∃ h:k<S.ts.length,farT S.ts[k] (padT C tx tz)=true) (hd:d=true→∃ h:k<S.bs.length,farX S.bs[k] (padT C tx tz)=true) :
  cobE C S2 tx tz=0∧corL C (coA C S2.ts S2.bs) (tilB C tx tz)=corL C (coA C S.ts S.bs) (tilB C tx tz):=by
 obtain⟨a1,a2,a3⟩:=cob_zero h
 have hp:padT C tx tz=padB C (tilB C tx tz):=by unfold padT;rw[if_pos a2]
 have hT:=(til_ok a2).1
 have hm:=drop_may a1 h1 h2 h3
 rw[hp]at hc hd
 refine⟨?_,corL_near hT fun x z hx=>?_⟩
 ·unfold cobE
  rw[if_neg (by omega),if_pos a2]
  exact ful_of a1 hm hT.pad (fun x z hx=>by rw[h1];exact(coA_near (B:=S.bs) hc hd hx).2) a3
 ·rw[h1,h2]
  exact(coA_near hc hd hx).1
open Go.RowKit
section
variable {P:Program} {ops:Array Oper} {n:Nat}
def deepB (ops:Array Oper):Nat→Nat→Nat→Bool
 | 0,_,_=>false
 | f+1,j,i=>match ops[i]? with
  | some o=>o.after.any fun e=>Region.binds .any e&&(e.on==j||deepB ops f j e.on)
  | none=>false
theorem deep_listed {listed:Array Bool} (inv:HeadInv .any ops n listed):∀ (f j i:Nat),deepB ops f j i=true→listed.getD i false=true→listed.getD j false=true
 | 0,_,_,h,_=>by cases h
 | f+1,j,i,h,hl=>by
  unfold deepB at h
  split at h
  ·rename_i o ho
   obtain⟨e,he,h1⟩:=Array.any_eq_true'.1 h
   simp only[Bool.and_eq_true,Bool.or_eq_true,beq_iff_eq]at h1
   have h2:=inv.closed i o ho hl e he h1.1
   rcases h1.2 with h3|h3
   ·rw[←h3];exact h2
   ·exact deep_listed inv f j e.on h3 h2
  ·cases h
end
section
variable {P:Program} {ops:Array Oper} {n:Nat}
structure LInvD (ops:Array Oper) (n:Nat) (kl:Nat→Nat→Bool) (V:Nat→World→Value→Prop) (a:Act) (listed:Array Bool) (a':Act) (w':World):Prop where
 defs:a'.defers=a.defers
 size:a'.tmps.size=a.tmps.size
 same:∀ s,(∀ j oj,j<n→ops[j]? = some oj→oj.dst≠some s)→a'.tmps[s]? = a.tmps[s]?
 held:∀ j oj d,j<n→ops[j]? = some oj→listed.getD j false=true→oj.dst=some d→(∀ q,q<n→kl q j=true→listed.getD q false=false)→V j w' (a'.eval (.tmp d))
theorem wpAny_dloose {kl:Nat→Nat→Bool} {R:Nat→World→World→Prop} {KK:Array Bool→World→Prop} {V:Nat→World→Value→Prop} {a:Act} {Q:Exit→Act→World→Prop} {g:Nat} (hs:Region.sinkB .any ops n=true) (hc:chain2B ops n=true) (hlt:n<ops.size) (ho:∀ j,j<n→opB ops n a.tmps.size j=true)
  (hV:∀ i j w w' v,i≠j→deepB ops 20 j i=false→kl j i=false→V i w v→R j w w'→V i w' v)
  (hKK:∀ listed j w w',j<n→j<listed.size→KK listed w→R j w w'→KK (listed.setIfInBounds j true) w')
  (hstep:∀ i o listed,i<n→ops[i]? = some o→listed.getD i false=false→∀ a' w',KK listed w'→(∀ t,restsB ops n t=true→a'.eval (.tmp t)=a.eval (.tmp t))→(∀ j d,j<n→waitsB o j=true→(ops[j]?).bind (·.dst)=some d→(List.range n).all (fun q => !kl q j||(q==i||deepB ops 20 i q))=true→V j w' (a'.eval (.tmp d)))→Yields P o a' w' fun v w''=>R i w' w''∧V i w'' v)
  (hL:∀ listed a' w',(∀ j,j<n→listed.getD j false=true)→HeadInv .any ops n listed→KK listed w'→LInvD ops n kl V a listed a' w'→wpAny P .any ops Q g listed a' w') :
  ∀ (f:Nat) (listed:Array Bool) (a':Act) (w':World),HeadInv .any ops n listed→toCome listed n=f→KK listed w'→LInvD ops n kl V a listed a' w'→wpAny P .any ops Q (f+g) listed a' w'
 | 0,listed,a',w',inv,hf,HK,K=>by rw[Nat.zero_add];exact hL _ _ _ (toCome_zero n hf) inv HK K
 | f+1,listed,a',w',inv,hf,HK,K=>by
  rw[show f+1+g=(f+g)+1 by omega]
  obtain⟨i0,hi0,hm0⟩:=exists_least (toCome_some n (by omega:0<toCome listed n))
  obtain⟨o0,d0,ho0,_,_,_,_,haf⟩:=opB_spec (ho i0 hi0.1)
  have hsz:i0<listed.size:=by rw[inv.size];omega
  have hr0:i0∈Region.ready .any ops listed:=mem_ready.2 ⟨getD_in hsz hi0.2,o0,ho0,fun e he hb=>by
   have h1:=haf e he hb
   cases hl:listed.getD e.on false with
   | true=>rfl
   | false=>have:=hm0 e.on ⟨by omega,hl⟩;omega⟩
  refine⟨fun h0=>absurd hr0 (by rw[h0];simp),fun i hi=>?_⟩
  have hin:i<n:=Nat.lt_of_not_le fun h=>tail_waits2 hs hc hlt inv i0 hi0.1 (getD_in hsz hi0.2) i h hi
  obtain⟨hun,o',ho',hall⟩:=mem_ready.1 hi
  obtain⟨o,d,hoi,hg,hd,hds,hdis,_⟩:=opB_spec (ho i hin)
  obtain rfl:o'=o:=Option.some.inj (ho'.symm.trans hoi)
  unfold wpOp
  simp only[hoi]
  have hw:Region.wanted o' (yielded ops a'.tmps)=true:=by unfold Region.wanted;rw[hg]
  rw[if_pos hw]
  refine .inl (yields_wp (hstep i o' listed hin hoi (getD_both hun) a' w' HK (fun t ht=>?_) (fun j dj hj hwj hdj hka=>?_)) fun v w'' ⟨hn,hv⟩=>?_)
  ·rw[eval_get,eval_get,K.same t fun j oj hj hoj hd'=>by
    have h1:=List.all_eq_true.1 ht j (List.mem_range.2 hj)
    simp only[hoj,bne_iff_ne]at h1
    exact h1 hd']
  ·obtain⟨e,he,hb⟩:=Array.any_eq_true'.1 hwj
   simp only[Bool.and_eq_true,beq_iff_eq]at hb
   have h1:=hall e he hb.1
   rw[hb.2]at h1
   cases hoj:ops[j]? with
   | none=>rw[hoj]at hdj;cases hdj
   | some oj =>
    rw[hoj]at hdj
    exact K.held j oj dj hj hoj h1 hdj fun q hq hdq=>by
     cases hlq:listed.getD q false with
     | false=>rfl
     | true =>
      have h6:=List.all_eq_true.1 hka q (List.mem_range.2 hq)
      rw[hdq]at h6
      simp only[Bool.not_true,Bool.false_or,Bool.or_eq_true,beq_iff_eq]at h6
      have h7:=getD_both hun
      rcases h6 with h6|h6
      ·rw[←h6,hlq]at h7;cases h7
      ·rw[deep_listed inv 20 i q h6 hlq]at h7
       cases h7
  ·rw[hd]
   refine wpAny_dloose hs hc hlt ho hV hKK hstep hL f _ _ _ (inv.set hi hin) (by have:=toCome_set (by rw[inv.size];omega) (getD_both hun) n hin;omega) (hKK listed i w' w'' hin (by rw[inv.size];omega) HK hn) ⟨by rw[put_def];exact K.defs,by rw[put_size];exact K.size,fun s h=>?_,fun j oj dj hj hoj hl hdj hdq=>?_⟩
   ·rw[put_get_ne (by rintro _ ⟨rfl⟩ e;subst e;exact h i o' hin hoi hd)]
    exact K.same s h
   ·by_cases hji:j=i
    ·subst hji
     obtain rfl:oj=o':=Option.some.inj (hoj.symm.trans hoi)
     obtain rfl:dj=d:=Option.some.inj (hdj.symm.trans hd)
     rw[eval_get,put_get_eq (by rw[K.size];exact hds)]
     exact hv
    ·rw[getD_set_ne false (fun e=>hji e.symm)]at hl
     have h1:=hdis j oj hj hji hoj
     rw[eval_get,put_get_ne (by rintro _ ⟨rfl⟩ e;subst e;exact h1 hdj),←eval_get]
     have hdi:kl i j=false:=by
      cases hq:kl i j with
      | false=>rfl
      | true =>
       have h8:=hdq i hin hq
       have h9:(listed.setIfInBounds i true).getD i false=true:=by simp[Array.getD_eq_getD_getElem?,show i<listed.size by rw[inv.size];omega]
       rw[h9]at h8
       cases h8
     refine hV _ _ _ _ _ hji ?_ hdi (K.held j oj dj hj hoj hl hdj fun q hq hq2=>?_) hn
     rotate_left
     ·have h8:=hdq q hq hq2
      by_cases hqi:i=q
      ·subst hqi;rw[hdi]at hq2;cases hq2
      ·rw[getD_set_ne false hqi]at h8
       exact h8
     cases hdp:deepB ops 20 i j with
     | false=>rfl
     | true =>
      have h7:=deep_listed inv 20 i j hdp hl
      rw[getD_both hun]at h7
      cases h7
theorem wp_region_dloose {id:Nat} {Q:Exit→Act→World→Prop} {a:Act} {w:World} {l:List Oper} (n:Nat) (kl:Nat→Nat→Bool) (R:Nat→World→World→Prop) (KK:Array Bool→World→Prop) (V:Nat→World→Value→Prop) (hm:P.follows .mixedOrders=true) (hB:looseB l.toArray n a.tmps.size=true)
  (hV:∀ i j w w' v,i≠j→deepB l.toArray 20 j i=false→kl j i=false→V i w v→R j w w'→V i w' v)
  (h0K:KK (Array.replicate l.toArray.size false) { w with drawn:=w.drawn+1 })
  (hKK:∀ listed j w w',j<n→j<listed.size→KK listed w→R j w w'→KK (listed.setIfInBounds j true) w')
  (hstep:∀ i o listed,i<n→l.toArray[i]? = some o→listed.getD i false=false→∀ a' w',KK listed w'→(∀ t,restsB l.toArray n t=true→a'.eval (.tmp t)=a.eval (.tmp t))→(∀ j d,j<n→waitsB o j=true→(l.toArray[j]?).bind (·.dst)=some d→(List.range n).all (fun q => !kl q j||(q==i||deepB l.toArray 20 i q))=true→V j w' (a'.eval (.tmp d)))→Yields P o a' w' fun v w''=>R i w' w''∧V i w'' v)
  (htail:∀ vs w' listed,KK listed w'→(∀ j,j<n→(List.range n).all (fun q => !kl q j)=true→V j w' (vs j))→wpList P l.toArray Q (l.drop n) (putL (l.take n) vs 0 a) w'):(Code.region id l.toArray true).wp P Q a w:=by
 simp only[looseB,Bool.and_eq_true,decide_eq_true_eq]at hB
 obtain⟨⟨⟨⟨hs,hc⟩,hlt⟩,hops⟩,hseq⟩:=hB
 have ho:∀ j,j<n→opB l.toArray n a.tmps.size j=true:=fun j hj=>List.all_eq_true.1 hops j (List.mem_range.2 hj)
 have hll:l.toArray.size=l.length:=by simp
 have inv0:HeadInv .any l.toArray n (Array.replicate l.toArray.size false) :=
  ⟨by simp,fun j oj _ hl=>(by rw[getD_replicate_false]at hl;cases hl),fun t _ ht=>getD_in (by simpa using ht) (getD_replicate_false _ _)⟩
 have h0:∀ k,toCome (Array.replicate l.toArray.size false) k=k:=by
  intro k
  induction k with
  | zero=>rfl
  | succ k ih =>
   unfold toCome
   rw[ih,getD_replicate_false]
   simp
   omega
 refine wp_region_any hm ?_
 have:=wpAny_dloose (P:=P) (kl:=kl) (R:=R) (KK:=KK) (V:=V) (Q:=Q) (g:=l.toArray.size - n) (a:=a) hs hc hlt ho hV hKK hstep (fun listed a' w' hall inv HK K=>by
  have hlist:listed=heads l.toArray.size n:=by
   refine Array.ext (by rw[inv.size];simp[heads]) fun j h1 h2=>?_
   have hj:j<l.toArray.size:=by rw[←inv.size];exact h1
   have e2:(heads l.toArray.size n)[j]=decide (j<n):=by simp[heads]
   rw[e2]
   by_cases hjn:j<n
   ·have:=hall j hjn
    rw[Array.getD_eq_getD_getElem?,Array.getElem?_eq_getElem h1]at this
    simpa [hjn]using this
   ·have:=inv.tail j (by omega) hj
    rw[Array.getD_eq_getD_getElem?,Array.getElem?_eq_getElem h1]at this
    simpa [hjn]using this
  have hdl:(l.drop n).length=l.toArray.size - n:=by simp
  have hw:=wpAny_of_seq (P:=P) (md:=.any) (ops:=l.toArray) (Q':=Q) (l.drop n) n listed a' w' (fun j=>by simp[List.getElem?_drop]) (by rw[hdl,hlist];exact hseq) (by
   have ht:=htail (fun j=>a'.eval (.tmp (((l.toArray[j]?).bind (·.dst)).getD 0))) w' listed HK (fun j hj hnd=>by
    obtain⟨o,d,hoj,_,hd,_⟩:=opB_spec (ho j hj)
    have:=K.held j o d hj hoj (hall j hj) hd (fun q hq hdq=>by
     have:=List.all_eq_true.1 hnd q (List.mem_range.2 hq)
     rw[hdq]at this
     cases this)
    simpa [hoj,hd]using this)
   have hta:∀ i o,(l.take n)[i]? = some o→i<n∧l.toArray[i]? = some o:=fun i o h=>by
    have h1:i<(l.take n).length:=(List.getElem?_eq_some_iff.1 h).1
    have h2:i<n:=by simp at h1;omega
    rw[List.getElem?_take,if_pos h2]at h
    exact⟨h2,by simpa using h⟩
   have e:putL (l.take n) (fun j=>a'.eval (.tmp (((l.toArray[j]?).bind (·.dst)).getD 0))) 0 a=a':=act_eq (by rw[putL_def,K.defs]) fun s=>by
    by_cases hw:∃ j oj,j<n∧l.toArray[j]? = some oj∧oj.dst=some s
    ·obtain⟨j,oj,hj,hoj,hd⟩:=hw
     obtain⟨o,d,hoj',_,hd',hds,hdis,_⟩:=opB_spec (ho j hj)
     obtain rfl:oj=o:=Option.some.inj (hoj.symm.trans hoj')
     obtain rfl:s=d:=Option.some.inj (hd.symm.trans hd')
     rw[putL_some (l.take n) _ 0 a j oj (by rw[List.getElem?_take,if_pos hj];simpa using hoj) hd hds fun i o' hi hij hd2=>hdis i o' (hta i o' hi).1 hij (hta i o' hi).2 hd2]
     rw[Nat.zero_add,hoj]
     show some (a'.eval (.tmp ((oj.dst).getD 0)))=_
     rw[hd]
     show some (a'.eval (.tmp s))=_
     rw[eval_get,Array.getElem?_eq_getElem (by rw[K.size];exact hds)]
     rfl
    ·rw[putL_none _ _ _ _ fun o ho' hd=>by
      obtain⟨i,hi,he⟩:=List.getElem_of_mem ho'
      have:=hta i o (by rw[List.getElem?_eq_getElem hi,he])
      exact hw ⟨i,o,this.1,this.2,hd⟩]
     exact(K.same s fun j oj hj hoj hd=>hw ⟨j,oj,hj,hoj,hd⟩).symm
   rw[e]at ht
   exact ht)
  rwa [hdl]at hw) n _ a { w with drawn:=w.drawn+1 } inv0 (h0 n) h0K ⟨rfl,rfl,fun _ _=>rfl,fun j oj d _ _ hl=>by rw[getD_replicate_false]at hl;cases hl⟩
 rwa [show n+(l.toArray.size - n)=l.toArray.size by omega]at this
end
end Go.Proofs.YtmhghnbgllaihaaGreatDoor
