import Derived.Test.YtmhghnbgllaihaaGreatDoorWholeMP2Z2
import Derived.Sort.Grow
import Derived.Ground.SlsfProg
import Derived.Test.YtmhghnbgllaihaaGreatDoorProg
import Derived.Shelf.SlSortCmp.NoneTotal
import Derived.Test.YtmhghnbgllaihaaGreatDoorSoBP2Z2
import Derived.Test.YtmhghnbgllaihaaGreatDoorSpDP2Z2
set_option linter.unusedVariables false
set_option maxHeartbeats 16000000

namespace Go.Proofs.YtmhghnbgllaihaaGreatDoor
open Go.RowKit
def Gro (w w':World):Prop:=New w w'∧w.drawn≤w'.drawn
theorem Gro.refl (w:World):Gro w w:=⟨New.refl _,Nat.le_refl _⟩
theorem Gro.trans {a b c:World} (h:Gro a b) (k:Gro b c):Gro a c:=⟨h.1.trans k.1,Nat.le_trans h.2 k.2⟩
theorem Gro.snart {a b c:World} (k:Gro b c) (h:Gro a b):Gro a c:=h.trans k
theorem Gro.alloc {a w:World} (h:Gro a w) (o:Obj):Gro a (w.alloc o):=⟨h.1.alloc o,h.2⟩
theorem Gro.drew {a w:World} (h:Gro a w):Gro a w.drew:=⟨h.1.drew,Nat.le_succ_of_le h.2⟩
theorem Gro.drewN {a w:World} (h:Gro a w) (n:Nat):Gro a (w.drewN n):=⟨h.1.drewN n,Nat.le_trans h.2 (Nat.le_add_right _ _)⟩
theorem Gro.setB {a w:World} {p:Addr} (hp:a.heap.size≤p.block) (h:Gro a w) (u:Value):Gro a (w.setCell p u):=⟨h.1.setCell hp u,h.2⟩
theorem Gro.grow {w w':World} (h:Gro w w'):∃ q os,w'=Go.Sort.grow (w.drewN q) os:=by
 obtain⟨⟨h1,h2,h3,h4,h5⟩,hd⟩:=h
 refine⟨w'.drawn - w.drawn,w'.heap.extract w.heap.size w'.heap.size,?_⟩
 obtain⟨hp,tp,dr,os,ou⟩:=w'
 obtain⟨hp',tp',dr',os',ou'⟩:=w
 simp only at h1 h2 h3 h4 h5 hd
 subst h1 h2 h3
 simp only[Go.Sort.grow,World.drewN,World.mk.injEq]
 refine⟨?_,trivial,by omega,trivial,trivial⟩
 apply Array.ext_getElem?
 intro i
 rw[Array.getElem?_append]
 split
 ·exact h5 i ‹_›
 ·rename_i hi
  rw[Array.getElem?_extract]
  split
  ·congr 1;omega
  ·rw[Array.getElem?_eq_none];omega
section
variable {P:Program} {ops:Array Oper} {W:World} {n:Nat}
structure GInv (ops:Array Oper) (W:World) (n:Nat) (V:Nat→World→Value→Prop) (a:Act) (listed:Array Bool) (a':Act) (w':World):Prop where
 new:Gro W w'
 defs:a'.defers=a.defers
 size:a'.tmps.size=a.tmps.size
 same:∀ s,(∀ j oj,j<n→ops[j]? = some oj→oj.dst≠some s)→a'.tmps[s]? = a.tmps[s]?
 held:∀ j oj d,j<n→ops[j]? = some oj→listed.getD j false=true→oj.dst=some d→V j w' (a'.eval (.tmp d))
theorem wpAny_gloose {V:Nat→World→Value→Prop} {a:Act} {Q:Exit→Act→World→Prop} {g:Nat} (hs:Region.sinkB .any ops n=true) (hc:chain2B ops n=true) (hlt:n<ops.size) (ho:∀ j,j<n→opB ops n a.tmps.size j=true)
  (hV:∀ i w w' v,V i w v→Gro w w'→V i w' v)
  (hstep:∀ i o,i<n→ops[i]? = some o→∀ a' w',Gro W w'→(∀ t,restsB ops n t=true→a'.eval (.tmp t)=a.eval (.tmp t))→(∀ j d,j<n→waitsB o j=true→(ops[j]?).bind (·.dst)=some d→V j w' (a'.eval (.tmp d)))→Yields P o a' w' fun v w''=>Gro w' w''∧V i w'' v)
  (hL:∀ listed a' w',(∀ j,j<n→listed.getD j false=true)→HeadInv .any ops n listed→GInv ops W n V a listed a' w'→wpAny P .any ops Q g listed a' w') :
  ∀ (f:Nat) (listed:Array Bool) (a':Act) (w':World),HeadInv .any ops n listed→toCome listed n=f→GInv ops W n V a listed a' w'→wpAny P .any ops Q (f+g) listed a' w'
 | 0,listed,a',w',inv,hf,K=>by rw[Nat.zero_add];exact hL _ _ _ (toCome_zero n hf) inv K
 | f+1,listed,a',w',inv,hf,K=>by
  rw[show f+1+g=(f+g)+1 by omega]
  obtain⟨i0,hi0,hm0⟩:=exists_least (toCome_some n (by omega:0<toCome listed n))
  obtain⟨o0,d0,ho0,_,_,_,_,haf⟩:=opB_spec (ho i0 hi0.1)
  have hsz:i0<listed.size:=by rw[inv.size];omega
  have hr0:i0∈Region.ready .any ops listed:=mem_ready.2 ⟨getD_in hsz hi0.2,o0,ho0,fun e he hb=>by
   have h1:=haf e he hb
   cases hl:listed.getD e.on false with
   | true=>rfl
   | false=>have:=hm0 e.on ⟨by omega,hl⟩;omega⟩
  refine⟨fun h0=>absurd hr0 (by rw[h0];simp),fun i hi=>?_⟩
  have hin:i<n:=Nat.lt_of_not_le fun h=>tail_waits2 hs hc hlt inv i0 hi0.1 (getD_in hsz hi0.2) i h hi
  obtain⟨hun,o',ho',hall⟩:=mem_ready.1 hi
  obtain⟨o,d,hoi,hg,hd,hds,hdis,_⟩:=opB_spec (ho i hin)
  obtain rfl:o'=o:=Option.some.inj (ho'.symm.trans hoi)
  unfold wpOp
  simp only[hoi]
  have hw:Region.wanted o' (yielded ops a'.tmps)=true:=by unfold Region.wanted;rw[hg]
  rw[if_pos hw]
  refine .inl (yields_wp (hstep i o' hin hoi a' w' K.new (fun t ht=>?_) (fun j dj hj hwj hdj=>?_)) fun v w'' ⟨hn,hv⟩=>?_)
  ·rw[eval_get,eval_get,K.same t fun j oj hj hoj hd'=>by
    have h1:=List.all_eq_true.1 ht j (List.mem_range.2 hj)
    simp only[hoj,bne_iff_ne]at h1
    exact h1 hd']
  ·obtain⟨e,he,hb⟩:=Array.any_eq_true'.1 hwj
   simp only[Bool.and_eq_true,beq_iff_eq]at hb
   have h1:=hall e he hb.1
   rw[hb.2]at h1
   cases hoj:ops[j]? with
   | none=>rw[hoj]at hdj;cases hdj
   | some oj =>
    rw[hoj]at hdj
    exact K.held j oj dj hj hoj h1 hdj
  ·rw[hd]
   refine wpAny_gloose hs hc hlt ho hV hstep hL f _ _ _ (inv.set hi hin) (by have:=toCome_set (by rw[inv.size];omega) (getD_both hun) n hin;omega) ⟨K.new.trans hn,by rw[put_def];exact K.defs,by rw[put_size];exact K.size,fun s h=>?_,fun j oj dj hj hoj hl hdj=>?_⟩
   ·rw[put_get_ne (by rintro _ ⟨rfl⟩ e;subst e;exact h i o' hin hoi hd)]
    exact K.same s h
   ·by_cases hji:j=i
    ·subst hji
     obtain rfl:oj=o':=Option.some.inj (hoj.symm.trans hoi)
     obtain rfl:dj=d:=Option.some.inj (hdj.symm.trans hd)
     rw[eval_get,put_get_eq (by rw[K.size];exact hds)]
     exact hv
    ·rw[getD_set_ne false (fun e=>hji e.symm)]at hl
     have h1:=hdis j oj hj hji hoj
     rw[eval_get,put_get_ne (by rintro _ ⟨rfl⟩ e;subst e;exact h1 hdj),←eval_get]
     exact hV _ _ _ _ (K.held j oj dj hj hoj hl hdj) hn
theorem wp_region_gloose {id:Nat} {Q:Exit→Act→World→Prop} {a:Act} {w:World} {l:List Oper} (n:Nat) (V:Nat→World→Value→Prop) (hm:P.follows .mixedOrders=true) (hB:looseB l.toArray n a.tmps.size=true)
  (hV:∀ i w w' v,V i w v→Gro w w'→V i w' v)
  (hstep:∀ i o,i<n→l.toArray[i]? = some o→∀ a' w',Gro w w'→(∀ t,restsB l.toArray n t=true→a'.eval (.tmp t)=a.eval (.tmp t))→(∀ j d,j<n→waitsB o j=true→(l.toArray[j]?).bind (·.dst)=some d→V j w' (a'.eval (.tmp d)))→Yields P o a' w' fun v w''=>Gro w' w''∧V i w'' v)
  (htail:∀ vs w',Gro w w'→(∀ j,j<n→V j w' (vs j))→wpList P l.toArray Q (l.drop n) (putL (l.take n) vs 0 a) w'):(Code.region id l.toArray true).wp P Q a w:=by
 simp only[looseB,Bool.and_eq_true,decide_eq_true_eq]at hB
 obtain⟨⟨⟨⟨hs,hc⟩,hlt⟩,hops⟩,hseq⟩:=hB
 have ho:∀ j,j<n→opB l.toArray n a.tmps.size j=true:=fun j hj=>List.all_eq_true.1 hops j (List.mem_range.2 hj)
 have hll:l.toArray.size=l.length:=by simp
 have inv0:HeadInv .any l.toArray n (Array.replicate l.toArray.size false) :=
  ⟨by simp,fun j oj _ hl=>(by rw[getD_replicate_false]at hl;cases hl),fun t _ ht=>getD_in (by simpa using ht) (getD_replicate_false _ _)⟩
 have h0:∀ k,toCome (Array.replicate l.toArray.size false) k=k:=by
  intro k
  induction k with
  | zero=>rfl
  | succ k ih =>
   unfold toCome
   rw[ih,getD_replicate_false]
   simp
   omega
 refine wp_region_any hm ?_
 have:=wpAny_gloose (P:=P) (W:=w) (V:=V) (Q:=Q) (g:=l.toArray.size - n) (a:=a) hs hc hlt ho hV hstep (fun listed a' w' hall inv K=>by
  have hlist:listed=heads l.toArray.size n:=by
   refine Array.ext (by rw[inv.size];simp[heads]) fun j h1 h2=>?_
   have hj:j<l.toArray.size:=by rw[←inv.size];exact h1
   have e2:(heads l.toArray.size n)[j]=decide (j<n):=by simp[heads]
   rw[e2]
   by_cases hjn:j<n
   ·have:=hall j hjn
    rw[Array.getD_eq_getD_getElem?,Array.getElem?_eq_getElem h1]at this
    simpa [hjn]using this
   ·have:=inv.tail j (by omega) hj
    rw[Array.getD_eq_getD_getElem?,Array.getElem?_eq_getElem h1]at this
    simpa [hjn]using this
  have hdl:(l.drop n).length=l.toArray.size - n:=by simp
  have hw:=wpAny_of_seq (P:=P) (md:=.any) (ops:=l.toArray) (Q':=Q) (l.drop n) n listed a' w' (fun j=>by simp[List.getElem?_drop]) (by rw[hdl,hlist];exact hseq) (by
   have ht:=htail (fun j=>a'.eval (.tmp (((l.toArray[j]?).bind (·.dst)).getD 0))) w' K.new (fun j hj=>by
    obtain⟨o,d,hoj,_,hd,_⟩:=opB_spec (ho j hj)
    have:=K.held j o d hj hoj (hall j hj) hd
    simpa [hoj,hd]using this)
   have hta:∀ i o,(l.take n)[i]? = some o→i<n∧l.toArray[i]? = some o:=fun i o h=>by
    have h1:i<(l.take n).length:=(List.getElem?_eq_some_iff.1 h).1
    have h2:i<n:=by simp at h1;omega
    rw[List.getElem?_take,if_pos h2]at h
    exact⟨h2,by simpa using h⟩
   have e:putL (l.take n) (fun j=>a'.eval (.tmp (((l.toArray[j]?).bind (·.dst)).getD 0))) 0 a=a':=act_eq (by rw[putL_def,K.defs]) fun s=>by
    by_cases hw:∃ j oj,j<n∧l.toArray[j]? = some oj∧oj.dst=some s
    ·obtain⟨j,oj,hj,hoj,hd⟩:=hw
     obtain⟨o,d,hoj',_,hd',hds,hdis,_⟩:=opB_spec (ho j hj)
     obtain rfl:oj=o:=Option.some.inj (hoj.symm.trans hoj')
     obtain rfl:s=d:=Option.some.inj (hd.symm.trans hd')
     rw[putL_some (l.take n) _ 0 a j oj (by rw[List.getElem?_take,if_pos hj];simpa using hoj) hd hds fun i o' hi hij hd2=>hdis i o' (hta i o' hi).1 hij (hta i o' hi).2 hd2]
     rw[Nat.zero_add,hoj]
     show some (a'.eval (.tmp ((oj.dst).getD 0)))=_
     rw[hd]
     show some (a'.eval (.tmp s))=_
     rw[eval_get,Array.getElem?_eq_getElem (by rw[K.size];exact hds)]
     rfl
    ·rw[putL_none _ _ _ _ fun o ho' hd=>by
      obtain⟨i,hi,he⟩:=List.getElem_of_mem ho'
      have:=hta i o (by rw[List.getElem?_eq_getElem hi,he])
      exact hw ⟨i,o,this.1,this.2,hd⟩]
     exact(K.same s fun j oj hj hoj hd=>hw ⟨j,oj,hj,hoj,hd⟩).symm
   rw[e]at ht
   exact ht)
  rwa [hdl]at hw) n _ a { w with drawn:=w.drawn+1 } inv0 (h0 n) ⟨Gro.drew (Gro.refl w),rfl,rfl,fun _ _=>rfl,fun j oj d _ _ hl=>by rw[getD_replicate_false]at hl;cases hl⟩
 rwa [show n+(l.toArray.size - n)=l.toArray.size by omega]at this
end
end Go.Proofs.YtmhghnbgllaihaaGreatDoor

namespace Go.Proofs.YtmhghnbgllaihaaGreatDoor
open Go.Shelf
def laysSlFs_ren:Go.Shelf.Ren:=⟨fun|6=>200|15=>235|14=>234|28=>263|29=>264|20=>255|21=>256|22=>257|23=>258|24=>259|25=>260|26=>261|27=>262|46=>275|47=>276|48=>277|49=>278|50=>279|57=>295|n=>n,fun|22=>147|24=>180|25=>276|3=>3|39=>300|0=>0|53=>326|55=>328|4=>4|46=>320|45=>319|50=>186|5=>5|9=>9|66=>345|70=>349|76=>362|77=>31|n=>n,fun|n=>n⟩
theorem laysSlFs:Go.Proofs.SlLaysF0.n6 Tryz.prog laysSlFs_ren:={
 mixed:=by kernel_rfl
 f6:=⟨Tryz.f200.name,by decide,Tryz.func200.trans (congrArg some (by kernel_rfl))⟩
 f14:=⟨Tryz.f234.name,by decide,Tryz.func234.trans (congrArg some (by kernel_rfl))⟩
 f15:=Tryz.func235.trans (congrArg some (by kernel_rfl))
 f20:=⟨Tryz.f255.name,by decide,Tryz.func255.trans (congrArg some (by kernel_rfl))⟩
 f21:=⟨Tryz.f256.name,by decide,Tryz.func256.trans (congrArg some (by kernel_rfl))⟩
 f22:=⟨Tryz.f257.name,by decide,Tryz.func257.trans (congrArg some (by kernel_rfl))⟩
 f23:=⟨Tryz.f258.name,by decide,Tryz.func258.trans (congrArg some (by kernel_rfl))⟩
 f24:=⟨Tryz.f259.name,by decide,Tryz.func259.trans (congrArg some (by kernel_rfl))⟩
 f25:=⟨Tryz.f260.name,by decide,Tryz.func260.trans (congrArg some (by kernel_rfl))⟩
 f26:=⟨Tryz.f261.name,by decide,Tryz.func261.trans (congrArg some (by kernel_rfl))⟩
 f27:=⟨Tryz.f262.name,by decide,Tryz.func262.trans (congrArg some (by kernel_rfl))⟩
 f28:=Tryz.func263.trans (congrArg some (by kernel_rfl))
 f29:=Tryz.func264.trans (congrArg some (by kernel_rfl))
 f46:=⟨Tryz.f275.name,by decide,Tryz.func275.trans (congrArg some (by kernel_rfl))⟩
 f47:=Tryz.func276.trans (congrArg some (by kernel_rfl))
 f48:=Tryz.func277.trans (congrArg some (by kernel_rfl))
 f49:=⟨Tryz.f278.name,by decide,Tryz.func278.trans (congrArg some (by kernel_rfl))⟩
 f50:=⟨Tryz.f279.name,by decide,Tryz.func279.trans (congrArg some (by kernel_rfl))⟩
 f57:=⟨Tryz.f295.name,by decide,Tryz.func295.trans (congrArg some (by kernel_rfl))⟩
 t0:=Tryz.underlying0
 a0:=Tryz.isAgg0
 z0:=Tryz.sizeOf0
 v0:=Tryz.zeroValue0
 t3:=Tryz.underlying3
 a3:=Tryz.isAgg3
 z3:=Tryz.sizeOf3
 v3:=Tryz.zeroValue3
 t4:=Tryz.underlying4
 a4:=Tryz.isAgg4
 z4:=Tryz.sizeOf4
 v4:=Tryz.zeroValue4
 t5:=Tryz.underlying5
 a5:=Tryz.isAgg5
 z5:=Tryz.sizeOf5
 v5:=Tryz.zeroValue5
 t9:=Tryz.underlying9
 a9:=Tryz.isAgg9
 z9:=Tryz.sizeOf9
 v9:=Tryz.zeroValue9
 t22:=Tryz.underlying147
 a22:=Tryz.isAgg147
 z22:=Tryz.sizeOf147
 v22:=Tryz.zeroValue147
 t25:=Tryz.underlying276
 a25:=Tryz.isAgg276
 z25:=Tryz.sizeOf276
 v25:=Tryz.zeroValue276
 t39:=Tryz.underlying300
 a39:=Tryz.isAgg300
 z39:=Tryz.sizeOf300
 v39:=Tryz.zeroValue300
 t45:=Tryz.underlying319
 a45:=Tryz.isAgg319
 z45:=Tryz.sizeOf319
 v45:=Tryz.zeroValue319
 t46:=Tryz.underlying320
 a46:=Tryz.isAgg320
 z46:=Tryz.sizeOf320
 v46:=Tryz.zeroValue320
 t50:=Tryz.underlying186
 a50:=Tryz.isAgg186
 z50:=Tryz.sizeOf186
 v50:=Tryz.zeroValue186
 t53:=Tryz.underlying326
 a53:=Tryz.isAgg326
 z53:=Tryz.sizeOf326
 v53:=Tryz.zeroValue326
 t55:=Tryz.underlying328
 a55:=Tryz.isAgg328
 z55:=Tryz.sizeOf328
 v55:=Tryz.zeroValue328
 t66:=Tryz.underlying345
 a66:=Tryz.isAgg345
 z66:=Tryz.sizeOf345
 v66:=Tryz.zeroValue345
 t70:=Tryz.underlying349
 a70:=Tryz.isAgg349
 z70:=Tryz.sizeOf349
 v70:=Tryz.zeroValue349
 t76:=Tryz.underlying362
 a76:=Tryz.isAgg362
 z76:=Tryz.sizeOf362
 v76:=Tryz.zeroValue362
 t77:=Tryz.underlying31
 a77:=Tryz.isAgg31
 z77:=Tryz.sizeOf31
 v77:=Tryz.zeroValue31 }
end Go.Proofs.YtmhghnbgllaihaaGreatDoor

namespace Go.Proofs.YtmhghnbgllaihaaGreatDoor
open Go.RowKit Go.Sort Go.Shelf Go.Lib
theorem holdsS_of_wrow {w:World} {b:Nat} {d:Array Sn} (h:WRowS w b d.toList):HoldsK Sn.enc 3 w b 0 d:=by
 intro j hj
 rw[size_flatK]at hj
 rw[get_flatK _ _ _ _ hj]
 have h1:j / 3<d.size:=by omega
 have h2:j % 3<3:=Nat.mod_lt _ (by omega)
 have hl:d.toList.length=d.size:=by simp
 refine⟨?_,by rw[Nat.zero_add];exact h.free j (by rw[hl];exact hj)⟩
 have hr:=h.row (j / 3) (by rw[hl];exact h1) (j % 3) (by rw[Sn.enc_len];exact h2)
 rw[show 0+j / 3*3+j % 3=0+j by omega]at hr
 rw[hr]
 have e1:d[j / 3]! = d[j / 3]:=getElem!_pos d _ h1
 have e2:d.toList[j / 3]'(by rw[hl];exact h1)=d[j / 3]:=by simp
 rw[e1]
 show some (d.toList[j / 3].enc[j % 3])=some ((d[j / 3].enc)[j % 3]!)
 rw[getElem!_pos _ (j % 3) (by rw[Sn.enc_len];exact h2)]
 simp only[e2]
theorem wrowS_of_holds {w:World} {b:Nat} {d:Array Sn} (h:HoldsK Sn.enc 3 w b 0 d):WRowS w b d.toList:=by
 have hl:d.toList.length=d.size:=by simp
 refine⟨fun j hj i hi=>?_,fun j hj=>?_⟩
 ·have hj':j<d.size:=by rw[hl]at hj;exact hj
  have hi':i<3:=by rw[Sn.enc_len]at hi;exact hi
  rw[(HoldsK.cell h hj' hi').1]
  have e1:d[j]! = d[j]:=getElem!_pos d _ hj'
  have e2:d.toList[j]=d[j]:=by simp
  rw[e1]
  show some ((d[j].enc)[i]!)=some (d.toList[j].enc[i])
  rw[getElem!_pos _ i (by rw[Sn.enc_len];exact hi')]
  simp only[e2]
 ·rw[hl]at hj
  have:=(h j (by rw[size_flatK];exact hj)).2
  rwa [Nat.zero_add]at this
theorem cmpS_neg {a b:Int}:cmpI a b<0↔a<b:=by unfold cmpI;split <;> (try split) <;> omega
def cfS (a b:Sn):Int:=cmpI a.lo b.lo
theorem ltS_of (x y:Sn):ltOf cfS x y=true↔x.lo<y.lo:=by
 unfold ltOf cfS;rw[decide_eq_true_eq,cmpS_neg]
theorem ltS_not (x y:Sn):ltOf cfS x y=false↔¬ x.lo<y.lo:=by
 rw[←ltS_of,Bool.not_eq_true]
theorem swoS:SWO (ltOf cfS) where
 irrefl x:=(ltS_not x x).2 (by omega)
 trans x y z h1 h2:=(ltS_of x z).2 (by have:=(ltS_of x y).1 h1;have:=(ltS_of y z).1 h2;omega)
 ntrans x y z h1 h2:=(ltS_not x z).2 (by have:=(ltS_not x y).1 h1;have:=(ltS_not y z).1 h2;omega)
theorem sp_less (a b:Sn) (w:World) :
  Calls Tryz.prog 201 #[.agg #[.int .i64 a.lo,.int .i64 a.hi,.bool a.wk],.agg #[.int .i64 b.lo,.int .i64 b.hi,.bool b.wk]] w fun e w'=>e=.returned (.int .i64 (cfS a b))∧Gro w w':=by
 have K:=Lib.hid (fun W=>l_cmp a.lo b.lo W)
 unfold cfS
 generalize cmpI a.lo b.lo=r at *
 go_enter Tryz.func201,Tryz.ntmps201
 go_wp2_with fail
 refine(K.out _).mono ?_
 rintro e w' ⟨rfl,rfl⟩
 go_wp2_with fail
 go_ret
 exact⟨rfl,by(repeat(first|(with_reducible exact Gro.refl _)|(with_reducible assumption)|((with_reducible refine Gro.setB ?_ ?_ _);focus(first|omega|(simp;omega)|(simp;done)))|(with_reducible refine Gro.alloc ?_ _)|(with_reducible refine Gro.drew ?_)|(with_reducible refine Gro.drewN ?_ _)|((with_reducible apply Gro.snart);(with_reducible assumption))))⟩
theorem cmpLaysS (blk off size:Nat) (w:World):CmpLays Tryz.prog 201 #[] Sn.enc 3 cfS blk off size w :=
 fun _ _ _ _ x y=>(sp_less x y _).mono fun _ _ ⟨he,hg⟩=>⟨he,hg.grow⟩
theorem newS_sortWorld {a w:World} (h:New a w) {b:Nat} (hb:a.heap.size≤b) (n:Nat) (d:Array Sn) (os:Array Obj):New a (sortWorldK Sn.enc 3 w b 0 n d os):=by
 have e:∀ k,k≠b→k<w.heap.size→(sortWorldK Sn.enc 3 w b 0 n d os).heap[k]? = w.heap[k]? := fun k hk hs=>by
  unfold sortWorldK
  rw[heap_grow_old _ _ (by rw[size_putRowK];exact hs)]
  show((w.heap).modify b _)[k]? = _
  rw[Array.getElem?_modify,if_neg (by omega)]
 refine⟨h.os,h.tape,h.output,Nat.le_trans h.size (size_sortWorldK_c Sn.enc 3 w b 0 n d os),fun k hk=>?_⟩
 rw[e k (by omega) (Nat.lt_of_lt_of_le hk h.size)]
 exact h.block k hk
theorem permS_perm {α:Type} [Inhabited α] {d d':Array α} (h:PermIn 0 d.size d d'):d'.toList.Perm d.toList:=by
 obtain⟨h1,-,h3⟩:=h
 have e1:d'.extract 0 d.size=d':=by rw[←h1];exact Array.extract_size
 have e2:d.extract 0 d.size=d:=Array.extract_size
 rwa [e1,e2]at h3
theorem sp_sort (g cap:Nat) (l:List Sn) (hn:l.length<4611686018427387904) (w:World) (h:WRowS w g l) (hg:g<w.heap.size) :
  Calls Tryz.prog 200 #[.slice (some ⟨g,0,none⟩) l.length cap,.func (.func 201) #[] #[]] w fun e w'=>e=.returned (.tuple #[]) ∧
   ∃ m:List Sn,m.Perm l∧m.Pairwise (fun a b=>a.lo≤b.lo)∧WRowS w' g m∧∀ a,New a w→a.heap.size≤g→New a w':=by
 obtain⟨d,hd⟩:∃ d:Array Sn,d.toList=l:=⟨l.toArray,rfl⟩
 subst hd
 have eg:∀ args w,(callFunc 201 args).run Tryz.prog w=.ok (.enter 201 args) w:=enters_of Tryz.func201 (by kernel_rfl) rfl
 have hsz:d.toList.length=d.size:=by simp
 rw[hsz]at hn ⊢
 have hH:=holdsS_of_wrow h
 have hcon:=AnyQ.slices_SortFunc laysSlFs 3 (fun _=>by kernel_rfl) (fun _=>by kernel_rfl) Sn.enc (fun x=>Sn.enc_len x) (fun x=>Sn.enc_one x) cfS swoS 201 #[] g 0 cap d w eg (cmpLaysS g 0 d.size w) hH hg hn
 change Calls Tryz.prog 200 _ _ _ at hcon
 refine hcon.mono ?_
 rintro e w' ⟨he,d',n,os,hp,hs,rfl⟩
 have hp':=permS_perm hp
 have hds:d'.size=d.size:=hp.1
 refine⟨he,d'.toList,hp',?_,wrowS_of_holds (holdsK_sortWorldK_c Sn.enc 3 w g 0 d d' n os hH hg hds),fun a ha hb=>newS_sortWorld ha hb n d' os⟩
 rw[List.pairwise_iff_getElem]
 intro i j hi hj hij
 simp only[Array.length_toList]at hi hj
 have:=hs i j (Nat.zero_le _) hij (by omega)
 rw[ltS_not,getElem!_pos d' j hj,getElem!_pos d' i hi]at this
 have e1:d'.toList[i]=d'[i]:=by simp
 have e2:d'.toList[j]=d'[j]:=by simp
 rw[e1,e2]
 omega
end Go.Proofs.YtmhghnbgllaihaaGreatDoor
