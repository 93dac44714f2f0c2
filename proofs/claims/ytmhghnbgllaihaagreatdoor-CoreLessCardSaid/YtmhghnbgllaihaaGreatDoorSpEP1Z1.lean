import Derived.Ground.SlsfProg
import Derived.Test.YtmhghnbgllaihaaGreatDoorProg
import Derived.Shelf.SlSortCmp.NoneTotal
import Derived.Test.YtmhghnbgllaihaaGreatDoorRaCP1Z1
import Derived.Test.YtmhghnbgllaihaaGreatDoorSoBP1Z1
import Derived.Test.YtmhghnbgllaihaaGreatDoorSpDP1Z1

namespace Go.Proofs.YtmhghnbgllaihaaGreatDoor
open Go.Shelf
def laysSlFs_ren:Go.Shelf.Ren:=⟨fun|6=>200|15=>235|14=>234|28=>263|29=>264|20=>255|21=>256|22=>257|23=>258|24=>259|25=>260|26=>261|27=>262|46=>275|47=>276|48=>277|49=>278|50=>279|57=>295|n=>n,fun|22=>147|24=>180|25=>276|3=>3|39=>300|0=>0|53=>326|55=>328|4=>4|46=>320|45=>319|50=>186|5=>5|9=>9|66=>345|70=>349|76=>362|77=>31|n=>n,fun|n=>n⟩
theorem laysSlFs:Go.Proofs.SlLaysF0.n6 Tryz.prog laysSlFs_ren:={
  mixed:=by kernel_rfl
  f6:=⟨Tryz.f200.name,by decide,Tryz.func200.trans (congrArg some (by kernel_rfl))⟩
  f14:=⟨Tryz.f234.name,by decide,Tryz.func234.trans (congrArg some (by kernel_rfl))⟩
  f15:=Tryz.func235.trans (congrArg some (by kernel_rfl))
  f20:=⟨Tryz.f255.name,by decide,Tryz.func255.trans (congrArg some (by kernel_rfl))⟩
  f21:=⟨Tryz.f256.name,by decide,Tryz.func256.trans (congrArg some (by kernel_rfl))⟩
  f22:=⟨Tryz.f257.name,by decide,Tryz.func257.trans (congrArg some (by kernel_rfl))⟩
  f23:=⟨Tryz.f258.name,by decide,Tryz.func258.trans (congrArg some (by kernel_rfl))⟩
  f24:=⟨Tryz.f259.name,by decide,Tryz.func259.trans (congrArg some (by kernel_rfl))⟩
  f25:=⟨Tryz.f260.name,by decide,Tryz.func260.trans (congrArg some (by kernel_rfl))⟩
  f26:=⟨Tryz.f261.name,by decide,Tryz.func261.trans (congrArg some (by kernel_rfl))⟩
  f27:=⟨Tryz.f262.name,by decide,Tryz.func262.trans (congrArg some (by kernel_rfl))⟩
  f28:=Tryz.func263.trans (congrArg some (by kernel_rfl))
  f29:=Tryz.func264.trans (congrArg some (by kernel_rfl))
  f46:=⟨Tryz.f275.name,by decide,Tryz.func275.trans (congrArg some (by kernel_rfl))⟩
  f47:=Tryz.func276.trans (congrArg some (by kernel_rfl))
  f48:=Tryz.func277.trans (congrArg some (by kernel_rfl))
  f49:=⟨Tryz.f278.name,by decide,Tryz.func278.trans (congrArg some (by kernel_rfl))⟩
  f50:=⟨Tryz.f279.name,by decide,Tryz.func279.trans (congrArg some (by kernel_rfl))⟩
  f57:=⟨Tryz.f295.name,by decide,Tryz.func295.trans (congrArg some (by kernel_rfl))⟩
  t0:=Tryz.underlying0
  a0:=Tryz.isAgg0
  z0:=Tryz.sizeOf0
  v0:=Tryz.zeroValue0
  t3:=Tryz.underlying3
  a3:=Tryz.isAgg3
  z3:=Tryz.sizeOf3
  v3:=Tryz.zeroValue3
  t4:=Tryz.underlying4
  a4:=Tryz.isAgg4
  z4:=Tryz.sizeOf4
  v4:=Tryz.zeroValue4
  t5:=Tryz.underlying5
  a5:=Tryz.isAgg5
  z5:=Tryz.sizeOf5
  v5:=Tryz.zeroValue5
  t9:=Tryz.underlying9
  a9:=Tryz.isAgg9
  z9:=Tryz.sizeOf9
  v9:=Tryz.zeroValue9
  t22:=Tryz.underlying147
  a22:=Tryz.isAgg147
  z22:=Tryz.sizeOf147
  v22:=Tryz.zeroValue147
  t25:=Tryz.underlying276
  a25:=Tryz.isAgg276
  z25:=Tryz.sizeOf276
  v25:=Tryz.zeroValue276
  t39:=Tryz.underlying300
  a39:=Tryz.isAgg300
  z39:=Tryz.sizeOf300
  v39:=Tryz.zeroValue300
  t45:=Tryz.underlying319
  a45:=Tryz.isAgg319
  z45:=Tryz.sizeOf319
  v45:=Tryz.zeroValue319
  t46:=Tryz.underlying320
  a46:=Tryz.isAgg320
  z46:=Tryz.sizeOf320
  v46:=Tryz.zeroValue320
  t50:=Tryz.underlying186
  a50:=Tryz.isAgg186
  z50:=Tryz.sizeOf186
  v50:=Tryz.zeroValue186
  t53:=Tryz.underlying326
  a53:=Tryz.isAgg326
  z53:=Tryz.sizeOf326
  v53:=Tryz.zeroValue326
  t55:=Tryz.underlying328
  a55:=Tryz.isAgg328
  z55:=Tryz.sizeOf328
  v55:=Tryz.zeroValue328
  t66:=Tryz.underlying345
  a66:=Tryz.isAgg345
  z66:=Tryz.sizeOf345
  v66:=Tryz.zeroValue345
  t70:=Tryz.underlying349
  a70:=Tryz.isAgg349
  z70:=Tryz.sizeOf349
  v70:=Tryz.zeroValue349
  t76:=Tryz.underlying362
  a76:=Tryz.isAgg362
  z76:=Tryz.sizeOf362
  v76:=Tryz.zeroValue362
  t77:=Tryz.underlying31
  a77:=Tryz.isAgg31
  z77:=Tryz.sizeOf31
  v77:=Tryz.zeroValue31 }
end Go.Proofs.YtmhghnbgllaihaaGreatDoor

namespace Go.Proofs.YtmhghnbgllaihaaGreatDoor
open Go.RowKit Go.Sort Go.Shelf Go.Lib
set_option linter.unusedVariables false
theorem holdsS_of_wrow {w:World} {b:Nat} {d:Array Sn} (h:WRowS w b d.toList):HoldsK Sn.enc 3 w b 0 d:=by
  intro j hj
  rw[size_flatK]at hj
  rw[get_flatK _ _ _ _ hj]
  have h1:j / 3<d.size:=by omega
  have h2:j % 3<3:=Nat.mod_lt _ (by omega)
  have hl:d.toList.length=d.size:=by simp
  refine⟨?_,by rw[Nat.zero_add];exact h.free j (by rw[hl];exact hj)⟩
  have hr:=h.row (j / 3) (by rw[hl];exact h1) (j % 3) (by rw[Sn.enc_len];exact h2)
  rw[show 0+j / 3*3+j % 3=0+j by omega]at hr
  rw[hr]
  have e1:d[j / 3]! = d[j / 3]:=getElem!_pos d _ h1
  have e2:d.toList[j / 3]'(by rw[hl];exact h1)=d[j / 3]:=by simp
  rw[e1]
  show some (d.toList[j / 3].enc[j % 3])=some ((d[j / 3].enc)[j % 3]!)
  rw[getElem!_pos _ (j % 3) (by rw[Sn.enc_len];exact h2)]
  simp only[e2]
theorem wrowS_of_holds {w:World} {b:Nat} {d:Array Sn} (h:HoldsK Sn.enc 3 w b 0 d):WRowS w b d.toList:=by
  have hl:d.toList.length=d.size:=by simp
  refine⟨fun j hj i hi=>?_,fun j hj=>?_⟩
  · have hj':j<d.size:=by rw[hl]at hj;exact hj
    have hi':i<3:=by rw[Sn.enc_len]at hi;exact hi
    rw[(HoldsK.cell h hj' hi').1]
    have e1:d[j]! = d[j]:=getElem!_pos d _ hj'
    have e2:d.toList[j]=d[j]:=by simp
    rw[e1]
    show some ((d[j].enc)[i]!)=some (d.toList[j].enc[i])
    rw[getElem!_pos _ i (by rw[Sn.enc_len];exact hi')]
    simp only[e2]
  · rw[hl]at hj
    have:=(h j (by rw[size_flatK];exact hj)).2
    rwa [Nat.zero_add]at this
theorem cmpS_neg {a b:Int}:cmpI a b<0↔a<b:=by unfold cmpI;split <;> (try split) <;> omega
def cfS (a b:Sn):Int:=cmpI a.lo b.lo
theorem ltS_of (x y:Sn):ltOf cfS x y=true↔x.lo<y.lo:=by
  unfold ltOf cfS;rw[decide_eq_true_eq,cmpS_neg]
theorem ltS_not (x y:Sn):ltOf cfS x y=false↔¬ x.lo<y.lo:=by
  rw[←ltS_of,Bool.not_eq_true]
theorem swoS:SWO (ltOf cfS) where
  irrefl x:=(ltS_not x x).2 (by omega)
  trans x y z h1 h2:=(ltS_of x z).2 (by have:=(ltS_of x y).1 h1;have:=(ltS_of y z).1 h2;omega)
  ntrans x y z h1 h2:=(ltS_not x z).2 (by have:=(ltS_not x y).1 h1;have:=(ltS_not y z).1 h2;omega)
set_option maxHeartbeats 1000000 in
theorem sp_less (a b:Sn) (w:World) :
    Calls Tryz.prog 201 #[.agg #[.int .i64 a.lo,.int .i64 a.hi,.bool a.wk],.agg #[.int .i64 b.lo,.int .i64 b.hi,.bool b.wk]] w fun e w'=>e=.returned (.int .i64 (cfS a b))∧Gro w w':=by
  have K:=Lib.hid (fun W=>l_cmp a.lo b.lo W)
  unfold cfS
  generalize cmpI a.lo b.lo=r at *
  go_enter Tryz.func201,Tryz.ntmps201
  go_wp2_with fail
  refine(K.out _).mono ?_
  rintro e w' ⟨rfl,rfl⟩
  go_wp2_with fail
  go_ret
  exact⟨rfl,by(repeat(first|(with_reducible exact Gro.refl _)|(with_reducible assumption)|((with_reducible refine Gro.setB ?_ ?_ _);focus(first|omega|(simp;omega)|(simp;done)))|(with_reducible refine Gro.alloc ?_ _)|(with_reducible refine Gro.drew ?_)|(with_reducible refine Gro.drewN ?_ _)|((with_reducible apply Gro.snart);(with_reducible assumption))))⟩
theorem cmpLaysS (blk off size:Nat) (w:World):CmpLays Tryz.prog 201 #[] Sn.enc 3 cfS blk off size w :=
  fun _ _ _ _ x y=>(sp_less x y _).mono fun _ _ ⟨he,hg⟩=>⟨he,hg.grow⟩
theorem newS_sortWorld {a w:World} (h:New a w) {b:Nat} (hb:a.heap.size≤b) (n:Nat) (d:Array Sn) (os:Array Obj):New a (sortWorldK Sn.enc 3 w b 0 n d os):=by
  have e:∀ k,k≠b→k<w.heap.size→(sortWorldK Sn.enc 3 w b 0 n d os).heap[k]? = w.heap[k]? := fun k hk hs=>by
    unfold sortWorldK
    rw[heap_grow_old _ _ (by rw[size_putRowK];exact hs)]
    show((w.heap).modify b _)[k]? = _
    rw[Array.getElem?_modify,if_neg (by omega)]
  refine⟨h.os,h.tape,h.output,Nat.le_trans h.size (size_sortWorldK_c Sn.enc 3 w b 0 n d os),fun k hk=>?_⟩
  rw[e k (by omega) (Nat.lt_of_lt_of_le hk h.size)]
  exact h.block k hk
theorem permS_perm {α:Type} [Inhabited α] {d d':Array α} (h:PermIn 0 d.size d d'):d'.toList.Perm d.toList:=by
  obtain⟨h1,-,h3⟩:=h
  have e1:d'.extract 0 d.size=d':=by rw[←h1];exact Array.extract_size
  have e2:d.extract 0 d.size=d:=Array.extract_size
  rwa [e1,e2]at h3
set_option maxHeartbeats 1000000 in
theorem sp_sort (g cap:Nat) (l:List Sn) (hn:l.length<4611686018427387904) (w:World) (h:WRowS w g l) (hg:g<w.heap.size) :
    Calls Tryz.prog 200 #[.slice (some ⟨g,0,none⟩) l.length cap,.func (.func 201) #[] #[]] w fun e w'=>e=.returned (.tuple #[]) ∧
      ∃ m:List Sn,m.Perm l∧m.Pairwise (fun a b=>a.lo≤b.lo)∧WRowS w' g m∧∀ a,New a w→a.heap.size≤g→New a w':=by
  obtain⟨d,hd⟩:∃ d:Array Sn,d.toList=l:=⟨l.toArray,rfl⟩
  subst hd
  have eg:∀ args w,(callFunc 201 args).run Tryz.prog w=.ok (.enter 201 args) w:=enters_of Tryz.func201 (by kernel_rfl) rfl
  have hsz:d.toList.length=d.size:=by simp
  rw[hsz]at hn ⊢
  have hH:=holdsS_of_wrow h
  have hcon:=AnyQ.slices_SortFunc laysSlFs 3 (fun _=>by kernel_rfl) (fun _=>by kernel_rfl) Sn.enc (fun x=>Sn.enc_len x) (fun x=>Sn.enc_one x) cfS swoS 201 #[] g 0 cap d w eg (cmpLaysS g 0 d.size w) hH hg hn
  change Calls Tryz.prog 200 _ _ _ at hcon
  refine hcon.mono ?_
  rintro e w' ⟨he,d',n,os,hp,hs,rfl⟩
  have hp':=permS_perm hp
  have hds:d'.size=d.size:=hp.1
  refine⟨he,d'.toList,hp',?_,wrowS_of_holds (holdsK_sortWorldK_c Sn.enc 3 w g 0 d d' n os hH hg hds),fun a ha hb=>newS_sortWorld ha hb n d' os⟩
  rw[List.pairwise_iff_getElem]
  intro i j hi hj hij
  simp only[Array.length_toList]at hi hj
  have:=hs i j (Nat.zero_le _) hij (by omega)
  rw[ltS_not,getElem!_pos d' j hj,getElem!_pos d' i hi]at this
  have e1:d'.toList[i]=d'[i]:=by simp
  have e2:d'.toList[j]=d'[j]:=by simp
  rw[e1,e2]
  omega
end Go.Proofs.YtmhghnbgllaihaaGreatDoor
