import Derived.Ground.SlsfProg
import Derived.Test.YtmhghnbgllaihaaGreatDoorProg
import Derived.Shelf.SlSortCmp.NoneTotal
import Derived.Test.YtmhghnbgllaihaaGreatDoorClDP1Z1
import Derived.Test.YtmhghnbgllaihaaGreatDoorSoLSP1Z1
import Derived.Test.YtmhghnbgllaihaaGreatDoorSoSP1Z1
import Derived.Laws.IdiomCopy
import Derived.Test.YtmhghnbgllaihaaGreatDoorSpPP1Z1
import Derived.Test.YtmhghnbgllaihaaGreatDoorSpEP1Z1
import Derived.Test.YtmhghnbgllaihaaGreatDoorSpJP1Z1
import Derived.Test.YtmhghnbgllaihaaGreatDoorOgIP1Z1
import Derived.Test.YtmhghnbgllaihaaGreatDoorClBP1Z1
import Derived.Deep.DeepCutAuto

namespace Go.Proofs.YtmhghnbgllaihaaGreatDoor
open Go.Shelf
def laysSortF_ren:Go.Shelf.Ren:=⟨fun|6=>248|15=>235|14=>273|28=>263|29=>264|20=>287|21=>288|22=>289|23=>290|24=>291|25=>292|26=>293|27=>294|46=>298|47=>276|48=>277|49=>299|50=>300|57=>301|n=>n,fun|22=>262|24=>267|25=>316|3=>3|39=>300|0=>0|53=>326|55=>328|4=>4|46=>320|45=>319|50=>186|5=>5|9=>9|66=>345|70=>349|76=>362|77=>31|n=>n,fun|n=>n⟩
theorem laysSortF:Go.Proofs.SlLaysF0.n6 Tryz.prog laysSortF_ren:={
  mixed:=by kernel_rfl
  f6:=⟨Tryz.f248.name,by decide,Tryz.func248.trans (congrArg some (by kernel_rfl))⟩
  f14:=⟨Tryz.f273.name,by decide,Tryz.func273.trans (congrArg some (by kernel_rfl))⟩
  f15:=Tryz.func235.trans (congrArg some (by kernel_rfl))
  f20:=⟨Tryz.f287.name,by decide,Tryz.func287.trans (congrArg some (by kernel_rfl))⟩
  f21:=⟨Tryz.f288.name,by decide,Tryz.func288.trans (congrArg some (by kernel_rfl))⟩
  f22:=⟨Tryz.f289.name,by decide,Tryz.func289.trans (congrArg some (by kernel_rfl))⟩
  f23:=⟨Tryz.f290.name,by decide,Tryz.func290.trans (congrArg some (by kernel_rfl))⟩
  f24:=⟨Tryz.f291.name,by decide,Tryz.func291.trans (congrArg some (by kernel_rfl))⟩
  f25:=⟨Tryz.f292.name,by decide,Tryz.func292.trans (congrArg some (by kernel_rfl))⟩
  f26:=⟨Tryz.f293.name,by decide,Tryz.func293.trans (congrArg some (by kernel_rfl))⟩
  f27:=⟨Tryz.f294.name,by decide,Tryz.func294.trans (congrArg some (by kernel_rfl))⟩
  f28:=Tryz.func263.trans (congrArg some (by kernel_rfl))
  f29:=Tryz.func264.trans (congrArg some (by kernel_rfl))
  f46:=⟨Tryz.f298.name,by decide,Tryz.func298.trans (congrArg some (by kernel_rfl))⟩
  f47:=Tryz.func276.trans (congrArg some (by kernel_rfl))
  f48:=Tryz.func277.trans (congrArg some (by kernel_rfl))
  f49:=⟨Tryz.f299.name,by decide,Tryz.func299.trans (congrArg some (by kernel_rfl))⟩
  f50:=⟨Tryz.f300.name,by decide,Tryz.func300.trans (congrArg some (by kernel_rfl))⟩
  f57:=⟨Tryz.f301.name,by decide,Tryz.func301.trans (congrArg some (by kernel_rfl))⟩
  t0:=Tryz.underlying0
  a0:=Tryz.isAgg0
  z0:=Tryz.sizeOf0
  v0:=Tryz.zeroValue0
  t3:=Tryz.underlying3
  a3:=Tryz.isAgg3
  z3:=Tryz.sizeOf3
  v3:=Tryz.zeroValue3
  t4:=Tryz.underlying4
  a4:=Tryz.isAgg4
  z4:=Tryz.sizeOf4
  v4:=Tryz.zeroValue4
  t5:=Tryz.underlying5
  a5:=Tryz.isAgg5
  z5:=Tryz.sizeOf5
  v5:=Tryz.zeroValue5
  t9:=Tryz.underlying9
  a9:=Tryz.isAgg9
  z9:=Tryz.sizeOf9
  v9:=Tryz.zeroValue9
  t22:=Tryz.underlying262
  a22:=Tryz.isAgg262
  z22:=Tryz.sizeOf262
  v22:=Tryz.zeroValue262
  t25:=Tryz.underlying316
  a25:=Tryz.isAgg316
  z25:=Tryz.sizeOf316
  v25:=Tryz.zeroValue316
  t39:=Tryz.underlying300
  a39:=Tryz.isAgg300
  z39:=Tryz.sizeOf300
  v39:=Tryz.zeroValue300
  t45:=Tryz.underlying319
  a45:=Tryz.isAgg319
  z45:=Tryz.sizeOf319
  v45:=Tryz.zeroValue319
  t46:=Tryz.underlying320
  a46:=Tryz.isAgg320
  z46:=Tryz.sizeOf320
  v46:=Tryz.zeroValue320
  t50:=Tryz.underlying186
  a50:=Tryz.isAgg186
  z50:=Tryz.sizeOf186
  v50:=Tryz.zeroValue186
  t53:=Tryz.underlying326
  a53:=Tryz.isAgg326
  z53:=Tryz.sizeOf326
  v53:=Tryz.zeroValue326
  t55:=Tryz.underlying328
  a55:=Tryz.isAgg328
  z55:=Tryz.sizeOf328
  v55:=Tryz.zeroValue328
  t66:=Tryz.underlying345
  a66:=Tryz.isAgg345
  z66:=Tryz.sizeOf345
  v66:=Tryz.zeroValue345
  t70:=Tryz.underlying349
  a70:=Tryz.isAgg349
  z70:=Tryz.sizeOf349
  v70:=Tryz.zeroValue349
  t76:=Tryz.underlying362
  a76:=Tryz.isAgg362
  z76:=Tryz.sizeOf362
  v76:=Tryz.zeroValue362
  t77:=Tryz.underlying31
  a77:=Tryz.isAgg31
  z77:=Tryz.sizeOf31
  v77:=Tryz.zeroValue31 }
end Go.Proofs.YtmhghnbgllaihaaGreatDoor

namespace Go.Proofs.YtmhghnbgllaihaaGreatDoor
open Go.RowKit Go.Sort Go.Shelf Go.Lib
set_option linter.unusedVariables false
structure GC where
  c:Co
  ok:Okc c
instance:Inhabited GC:=⟨⟨⟨0,0,0,1⟩,by unfold Okc;simp⟩⟩
def GC.enc (g:GC):List Value:=g.c.enc
theorem GC.pos (g:GC):0<g.c.d:=by have:=g.ok.1;omega
structure WRow (w:World) (b:Nat) (l:List Co):Prop where
  row:RowAt Co.enc 4 w b 0 l
  free:∀ j,j<l.length*4→w.frozen? ⟨b,j,none⟩=false
theorem WRow.of_own {w:World} {base g cap:Nat} {e:TypeId} {l:List Co} (h:w.ownsRow base e 4 (.slice (some ⟨g,0,none⟩) l.length cap) l.length (l.flatMap Co.enc)):WRow w g l :=
  ⟨fun j hj=>by
    obtain⟨-,-,-,-,hr⟩:=(own_sl Co.enc_len h).row
    obtain⟨b,off,e,hA⟩:=hr (by omega)
    injection e with e;injection e with e1 e2
    subst e1 e2
    exact hA j hj,fun j _=>World.ownsRow.frozenAt h j⟩
theorem holds_of_wrow {w:World} {b:Nat} {d:Array GC} (h:WRow w b (d.toList.map GC.c)):HoldsK GC.enc 4 w b 0 d:=by
  intro j hj
  rw[size_flatK]at hj
  rw[get_flatK _ _ _ _ hj]
  have h1:j / 4<d.size:=by omega
  have h2:j % 4<4:=Nat.mod_lt _ (by omega)
  have hl:(d.toList.map GC.c).length=d.size:=by simp
  refine⟨?_,by rw[Nat.zero_add];exact h.free j (by rw[hl];exact hj)⟩
  have hr:=h.row (j / 4) (by rw[hl];exact h1) (j % 4) (by rw[Co.enc_len];exact h2)
  rw[show 0+j / 4*4+j % 4=0+j by omega]at hr
  rw[hr]
  have e1:d[j / 4]! = d[j / 4]:=getElem!_pos d _ h1
  have e2:(d.toList.map GC.c)[j / 4]'(by rw[hl];exact h1)=d[j / 4].c:=by simp
  rw[e1]
  show some ((d.toList.map GC.c)[j / 4].enc[j % 4])=some ((d[j / 4].c.enc)[j % 4]!)
  rw[getElem!_pos _ (j % 4) (by rw[Co.enc_len];exact h2)]
  simp only[e2]
theorem wrow_of_holds {w:World} {b:Nat} {d:Array GC} (h:HoldsK GC.enc 4 w b 0 d):WRow w b (d.toList.map GC.c):=by
  have hl:(d.toList.map GC.c).length=d.size:=by simp
  refine⟨fun j hj i hi=>?_,fun j hj=>?_⟩
  · have hj':j<d.size:=by rw[hl]at hj;exact hj
    have hi':i<4:=by rw[Co.enc_len]at hi;exact hi
    rw[(HoldsK.cell h hj' hi').1]
    have e1:d[j]! = d[j]:=getElem!_pos d _ hj'
    have e2:(d.toList.map GC.c)[j]=d[j].c:=by simp
    rw[e1]
    show some ((d[j].c.enc)[i]!)=some ((d.toList.map GC.c)[j].enc[i])
    rw[getElem!_pos _ i (by rw[Co.enc_len];exact hi')]
    simp only[e2]
  · rw[hl]at hj
    have:=(h j (by rw[size_flatK];exact hj)).2
    rwa [Nat.zero_add]at this
theorem cmp_neg {a b:Int}:cmpI a b<0↔a<b:=by unfold cmpI;split <;> (try split) <;> omega
theorem cmp_zero {a b:Int}:cmpI a b=0↔a=b:=by unfold cmpI;split <;> (try split) <;> omega
theorem cf_lt (a b:Co):cfC a b<0↔ltC a b:=by
  unfold cfC orI ltC
  split
  · rename_i h
    rw[cmp_zero]at h
    rw[cmp_neg]
    omega
  · rename_i h
    rw[cmp_zero]at h
    rw[cmp_neg]
    omega
theorem lt_of (x y:GC):ltOf (fun a b:GC=>cfC a.c b.c) x y=true↔ltC x.c y.c:=by
  unfold ltOf;rw[decide_eq_true_eq,cf_lt]
theorem lt_not (x y:GC):ltOf (fun a b:GC=>cfC a.c b.c) x y=false↔¬ ltC x.c y.c:=by
  rw[←lt_of,Bool.not_eq_true]
theorem swoC:SWO (ltOf fun a b:GC=>cfC a.c b.c) where
  irrefl x:=(lt_not x x).2 (ltC_irrefl _)
  trans x y z h1 h2:=(lt_of x z).2 (ltC_trans x.pos y.pos z.pos ((lt_of x y).1 h1) ((lt_of y z).1 h2))
  ntrans x y z h1 h2:=(lt_not x z).2 (nlt_trans x.pos y.pos z.pos ((lt_not x y).1 h1) ((lt_not y z).1 h2))
theorem cmpLaysC (blk off size:Nat) (w:World):CmpLays Tryz.prog 249 #[] GC.enc 4 (fun a b=>cfC a.c b.c) blk off size w :=
  fun _ _ _ _ x y=>(k_less x.c y.c _ x.ok y.ok).mono fun _ _ ⟨he,hg⟩=>⟨he,hg.grow⟩
theorem new_sortWorld {a w:World} (h:New a w) {b:Nat} (hb:a.heap.size≤b) (n:Nat) (d:Array GC) (os:Array Obj):New a (sortWorldK GC.enc 4 w b 0 n d os):=by
  have e:∀ k,k≠b→k<w.heap.size→(sortWorldK GC.enc 4 w b 0 n d os).heap[k]? = w.heap[k]? := fun k hk hs=>by
    unfold sortWorldK
    rw[heap_grow_old _ _ (by rw[size_putRowK];exact hs)]
    show((w.heap).modify b _)[k]? = _
    rw[Array.getElem?_modify,if_neg (by omega)]
  refine⟨h.os,h.tape,h.output,Nat.le_trans h.size (size_sortWorldK_c GC.enc 4 w b 0 n d os),fun k hk=>?_⟩
  rw[e k (by omega) (Nat.lt_of_lt_of_le hk h.size)]
  exact h.block k hk
theorem permIn_perm {α:Type} [Inhabited α] {d d':Array α} (h:PermIn 0 d.size d d'):d'.toList.Perm d.toList:=by
  obtain⟨h1,-,h3⟩:=h
  have e1:d'.extract 0 d.size=d':=by rw[←h1];exact Array.extract_size
  have e2:d.extract 0 d.size=d:=Array.extract_size
  rwa [e1,e2]at h3
set_option maxHeartbeats 1000000 in
theorem k_sort (g cap:Nat) (l:List Co) (hl:∀ c∈l,Okc c) (hn:l.length<4611686018427387904) (w:World) (h:WRow w g l) (hg:g<w.heap.size) :
    Calls Tryz.prog 248 #[.slice (some ⟨g,0,none⟩) l.length cap,.func (.func 249) #[] #[]] w fun e w'=>e=.returned (.tuple #[]) ∧
      ∃ m:List Co,m.Perm l∧m.Pairwise (fun a b=>¬ ltC b a)∧WRow w' g m∧∀ a,New a w→a.heap.size≤g→New a w':=by
  obtain⟨L,hL⟩:∃ L:List GC,L.map GC.c=l:=list_map_of GC.c Okc l hl fun y hy=>⟨⟨y,hy⟩,rfl⟩
  obtain⟨d,hd⟩:∃ d:Array GC,d.toList=L:=⟨L.toArray,rfl⟩
  subst hd
  subst hL
  have eg:∀ args w,(callFunc 249 args).run Tryz.prog w=.ok (.enter 249 args) w:=enters_of Tryz.func249 (by kernel_rfl) rfl
  have hsz:((d.toList.map GC.c).length)=d.size:=by simp
  rw[hsz]at hn ⊢
  have hH:=holds_of_wrow h
  have hcon:=AnyQ.slices_SortFunc laysSortF 4 (fun _=>by kernel_rfl) (fun _=>by kernel_rfl) GC.enc (fun x=>Co.enc_len x.c) (fun x=>Co.enc_one x.c) (fun a b=>cfC a.c b.c) swoC 249 #[] g 0 cap d w eg (cmpLaysC g 0 d.size w) hH hg hn
  change Calls Tryz.prog 248 _ _ _ at hcon
  refine hcon.mono ?_
  rintro e w' ⟨he,d',n,os,hp,hs,rfl⟩
  have hp':=permIn_perm hp
  have hds:d'.size=d.size:=hp.1
  refine⟨he,d'.toList.map GC.c,hp'.map _,?_,wrow_of_holds (holdsK_sortWorldK_c GC.enc 4 w g 0 d d' n os hH hg hds),fun a ha hb=>new_sortWorld ha hb n d' os⟩
  rw[List.pairwise_map,List.pairwise_iff_getElem]
  intro i j hi hj hij
  simp only[Array.length_toList]at hi hj
  have:=hs i j (Nat.zero_le _) hij (by omega)
  rw[lt_not,getElem!_pos d' j hj,getElem!_pos d' i hi]at this
  simpa using this
end Go.Proofs.YtmhghnbgllaihaaGreatDoor

namespace Go.Proofs.YtmhghnbgllaihaaGreatDoor
open Go.RowKit
set_option linter.unusedVariables false
def cmpU (l:List Co):Nat→List Co
  | 0=>[]
  | n+1=>if h:n<l.length then (if n=0∨¬ l[n - 1]=l[n]then cmpU l n++[l[n]]else cmpU l n)else cmpU l n
theorem cmpU_keep {l:List Co} {n:Nat} (h:n<l.length) (hk:n=0∨¬ l[n - 1]=l[n]):cmpU l (n+1)=cmpU l n++[l[n]]:=by
  rw[cmpU,dif_pos h,if_pos hk]
theorem cmpU_skip {l:List Co} {n:Nat} (h:n<l.length) (h0:0<n) (hk:l[n - 1]=l[n]):cmpU l (n+1)=cmpU l n:=by
  rw[cmpU,dif_pos h,if_neg (by intro q;rcases q with q|q;omega;exact q hk)]
theorem cmpU_one {l:List Co} (h:0<l.length):cmpU l 1=l.take 1:=by
  rw[cmpU_keep h (.inl rfl),List.take_succ_eq_append_getElem h];rfl
theorem mem_cmpU {l:List Co}:∀ n c,c∈cmpU l n↔c∈l.take n
  | 0,c=>by simp[cmpU]
  | n+1,c=>by
    by_cases h:n<l.length
    · by_cases hk:n=0∨¬ l[n - 1]=l[n]
      · rw[cmpU_keep h hk,List.take_succ_eq_append_getElem h,List.mem_append,List.mem_append,mem_cmpU n c]
      · have h0:0<n:=by omega
        have e:l[n - 1]=l[n]:=Classical.byContradiction fun q=>hk (.inr q)
        rw[cmpU_skip h h0 e,List.take_succ_eq_append_getElem h,List.mem_append,mem_cmpU n c]
        constructor
        · exact .inl
        · rintro(q|q)
          · exact q
          · rw[List.mem_singleton]at q
            subst q
            rw[←e]
            have:n - 1<(l.take n).length:=by simp;omega
            have e2:=List.getElem_mem this
            rwa [List.getElem_take]at e2
    · rw[cmpU,dif_neg h,mem_cmpU n c,List.take_of_length_le (by omega),List.take_of_length_le (by omega)]
theorem cmpU_rise {l:List Co} (hd:∀ c∈l,0<c.d) (h1:∀ a∈l,∀ b∈l,a.x*b.d=b.x*a.d→a.z*b.d=b.z*a.d→a=b) (hs:l.Pairwise (fun a b=>¬ ltC b a)):∀ n,(cmpU l n).Pairwise ltC
  | 0=>List.Pairwise.nil
  | n+1=>by
    by_cases h:n<l.length
    · by_cases hk:n=0∨¬ l[n - 1]=l[n]
      · rw[cmpU_keep h hk,List.pairwise_append]
        refine⟨cmpU_rise hd h1 hs n,List.pairwise_singleton _ _,fun e he c hc=>?_⟩
        rw[List.mem_singleton]at hc
        subst hc
        have he':=(mem_cmpU n e).1 he
        obtain⟨i,hi,rfl⟩:=List.getElem_of_mem he'
        have hin:i<n:=by simp at hi;omega
        rw[List.getElem_take]
        have hil:i<l.length:=by omega
        have g1:=List.pairwise_iff_getElem.1 hs i n hil h hin
        rcases ltC_tri l[i] l[n]with q|q|⟨q1,q2⟩
        · exact q
        · exact absurd q g1
        · exfalso
          have e1:l[i]=l[n]:=h1 _ (List.getElem_mem _) _ (List.getElem_mem _) q1 q2
          rcases hk with hk|hk
          · omega
          · apply hk
            by_cases hi1:i=n - 1
            · subst hi1;exact e1
            · have g2:=List.pairwise_iff_getElem.1 hs i (n - 1) hil (by omega) (by omega)
              have g3:=List.pairwise_iff_getElem.1 hs (n - 1) n (by omega) h (by omega)
              rw[e1]at g2
              rcases ltC_tri l[n - 1] l[n]with q|q|⟨q1,q2⟩
              · exact absurd q g2
              · exact absurd q g3
              · exact h1 _ (List.getElem_mem _) _ (List.getElem_mem _) q1 q2
      · have h0:0<n:=by omega
        have e:l[n - 1]=l[n]:=Classical.byContradiction fun q=>hk (.inr q)
        rw[cmpU_skip h h0 e]
        exact cmpU_rise hd h1 hs n
    · rw[cmpU,dif_neg h]
      exact cmpU_rise hd h1 hs n
theorem cmpU_len {l:List Co}:∀ n,(cmpU l n).length≤n
  | 0=>by simp[cmpU]
  | n+1=>by
    rw[cmpU]
    have:=cmpU_len (l:=l) n
    split
    · split
      · simp;omega
      · omega
    · omega
def Upon (w:World) (g:Nat) (w':World):Prop:=∀ a,New a w→a.heap.size≤g→New a w'
theorem Upon.refl (w:World) (g:Nat):Upon w g w:=fun _ h _=>h
theorem Upon.new {a b c:World} {g:Nat} (h:Upon a g b) (k:New b c):Upon a g c:=fun x hx hg=>(h x hx hg).trans k
theorem Upon.setCells {w w':World} {g:Nat} (h:Upon w g w') (o:Nat) (vs:List Value):Upon w g (w'.setCells g o vs):=fun a ha hg=>new_setCells (h a ha hg) hg vs o
theorem WRow.keep {w w':World} {b:Nat} {l:List Co} (h:WRow w b l) (hn:New w w'):WRow w' b l :=
  ⟨h.row.keep hn,fun j hj=>by
    have hq:j / 4<l.length:=by omega
    have hc:=h.row (j / 4) hq (j % 4) (by rw[Co.enc_len];exact Nat.mod_lt _ (by omega))
    rw[show 0+j / 4*4+j % 4=j by omega]at hc
    exact hn.keepF hc (h.free j hj)⟩
theorem co_cells {w:World} {b:Nat} {l:List Co} (H:WRow w b l) (j:Nat) (h:j<l.length) :
    w.cell? ⟨b,j*4,none⟩=some (.int .i64 l[j].x)∧w.cell? ⟨b,j*4+1,none⟩=some (.int .i64 l[j].z)∧w.cell? ⟨b,j*4+2,none⟩=some (.int .i64 l[j].y)∧w.cell? ⟨b,j*4+3,none⟩=some (.int .i64 l[j].d):=by
  have h0:=H.row j h 0 (by rw[Co.enc_len];omega)
  have h1:=H.row j h 1 (by rw[Co.enc_len];omega)
  have h2:=H.row j h 2 (by rw[Co.enc_len];omega)
  have h3:=H.row j h 3 (by rw[Co.enc_len];omega)
  simp only[Nat.zero_add,Nat.add_zero]at h0 h1 h2 h3
  exact⟨h0,h1,h2,h3⟩
theorem WRow.there {w:World} {b:Nat} {l:List Co} (H:WRow w b l) (o n:Nat) (h:o+n≤l.length*4):w.there b o n:=fun j hj=>by
  have hq:(o+j) / 4<l.length:=by omega
  have hc:=H.row ((o+j) / 4) hq ((o+j) % 4) (by rw[Co.enc_len];exact Nat.mod_lt _ (by omega))
  rw[show 0+(o+j) / 4*4+(o+j) % 4=o+j by omega]at hc
  exact⟨by rw[hc];rfl,H.free _ (by omega)⟩
theorem frozen_setCells (b:Nat):∀ (vs:List Value) (o:Nat) (w:World) (x:Addr),(w.setCells b o vs).frozen? x=w.frozen? x
  | [],_,_,_=>rfl
  | v::vs,o,w,x=>by
    rw[World.setCells,frozen_setCells b vs (o+1)]
    simp
theorem WRow.put {w:World} {b:Nat} {l:List Co} (H:WRow w b l) (k:Nat) (hk:k<l.length) (c:Co):WRow (w.setCells b (k*4) c.enc) b (l.set k c):=by
  refine⟨fun j hj i hi=>?_,fun j hj=>?_⟩
  · have hj':j<l.length:=by simpa using hj
    have hi':i<4:=by rw[Co.enc_len]at hi;exact hi
    by_cases e:j=k
    · subst e
      have e1:(l.set j c)[j]=c:=by simp
      have:=World.rangeAt_setCells_same w b (j*4) c.enc (H.there _ _ (by rw[Co.enc_len];omega)) i (c.enc[i]'(by rw[Co.enc_len];exact hi')) (List.getElem?_eq_getElem _)
      rw[Nat.zero_add,this]
      simp only[e1]
    · rw[World.cell?_setCells_out b _ _ w ⟨b,0+j*4+i,none⟩ (fun _ _=>by
        show 0+j*4+i<k*4∨k*4+c.enc.length≤0+j*4+i
        rw[Co.enc_len]
        rcases Nat.lt_or_gt_of_ne e with q|q
        · left;omega
        · right;omega)]
      have e1:(l.set k c)[j]=l[j]:=by rw[List.getElem_set_ne (fun q=>e q.symm)]
      have:=H.row j hj' i (by rw[Co.enc_len];exact hi')
      rw[this]
      simp only[e1]
  · rw[frozen_setCells]
    exact H.free j (by simpa using hj)
theorem WRow.past {w:World} {b:Nat} {l:List Co} (H:WRow w b l) (n:Nat) (vs:List Value):RowAt Co.enc 4 (w.setCells b (n*4) vs) b 0 (l.take n):=fun j hj i hi=>by
  have hj':j<l.length:=by simp at hj;omega
  have hjn:j<n:=by simp at hj;omega
  have hi':i<4:=by rw[Co.enc_len]at hi;exact hi
  rw[World.cell?_setCells_out b _ _ w ⟨b,0+j*4+i,none⟩ (fun _ _=>.inl (by show 0+j*4+i<n*4;omega))]
  have e1:(l.take n)[j]=l[j]:=List.getElem_take
  have:=H.row j hj' i (by rw[Co.enc_len];exact hi')
  rw[this]
  simp only[e1]
theorem run_clear_any {P:Program} (w:World) (t e ty:TypeId) (z:Value) (ht:P.underlying t=some (.slice e)) (hv:∀ w,(zeroValue e).run P w=.ok z w) (hz:z.cells.size=4) (h1:∀ v∈z.cells.toList,v.oneCell'=true) (b o n c:Nat) (hn:0<n)
    (hth:w.there b o (n*4)):∃ vs,(Builtin.clear_ #[t] ty #[.slice (some ⟨b,o,none⟩) n c]).run P w=.ok (.tuple #[]) (w.setCells b o vs):=by
  refine⟨(Builtin.zeroCells z.cells n).toList,?_⟩
  have hl:(Builtin.zeroCells z.cells n).toList.length=n*4:=by simp[Builtin.zeroCells,hz]
  have hst:=run_storeCells_cells (P:=P) b o (Builtin.zeroCells z.cells n).toList 0 w (fun j hj=>by rw[Nat.add_zero];exact(hth j (by omega)).1) (fun j hj=>by rw[Nat.add_zero];exact(hth j (by omega)).2) (by
    intro v hv'
    unfold Builtin.zeroCells at hv'
    simp only[Array.toList_map,List.mem_map,Array.mem_toList_iff,Array.mem_range]at hv'
    obtain⟨i,hi,rfl⟩:=hv'
    have hlt:i % z.cells.size<z.cells.size:=Nat.mod_lt _ (by omega)
    rw[getElem!_pos z.cells _ hlt]
    exact h1 _ (by rw[Array.mem_toList_iff];exact Array.getElem_mem hlt))
  simp only[Nat.add_zero]at hst
  obtain⟨m,rfl⟩:∃ m,n=m+1:=⟨n - 1,by omega⟩
  simp[Builtin.clear_,run_underlying ht,hv,hst]
set_option maxHeartbeats 1000000 in
theorem co_eql (w:World) (a b:Co):(binOp .eql 267 (.agg #[.int .i64 a.x,.int .i64 a.z,.int .i64 a.y,.int .i64 a.d]) (.agg #[.int .i64 b.x,.int .i64 b.z,.int .i64 b.y,.int .i64 b.d])).run Tryz.prog w=.ok (.bool (a.eqB b)) w:=by
  unfold Co.eqB
  cases h1:(a.x==b.x) <;> cases h2:(a.z==b.z) <;> cases h3:(a.y==b.y) <;> cases h4:(a.d==b.d) <;> go_simp
set_option maxHeartbeats 1000000 in
theorem co_neq (w:World) (a b:Co):(binOp .neq 267 (.agg #[.int .i64 a.x,.int .i64 a.z,.int .i64 a.y,.int .i64 a.d]) (.agg #[.int .i64 b.x,.int .i64 b.z,.int .i64 b.y,.int .i64 b.d])).run Tryz.prog w=.ok (.bool (!a.eqB b)) w:=by
  unfold Co.eqB
  cases h1:(a.x==b.x) <;> cases h2:(a.z==b.z) <;> cases h3:(a.y==b.y) <;> cases h4:(a.d==b.d) <;> go_simp
end Go.Proofs.YtmhghnbgllaihaaGreatDoor

namespace Go.Proofs.YtmhghnbgllaihaaGreatDoor
open Go.RowKit
set_option linter.unusedVariables false
section
variable {P:Program} {ops:Array Oper} {W:World} {n e:Nat}
def sinkE (ops:Array Oper) (n e:Nat):Bool :=
  (List.range n).all fun i=>i==e||(List.range (n+1)).any fun j=>decide (i<j)&&j != e&&Region.waitsFor .any ops j i
theorem tail_waitsE {listed:Array Bool} (hs:sinkE ops n e=true) (hc:chain2B ops n=true) (hn:n<ops.size) (inv:HeadInv .any ops n listed) (i:Nat) (hi:i<n) (hie:i≠e) (hun:listed.getD i true=false) :
    ∀ t,n≤t→t∉Region.ready .any ops listed:=by
  intro t ht hr
  obtain⟨_,ot,hot,hall⟩:=mem_ready.1 hr
  have htlt:t<ops.size:=(Array.getElem?_eq_some_iff.1 hot).1
  by_cases htn:t=n
  · subst htn
    have key:∀ (d i:Nat),t - i=d→i<t→i≠e→listed.getD i true=false→False:=by
      intro d
      induction d using Nat.strongRecOn with
      | _ d ih =>
        intro i hd hi hie hun
        have h1:=List.all_eq_true.1 hs i (List.mem_range.2 hi)
        simp only[Bool.or_eq_true,beq_iff_eq,hie,false_or]at h1
        obtain⟨j,hj,hj2⟩:=List.any_eq_true.1 h1
        simp only[Bool.and_eq_true,decide_eq_true_eq,bne_iff_ne]at hj2
        obtain⟨oj,hoj,x,he,hb,hon⟩:=Region.waitsFor_spec hj2.2
        have hjle:j≤t:=by have:=List.mem_range.1 hj;omega
        by_cases hjt:j=t
        · subst hjt
          have:oj=ot:=Option.some.inj (hoj.symm.trans hot)
          subst this
          have h2:=hall x he hb
          rw[hon,getD_both hun]at h2
          cases h2
        · cases hl:listed.getD j false with
          | true =>
            have h2:=inv.closed j oj hoj hl x he hb
            rw[hon,getD_both hun]at h2
            cases h2
          | false =>
            have hjs:j<listed.size:=by rw[inv.size];omega
            exact ih (t - j) (by omega) j rfl (by omega) hj2.1.2 (getD_in hjs hl)
    exact key _ i rfl hi hie hun
  · have h1:=List.all_eq_true.1 hc t (List.mem_range.2 htlt)
    simp only[Bool.or_eq_true,decide_eq_true_eq]at h1
    rcases h1 with h1|h1
    · omega
    · obtain⟨j,hj,hj2⟩:=List.any_eq_true.1 h1
      simp only[Bool.and_eq_true,decide_eq_true_eq]at hj2
      have hjt:=List.mem_range.1 hj
      obtain⟨o',ho',x,he,hb,hon⟩:=Region.waitsFor_spec hj2.2
      have:o'=ot:=Option.some.inj (ho'.symm.trans hot)
      subst this
      have h2:=hall x he hb
      rw[hon,getD_both (inv.tail j hj2.1 (by omega))]at h2
      cases h2
theorem linv_step {V:Nat→World→Value→Prop} {a a':Act} {listed:Array Bool} {w' w'':World} {i d:Nat} {o:Oper} {v:Value} (hV:∀ i w w' v,V i w v→New w w'→V i w' v) (K:LInv ops W n V a listed a' w') (hin:i<n) (hoi:ops[i]? = some o) (hd:o.dst=some d) (hds:d<a.tmps.size)
    (hdis:∀ k o',k<n→k≠i→ops[k]? = some o'→o'.dst≠some d) (hn:New w' w'') (hv:V i w'' v):LInv ops W n V a (listed.setIfInBounds i true) (a'.put (some d) v) w'':=by
  refine⟨K.new.trans hn,by rw[put_def];exact K.defs,by rw[put_size];exact K.size,fun s h=>?_,fun j oj dj hj hoj hl hdj=>?_⟩
  · rw[put_get_ne (by rintro _ ⟨rfl⟩ x;subst x;exact h i o hin hoi hd)]
    exact K.same s h
  · by_cases hji:j=i
    · subst hji
      obtain rfl:oj=o:=Option.some.inj (hoj.symm.trans hoi)
      obtain rfl:dj=d:=Option.some.inj (hdj.symm.trans hd)
      rw[eval_get,put_get_eq (by rw[K.size];exact hds)]
      exact hv
    · rw[getD_set_ne false (fun x=>hji x.symm)]at hl
      have h1:=hdis j oj hj hji hoj
      rw[eval_get,put_get_ne (by rintro _ ⟨rfl⟩ x;subst x;exact h1 hdj),←eval_get]
      exact hV _ _ _ _ (K.held j oj dj hj hoj hl hdj) hn
theorem linv_putL {l:List Oper} {V:Nat→World→Value→Prop} {a a':Act} {listed:Array Bool} {w':World} (ho:∀ j,j<n→opB l.toArray n a.tmps.size j=true) (hall:∀ j,j<n→listed.getD j false=true) (K:LInv l.toArray W n V a listed a' w') :
    ∃ vs:Nat→Value,(∀ j,j<n→V j w' (vs j))∧putL (l.take n) vs 0 a=a':=by
  refine⟨fun j=>a'.eval (.tmp (((l.toArray[j]?).bind (·.dst)).getD 0)),fun j hj=>?_,?_⟩
  · obtain⟨o,d,hoj,_,hd,_⟩:=opB_spec (ho j hj)
    have:=K.held j o d hj hoj (hall j hj) hd
    show V j w' (a'.eval (.tmp (((l.toArray[j]?).bind (·.dst)).getD 0)))
    rw[hoj]
    show V j w' (a'.eval (.tmp (o.dst.getD 0)))
    rw[hd]
    exact this
  · have hta:∀ i o,(l.take n)[i]? = some o→i<n∧l.toArray[i]? = some o:=fun i o h=>by
      have h1:i<(l.take n).length:=(List.getElem?_eq_some_iff.1 h).1
      have h2:i<n:=by simp at h1;omega
      rw[List.getElem?_take,if_pos h2]at h
      exact⟨h2,by simpa using h⟩
    refine act_eq (by rw[putL_def,K.defs]) fun s=>?_
    by_cases hw:∃ j oj,j<n∧l.toArray[j]? = some oj∧oj.dst=some s
    · obtain⟨j,oj,hj,hoj,hd⟩:=hw
      obtain⟨o,d,hoj',_,hd',hds,hdis,_⟩:=opB_spec (ho j hj)
      obtain rfl:oj=o:=Option.some.inj (hoj.symm.trans hoj')
      obtain rfl:s=d:=Option.some.inj (hd.symm.trans hd')
      rw[putL_some (l.take n) _ 0 a j oj (by rw[List.getElem?_take,if_pos hj];simpa using hoj) hd hds fun i o' hi hij hd2=>hdis i o' (hta i o' hi).1 hij (hta i o' hi).2 hd2]
      rw[Nat.zero_add,hoj]
      show some (a'.eval (.tmp ((oj.dst).getD 0)))=_
      rw[hd]
      show some (a'.eval (.tmp s))=_
      rw[eval_get,Array.getElem?_eq_getElem (by rw[K.size];exact hds)]
      rfl
    · rw[putL_none _ _ _ _ fun o ho' hd=>by
        obtain⟨i,hi,he⟩:=List.getElem_of_mem ho'
        have:=hta i o (by rw[List.getElem?_eq_getElem hi,he])
        exact hw ⟨i,o,this.1,this.2,hd⟩]
      exact(K.same s fun j oj hj hoj hd=>hw ⟨j,oj,hj,hoj,hd⟩).symm
theorem wpAny_looseE {V:Nat→World→Value→Prop} {a:Act} {Q:Exit→Act→World→Prop} {g:Nat} (he:e<n) (hs:sinkE ops n e=true) (hc:chain2B ops n=true) (hlt:n<ops.size) (ho:∀ j,j<n→opB ops n a.tmps.size j=true)
    (hV:∀ i w w' v,V i w v→New w w'→V i w' v)
    (hstep:∀ i o,i<n→ops[i]? = some o→∀ a' w',New W w'→(∀ t,restsB ops n t=true→a'.eval (.tmp t)=a.eval (.tmp t))→(∀ j d,j<n→waitsB o j=true→(ops[j]?).bind (·.dst)=some d→V j w' (a'.eval (.tmp d)))→Yields P o a' w' fun v w''=>New w' w''∧V i w'' v)
    (hL:∀ listed a' w',(∀ j,j<n→listed.getD j false=true)→HeadInv .any ops n listed→LInv ops W n V a listed a' w'→wpAny P .any ops Q g listed a' w')
    (hE:∀ listed a' w',(∀ j,j<n→j≠e→listed.getD j false=true)→listed.getD e false=false→HeadInv .any ops n listed→LInv ops W n V a listed a' w'→wpAny P .any ops Q (g+1) listed a' w') :
    ∀ (f:Nat) (listed:Array Bool) (a':Act) (w':World),HeadInv .any ops n listed→toCome listed n=f→LInv ops W n V a listed a' w'→wpAny P .any ops Q (f+g) listed a' w'
  | 0,listed,a',w',inv,hf,K=>by rw[Nat.zero_add];exact hL _ _ _ (toCome_zero n hf) inv K
  | f+1,listed,a',w',inv,hf,K=>by
    by_cases hH:∃ i,i<n∧i≠e∧listed.getD i false=false
    rotate_left
    · have hall:∀ j,j<n→j≠e→listed.getD j false=true:=fun j hj hje=>by
        cases h:listed.getD j false with
        | true=>rfl
        | false=>exact absurd ⟨j,hj,hje,h⟩ hH
      obtain⟨i0,hi0,hf0⟩:=toCome_some (listed:=listed) n (by omega)
      have h0e:i0=e:=by
        by_cases h:i0=e
        · exact h
        · rw[hall i0 hi0 h]at hf0;cases hf0
      subst h0e
      have hse:=toCome_set (i:=i0) (listed:=listed) (by rw[inv.size];omega) hf0 n hi0
      have hz:toCome (listed.setIfInBounds i0 true) n=0:=by
        rcases Nat.eq_zero_or_pos (toCome (listed.setIfInBounds i0 true) n)with q|q
        · exact q
        · obtain⟨j,hj,hjf⟩:=toCome_some n q
          by_cases hji:j=i0
          · subst hji
            have:(listed.setIfInBounds j true).getD j false=true:=by simp[Array.getD_eq_getD_getElem?,show j<listed.size by rw[inv.size];omega]
            rw[this]at hjf;cases hjf
          · rw[getD_set_ne false (fun x=>hji x.symm),hall j hj hji]at hjf;cases hjf
      have hf1:f=0:=by omega
      subst hf1
      rw[show 0+1+g=g+1 by omega]
      exact hE _ _ _ hall hf0 inv K
    obtain⟨ih,hih1,hih2,hih3⟩:=hH
    rw[show f+1+g=(f+g)+1 by omega]
    obtain⟨i0,hi0,hm0⟩:=exists_least (toCome_some n (by omega:0<toCome listed n))
    obtain⟨o0,d0,ho0,_,_,_,_,haf⟩:=opB_spec (ho i0 hi0.1)
    have hsz:i0<listed.size:=by rw[inv.size];omega
    have hr0:i0∈Region.ready .any ops listed:=mem_ready.2 ⟨getD_in hsz hi0.2,o0,ho0,fun x he hb=>by
      have h1:=haf x he hb
      cases hl:listed.getD x.on false with
      | true=>rfl
      | false=>have:=hm0 x.on ⟨by omega,hl⟩;omega⟩
    refine⟨fun h0=>absurd hr0 (by rw[h0];simp),fun i hi=>?_⟩
    have hin:i<n:=Nat.lt_of_not_le fun h=>tail_waitsE hs hc hlt inv ih hih1 hih2 (getD_in (by rw[inv.size];omega) hih3) i h hi
    obtain⟨hun,o',ho',hall⟩:=mem_ready.1 hi
    obtain⟨o,d,hoi,hg,hd,hds,hdis,_⟩:=opB_spec (ho i hin)
    obtain rfl:o'=o:=Option.some.inj (ho'.symm.trans hoi)
    unfold wpOp
    simp only[hoi]
    have hw:Region.wanted o' (yielded ops a'.tmps)=true:=by unfold Region.wanted;rw[hg]
    rw[if_pos hw]
    refine .inl (yields_wp (hstep i o' hin hoi a' w' K.new (fun t ht=>?_) (fun j dj hj hwj hdj=>?_)) fun v w'' ⟨hn,hv⟩=>?_)
    · rw[eval_get,eval_get,K.same t fun j oj hj hoj hd'=>by
        have h1:=List.all_eq_true.1 ht j (List.mem_range.2 hj)
        simp only[hoj,bne_iff_ne]at h1
        exact h1 hd']
    · obtain⟨x,he,hb⟩:=Array.any_eq_true'.1 hwj
      simp only[Bool.and_eq_true,beq_iff_eq]at hb
      have h1:=hall x he hb.1
      rw[hb.2]at h1
      cases hoj:ops[j]? with
      | none=>rw[hoj]at hdj;cases hdj
      | some oj =>
        rw[hoj]at hdj
        exact K.held j oj dj hj hoj h1 hdj
    · rw[hd]
      exact wpAny_looseE he hs hc hlt ho hV hstep hL hE f _ _ _ (inv.set hi hin) (by have:=toCome_set (by rw[inv.size];omega) (getD_both hun) n hin;omega) (linv_step hV K hin hoi hd hds hdis hn hv)
def looseE (ops:Array Oper) (n e sz:Nat):Bool :=
  sinkE ops n e&&chain2B ops n&&decide (n<ops.size)&&decide (e<n)&&(List.range n).all (opB ops n sz)&&Region.seqB .any ops (ops.size - n) n (heads ops.size n) &&
  (Region.ready .any ops ((heads ops.size n).setIfInBounds e false)).all (fun j=>j==e||j==n)&&(Region.ready .any ops ((heads ops.size n).setIfInBounds e false)).contains e &&
  decide (Region.ready .any ops (((heads ops.size n).setIfInBounds e false).setIfInBounds n true)=[e])&&Region.seqB .any ops (ops.size - (n+1)) (n+1) ((((heads ops.size n).setIfInBounds e false).setIfInBounds n true).setIfInBounds e true)
theorem wp_region_loose_e {id:Nat} {Q:Exit→Act→World→Prop} {a:Act} {w:World} {l:List Oper} (n e:Nat) (V:Nat→World→Value→Prop) {oe os:Oper} {de:Nat} (hm:P.follows .mixedOrders=true) (hB:looseE l.toArray n e a.tmps.size=true)
    (hoe:l.toArray[e]? = some oe) (hde:oe.dst=some de) (hos:l.toArray[n]? = some os) (hod:os.dst=none) (hog:os.guard=none) (hlook:de∉os.looksAt l.toArray) (hsel:∀ cs b,os.op≠.select cs b)
    (hV:∀ i w w' v,V i w v→New w w'→V i w' v)
    (hstep:∀ i o,i<n→l.toArray[i]? = some o→∀ a' w',New w w'→(∀ t,restsB l.toArray n t=true→a'.eval (.tmp t)=a.eval (.tmp t))→(∀ j d,j<n→waitsB o j=true→(l.toArray[j]?).bind (·.dst)=some d→V j w' (a'.eval (.tmp d)))→Yields P o a' w' fun v w''=>New w' w''∧V i w'' v)
    (hpure:∀ (a':Act) (w':World),New w w'→(∀ j d,j<n→waitsB oe j=true→(l.toArray[j]?).bind (·.dst)=some d→V j w' (a'.eval (.tmp d)))→∃ v,∀ W,(execOp a'.eval oe).run P W=.ok (.value v) W)
    (htail:∀ vs w',New w w'→(∀ j,j<n→V j w' (vs j))→∃ w2,(execOp (putL (l.take n) vs 0 a).eval os).run P w'=.ok .skip w2∧wpList P l.toArray Q (l.drop (n+1)) (putL (l.take n) vs 0 a) w2):(Code.region id l.toArray true).wp P Q a w:=by
  simp only[looseE,Bool.and_eq_true,decide_eq_true_eq]at hB
  obtain⟨⟨⟨⟨⟨⟨⟨⟨⟨hs,hc⟩,hlt⟩,hen⟩,hops⟩,hseq⟩,hr1⟩,hr2⟩,hr3⟩,hseq2⟩:=hB
  have ho:∀ j,j<n→opB l.toArray n a.tmps.size j=true:=fun j hj=>List.all_eq_true.1 hops j (List.mem_range.2 hj)
  have hll:l.toArray.size=l.length:=by simp
  have inv0:HeadInv .any l.toArray n (Array.replicate l.toArray.size false) :=
    ⟨by simp,fun j oj _ hl=>(by rw[getD_replicate_false]at hl;cases hl),fun t _ ht=>getD_in (by simpa using ht) (getD_replicate_false _ _)⟩
  have h0:∀ k,toCome (Array.replicate l.toArray.size false) k=k:=by
    intro k
    induction k with
    | zero=>rfl
    | succ k ih =>
      unfold toCome
      rw[ih,getD_replicate_false]
      simp
      omega
  have hdrop:l.drop n=os::l.drop (n+1):=by
    have hn':n<l.length:=by omega
    rw[List.drop_eq_getElem_cons hn']
    have:l.toArray[n]? = some l[n]:=by simp[hn']
    rw[this]at hos
    rw[Option.some.inj hos]
  have hwant:∀ ts,Region.wanted os (yielded l.toArray ts)=true:=fun ts=>by unfold Region.wanted;rw[hog]
  have hLall:∀ listed a' w',(∀ j,j<n→listed.getD j false=true)→HeadInv .any l.toArray n listed→LInv l.toArray w n V a listed a' w'→wpAny P .any l.toArray Q (l.toArray.size - n) listed a' w':=fun listed a' w' hall inv K=>by
    have hlist:listed=heads l.toArray.size n:=by
      refine Array.ext (by rw[inv.size];simp[heads]) fun j h1 h2=>?_
      have hj:j<l.toArray.size:=by rw[←inv.size];exact h1
      have e2:(heads l.toArray.size n)[j]=decide (j<n):=by simp[heads]
      rw[e2]
      by_cases hjn:j<n
      · have:=hall j hjn
        rw[Array.getD_eq_getD_getElem?,Array.getElem?_eq_getElem h1]at this
        simpa [hjn]using this
      · have:=inv.tail j (by omega) hj
        rw[Array.getD_eq_getD_getElem?,Array.getElem?_eq_getElem h1]at this
        simpa [hjn]using this
    have hdl:(l.drop n).length=l.toArray.size - n:=by simp
    obtain⟨vs,hvs,hput⟩:=linv_putL ho hall K
    obtain⟨w2,hrun,hrest⟩:=htail vs w' K.new hvs
    rw[hput]at hrun hrest
    have hw:=wpAny_of_seq (P:=P) (md:=.any) (ops:=l.toArray) (Q':=Q) (l.drop n) n listed a' w' (fun j=>by simp[List.getElem?_drop]) (by rw[hdl,hlist];exact hseq) (by
      rw[hdrop]
      unfold wpList
      rw[if_pos (hwant _)]
      refine .inl ?_
      unfold Oper.wp
      rw[hrun,Oper.upon_skip,hod]
      exact hrest)
    rwa [hdl]at hw
  refine wp_region_any hm ?_
  have:=wpAny_looseE (P:=P) (W:=w) (V:=V) (Q:=Q) (g:=l.toArray.size - n) (a:=a) hen hs hc hlt ho hV hstep hLall (fun listed a' w' hall hef inv K=>by
    have hlist:listed=(heads l.toArray.size n).setIfInBounds e false:=by
      refine Array.ext (by rw[inv.size];simp[heads]) fun j h1 h2=>?_
      have hj:j<l.toArray.size:=by rw[←inv.size];exact h1
      have e2:((heads l.toArray.size n).setIfInBounds e false)[j]=if e=j then false else decide (j<n):=by
        rw[Array.getElem_setIfInBounds (by simpa [heads]using hj)]
        simp[heads]
      rw[e2]
      by_cases hej:e=j
      · subst hej
        rw[Array.getD_eq_getD_getElem?,Array.getElem?_eq_getElem h1]at hef
        simpa using hef
      · rw[if_neg hej]
        by_cases hjn:j<n
        · have:=hall j hjn (fun x=>hej x.symm)
          rw[Array.getD_eq_getD_getElem?,Array.getElem?_eq_getElem h1]at this
          simpa [hjn]using this
        · have:=inv.tail j (by omega) hj
          rw[Array.getD_eq_getD_getElem?,Array.getElem?_eq_getElem h1]at this
          simpa [hjn]using this
    rw[←hlist]at hr1 hr2 hr3 hseq2
    have hre:e∈Region.ready .any l.toArray listed:=by simpa using hr2
    obtain⟨oe',de',hoe',hge,hde',hdes,hdise,_⟩:=opB_spec (ho e hen)
    obtain rfl:oe'=oe:=Option.some.inj (hoe'.symm.trans hoe)
    obtain rfl:de'=de:=Option.some.inj (hde'.symm.trans hde)
    have hwe:∀ ts,Region.wanted oe' (yielded l.toArray ts)=true:=fun ts=>by unfold Region.wanted;rw[hge]
    obtain⟨_,o1,ho1,haft⟩:=mem_ready.1 hre
    obtain rfl:o1=oe':=Option.some.inj (ho1.symm.trans hoe)
    have hdep:∀ j d,j<n→waitsB o1 j=true→(l.toArray[j]?).bind (·.dst)=some d→V j w' (a'.eval (.tmp d)):=fun j dj hj hwj hdj=>by
      obtain⟨x,he,hb⟩:=Array.any_eq_true'.1 hwj
      simp only[Bool.and_eq_true,beq_iff_eq]at hb
      have h1:=haft x he hb.1
      rw[hb.2]at h1
      cases hoj:l.toArray[j]? with
      | none=>rw[hoj]at hdj;cases hdj
      | some oj =>
        rw[hoj]at hdj
        exact K.held j oj dj hj hoj h1 hdj
    obtain⟨v,hv⟩:=hpure a' w' K.new hdep
    have hY:=hstep e o1 hen hoe a' w' K.new (fun t ht=>by
      rw[eval_get,eval_get,K.same t fun j oj hj hoj hd'=>by
        have h1:=List.all_eq_true.1 ht j (List.mem_range.2 hj)
        simp only[hoj,bne_iff_ne]at h1
        exact h1 hd']) hdep
    unfold Yields at hY
    rw[hv w']at hY
    have hVe:V e w' v:=hY.2
    have hall2:∀ j,j<n→(listed.setIfInBounds e true).getD j false=true:=fun j hj=>by
      by_cases hje:j=e
      · subst hje
        simp[Array.getD_eq_getD_getElem?,show j<listed.size by rw[inv.size];omega]
      · rw[getD_set_ne false (fun x=>hje x.symm)]
        exact hall j hj hje
    have K2:=linv_step hV K hen hoe hde hdes hdise (New.refl _) hVe
    refine⟨fun h=>absurd hre (by rw[h];simp),fun i hi=>?_⟩
    have hie:=List.all_eq_true.1 hr1 i hi
    simp only[Bool.or_eq_true,beq_iff_eq]at hie
    rcases hie with rfl|rfl
    · unfold wpOp
      simp only[hoe]
      rw[if_pos (hwe _)]
      refine .inl ?_
      unfold Oper.wp
      rw[hv w',Oper.upon_value,hde]
      exact hLall _ _ _ hall2 (inv.set hre hen) K2
    · obtain⟨vs,hvs,hput⟩:=linv_putL ho hall2 K2
      obtain⟨w2,hrun,hrest⟩:=htail vs w' K2.new hvs
      rw[hput]at hrun hrest
      rw[execOp_put os hsel a' (some de') v (by rintro t ⟨rfl⟩;exact hlook)]at hrun
      unfold wpOp
      simp only[hos]
      rw[if_pos (hwant _)]
      refine .inl ?_
      unfold Oper.wp
      rw[hrun,Oper.upon_skip,hod]
      show wpAny P .any l.toArray Q (l.toArray.size - i) (listed.setIfInBounds i true) a' w2
      rw[show l.toArray.size - i=(l.toArray.size - (i+1))+1 by omega]
      refine⟨fun h=>(by rw[hr3]at h;cases h),fun i2 hi2=>?_⟩
      rw[hr3]at hi2
      obtain rfl:i2=e:=by simpa using hi2
      unfold wpOp
      simp only[hoe]
      rw[if_pos (hwe _)]
      refine .inl ?_
      unfold Oper.wp
      rw[hv w2,Oper.upon_value,hde]
      have hdl:(l.drop (i+1)).length=l.toArray.size - (i+1):=by simp
      have hw:=wpAny_of_seq (P:=P) (md:=.any) (ops:=l.toArray) (Q':=Q) (l.drop (i+1)) (i+1) ((listed.setIfInBounds i true).setIfInBounds i2 true) (a'.put (some de') v) w2 (fun j=>by simp[List.getElem?_drop]) (by rw[hdl];exact hseq2) hrest
      rwa [hdl]at hw) n _ a { w with drawn:=w.drawn+1 } inv0 (h0 n) ⟨Below.drew (Below.refl _ w),rfl,rfl,fun _ _=>rfl,fun j oj d _ _ hl=>by rw[getD_replicate_false]at hl;cases hl⟩
  rwa [show n+(l.toArray.size - n)=l.toArray.size by omega]at this
end
end Go.Proofs.YtmhghnbgllaihaaGreatDoor

namespace Go.Proofs.YtmhghnbgllaihaaGreatDoor
open Go.RowKit
set_option linter.unusedVariables false
theorem sn_part {w:World} {B c:Nat} {a:Option Addr} {l:List Sn} (h:w.cell? ⟨B,0,none⟩=some (.slice a l.length c)) (hs:Sl Sn.enc 3 w (.slice a l.length c) l):PartsAt Sn.enc 3 w B [⟨a,l,c⟩]:=fun j hj=>by
  have e:j=0:=by simp at hj;omega
  subst e
  exact⟨h,hs⟩
end Go.Proofs.YtmhghnbgllaihaaGreatDoor

namespace Go.Proofs.YtmhghnbgllaihaaGreatDoor
open Go.RowKit
set_option linter.unusedVariables false
theorem k_row_own (l:List Sn) (hl:l.length≤1000) (hf:Proper l) (base:Nat) (w:World) (v:Value) (h:w.ownsRow base 180 3 v l.length (l.flatMap Sn.enc)) :
    Calls Tryz.prog 200 #[v,.func (.func 201) #[] #[]] w fun e w1=>e=.returned (.tuple #[])∧(∀ a,New a w→a.heap.size≤base→New a w1) ∧
      Calls Tryz.prog 203 #[v] w1 fun e w2=>∃ (R:List Sn) (a:Option Addr) (c:Nat),IsM l R∧R.length≤l.length∧e=.returned (.slice a R.length c)∧Sl Sn.enc 3 w2 (.slice a R.length c) R∧(∀ x,a=some x→base≤x.block)∧(∀ a,New a w→a.heap.size≤base→New a w2):=by
  rcases h.2 with ⟨rfl,h0⟩|⟨g,cap,cur,rfl,hbg,hg,hc,hm,_⟩
  · obtain rfl:=List.eq_nil_of_length_eq_zero h0
    refine(k_sort_nil w _).mono ?_
    rintro e w1 ⟨rfl,n1⟩
    refine⟨rfl,fun a ha _=>ha.trans n1,?_⟩
    refine(k_joined_nil w1).mono ?_
    rintro e w2 ⟨rfl,rfl⟩
    exact⟨[],none,0,IsM.nil,Nat.le_refl _,rfl,Sl.nil,fun x h=>(by cases h),fun a ha _=>ha.trans n1⟩
  · have hW:=WRowS.of_own h
    have hlt:g<w.heap.size:=by
      rcases Nat.lt_or_ge g w.heap.size with q|q
      · exact q
      · rw[Array.getElem?_eq_none q]at hg;cases hg
    refine(sp_sort g cap l (by omega) w hW hlt).mono ?_
    rintro e w1 ⟨rfl,m,hp,hs,hW1,hn1⟩
    have hn2:∀ a,New a w→a.heap.size≤base→New a w1:=fun a ha hb=>hn1 a ha (by omega)
    refine⟨rfl,hn2,?_⟩
    have hml:=hp.length_eq
    have hjo:=k_joined g cap m w1 hW1 (by omega) hm hs (fun p hp'=>hf p (hp.mem_iff.1 hp'))
    rw[hml]at hjo
    refine hjo.mono ?_
    rintro e w2 ⟨K,rfl,hK,hrow,hu,hkl⟩
    have hkl2:K.length≤maxLen:=by omega
    exact⟨K,_,_,hK.congr (fun p=>(hp.mem_iff).symm),by omega,rfl,⟨_,_,rfl,Nat.le_refl _,hkl2,fun h=>(by cases h),fun _=>⟨g,0,rfl,hrow⟩⟩,fun x h=>(by cases h;exact hbg),fun a ha hb=>hu a (hn2 a ha hb) (by omega)⟩
set_option maxHeartbeats 2000000 in
theorem k_merge_own (at0:Option Addr) (l:List Sn) (c:Nat) (hl:l.length≤1000) (w:World) (h:Sl Sn.enc 3 w (.slice at0 l.length c) l) (hbad:fstB badS l=false) :
    Calls Tryz.prog 160 #[.slice at0 l.length c] w fun e w'=>New w w'∧∃ (R:List Sn) (a:Option Addr) (c:Nat),IsM l R∧R.length≤l.length∧e=.returned (.tuple #[.slice a R.length c,.int .i64 0])∧Sl Sn.enc 3 w' (.slice a R.length c) R∧(∀ x,a=some x→w.heap.size≤x.block):=by
  have KP:=Lib.hid (fun W n=>k_pieces at0 l c (by unfold maxLen;omega) W ((h.keep (n:New w W)).row'.2.2.2.2))
  have HS:=Lib.hid (fun W n=>h.keep (n:New w W))
  clear h
  rw[hbad]at KP
  have HB:=Lib.hid hbad.symm
  clear hbad
  go_enter Tryz.func160,Tryz.ntmps160
  go_wp2_with fail
  refine(KP.out _ (by exact nw)).mono ?_
  rintro e w1 ⟨rfl,n1⟩
  have hn1:New w w1:=New.trans (by exact nw) n1
  clear n1
  have HF:=Lib.hid (not_bad HB.out.symm)
  have HPT:=Lib.hid (fun W n h0=>sn_part (B:=w1.heap.size) (h0:W.cell? ⟨w1.heap.size,0,none⟩=some (.slice at0 l.length c)) (HS.out W (hn1.trans n)))
  have hz1:=hn1.size
  go_upto_region 4 with fail
  refine(sn_concat w1.heap.size 1 [⟨at0,l,c⟩] (by simp) (by simpa using hl) _ (HPT.out _ (by exact nw) (by go_simp))).mono ?_
  rintro e w2 ⟨v,rfl,hown,n2⟩
  simp only[List.flatMap_cons,List.flatMap_nil,List.append_nil]at hown
  have hb0:w.heap.size≤(w1.alloc (.cells #[.slice at0 l.length c] 147)).heap.size:=by simp;omega
  have hn2:New w w2:=hn1.trans (New.trans (by exact nw) n2)
  have KR:=Lib.hid (k_row_own l hl (fun p hp=>(HF.out p hp).2.1) _ w2 v hown)
  generalize (w1.alloc (.cells #[.slice at0 l.length c] 147)).heap.size=base at *
  clear hown n2
  go_wp2_with fail
  refine KR.out.mono ?_
  rintro e w3 ⟨rfl,hn3,hj⟩
  have KJ:=Lib.hid hj
  clear hj
  go_wp2_with fail
  refine KJ.out.mono ?_
  rintro e w4 ⟨R,a,c',hR,hRl,rfl,hSl,hbl,hn4⟩
  have HE:=Lib.hid (And.intro hR (And.intro hRl (And.intro hSl (And.intro (hn4 w hn2 hb0) (fun x h=>Nat.le_trans hb0 (hbl x h):∀ x,a=some x→w.heap.size≤x.block)))))
  clear hR hRl hSl hn4 hbl
  go_wp2_with fail
  refine bodyPost_ret (v:=.tuple #[.slice a R.length c',.int .i64 0]) (by simp[results,Tryz.results160,go_sem, *]) rfl ?_
  exact⟨HE.out.2.2.2.1,R,a,c',HE.out.1,HE.out.2.1,rfl,HE.out.2.2.1,HE.out.2.2.2.2⟩
end Go.Proofs.YtmhghnbgllaihaaGreatDoor
