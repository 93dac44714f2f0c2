import Derived.Test.YtmhghnbgllaihaaGreatDoorSoLSP2Z2
import Derived.Test.YtmhghnbgllaihaaGreatDoorSoXFP2Z2
import Derived.Deep.LoopGhost
import Derived.Test.YtmhghnbgllaihaaGreatDoorOgBP2Z2
import Derived.Test.YtmhghnbgllaihaaGreatDoorOgX0P2Z2
set_option linter.unusedVariables false
set_option maxHeartbeats 16000000
set_option maxRecDepth 100000

namespace Go.Proofs.YtmhghnbgllaihaaGreatDoor
open Go.RowKit
theorem fl_info:(Tryz.prog.info? 56).map (fun i=>(i.zero,i.size,i.bytes))=some (some (.agg #[.int .i64 Fl.zero.y,.int .i64 Fl.zero.top,.int .i64 Fl.zero.area]),3,24):=by kernel_rfl
end Go.Proofs.YtmhghnbgllaihaaGreatDoor

namespace Go.Proofs.YtmhghnbgllaihaaGreatDoor
open Go.RowKit Go.Shelf Go.Sort
attribute [local go_sem] Oper.semAt_some
theorem og_floors (C:CfgR) (at0:Option Addr) (l:List Sn) (cap:Nat) (w:World) (h:Sl Sn.enc 3 w (.slice at0 l.length cap) l) :
  Calls Tryz.prog 111 #[.agg #[.int .i64 C.cl,.int .i64 C.cb,.int .i64 C.ht,.int .i64 C.ri,.int .i64 C.ru,.int .i64 C.wd,.int .i64 C.dp],.slice at0 l.length cap] w fun e w'=>e=.returned (.func (.func 134) #[] #[.pointer (some ⟨w.heap.size,0,none⟩),.pointer (some ⟨w.heap.size+1,0,none⟩)])∧New w w'∧FloAt w' C w.heap.size (w.heap.size+1) at0 cap l:=by
 go_enter Tryz.func111,Tryz.ntmps111
 go_wp2_with fail
 go_ret
 have n:New w ((w.alloc (.cells #[.int .i64 C.cl,.int .i64 C.cb,.int .i64 C.ht,.int .i64 C.ri,.int .i64 C.ru,.int .i64 C.wd,.int .i64 C.dp] 23)).alloc (.cells #[.slice at0 l.length cap] 147)):=by exact nw
 refine⟨rfl,n,?_,?_,h.keep n⟩
 ·exact New.stays ((New.refl _).alloc _) (World.alloc_heap_new w _)
 ·have h2:=World.alloc_heap_new (w.alloc (.cells #[.int .i64 C.cl,.int .i64 C.cb,.int .i64 C.ht,.int .i64 C.ri,.int .i64 C.ru,.int .i64 C.wd,.int .i64 C.dp] 23)) (.cells #[.slice at0 l.length cap] 147)
  rw[World.size_alloc]at h2
  exact h2
theorem app_keepG {W w1:World} {P base k:Nat} {v v':Value} {xs:List Value} {tmp:Obj} (hv:Boxed W P 54 v) (hrow:W.ownsRow base 56 3 v k xs) (hgrow:(W.alloc tmp).grownBy w1 v.ownBlock) {S:List Nat} (hS:∀ b∈S,b<base∧b≠P∧b<W.heap.size):KeepG S W (w1.setCell ⟨P,0,none⟩ v'):=by
 refine⟨fun b hb=>?_,fun b cs t fr ht hb=>?_⟩
 ·obtain⟨h1,h2,h3⟩:=hS b hb
  rw[Below.heap_setCell _ _ _ _ h2]
  refine(hgrow.block b (by simp;omega) (fun e'=>?_)).trans (Below.heap_alloc W tmp b h3)
  have:=own_block hrow b e'.symm
  omega
 ·have hlt:b<W.heap.size:=(Array.getElem?_eq_some_iff.1 hb).1
  have hP:b≠P:=fun e=>by
   subst e
   have h1:=(show W.heap[b]? = _ from hv).symm.trans hb
   injection h1 with h1
   injection h1 with _ h1
   rcases ht with rfl|rfl|rfl|rfl|rfl <;> cases h1
  rw[Below.heap_setCell _ _ _ _ hP]
  refine(hgrow.block b (by simp;omega) (fun e'=>?_)).trans (Below.heap_alloc W tmp b hlt)
  rcases hrow.2 with ⟨rfl,_⟩|⟨g,cap,cur,rfl,_,hgb,_⟩
  ·simp[Value.ownBlock]at e'
  ·obtain rfl:b=g:=by simpa [Value.ownBlock]using e'
   rw[hb]at hgb
   injection hgb with hgb
   injection hgb with _ hgb
   rcases ht with rfl|rfl|rfl|rfl|rfl <;> cases hgb
theorem fl_cells3 {w:World} {b:Nat} {f:Fl} {fr:Nat×Nat} (h:w.heap[b]? = some (.cells #[.int .i64 f.y,.int .i64 f.top,.int .i64 f.area] 56 fr)):w.cell? ⟨b,0,none⟩=some (.int .i64 f.y)∧w.cell? ⟨b,1,none⟩=some (.int .i64 f.top)∧w.cell? ⟨b,2,none⟩=some (.int .i64 f.area) :=
 ⟨cell_of_heap h rfl,cell_of_heap h rfl,cell_of_heap h rfl⟩
theorem fl_new (w:World) (f:Fl) (t:TypeId) (q:Nat) (u:Value) (h:f.enc[q]? = some u):(w.alloc (.cells #[.int .i64 f.y,.int .i64 f.top,.int .i64 f.area] t)).cell? ((⟨w.heap.size,0,none⟩:Addr).add q)=some u:=by
 have hz:=World.alloc_heap_new w (.cells #[.int .i64 f.y,.int .i64 f.top,.int .i64 f.area] t)
 have hq:q<3:=(List.getElem?_eq_some_iff.1 h).1
 rcases(show q=0∨q=1∨q=2 by omega)with rfl|rfl|rfl <;> (simp[Fl.enc]at h;subst h;exact cell_of_heap hz rfl)
theorem fl_appendSeq (g:Nat) (lb:Array Value) (L:List Fl) (S:List Nat) (hL:L.length≤8) (w:World) (heg:∀ args W,(callFunc g args).run Tryz.prog W=.ok (.enter g args) W) (hsq:∀ n,7≤n→SeqL Fence.wide n Tryz.prog g lb flA L (KeepG S) w) (hS:∀ b∈S,b<w.heap.size) :
  Calls Tryz.prog 133 #[.slice none 0 0,.func (.func g) #[] lb] w fun e w'=>∃ v,e=.returned v∧w'.ownsRow w.heap.size 56 3 v L.length (L.flatMap Fl.enc)∧New w w':=by
 obtain⟨i0,hi,hz0,hz1,hz2⟩:=info_parts fl_info
 have HSQ:=Lib.hid hsq
 clear hsq
 refine(callsIn_wide (n:=9)).1 ?_
 refine callsIn_of_wp_marks Tryz.func133 rfl trivial ?_ rfl
 simp only[Tryz.ntmps133,List.size_toArray,List.length_cons,List.length_nil,Nat.reduceAdd,Nat.reduceSub,Array.replicate_succ,Array.replicate_zero,List.push_toArray,List.append_toArray,List.nil_append,List.cons_append]
 refine wpIn_wide.2 ?_
 go_upto_region 1 with fail
 refine Code.at (fun V hV=>?_)
 have nV:New w V:=by subst hV;exact nw
 have bv:Boxed V w.heap.size 54 (.slice none 0 0):=by subst hV;exact World.alloc_heap_new _ _
 have zV:V.heap.size=w.heap.size+1:=by subst hV;simp
 clear hV
 go_wp2_with fail
 refine(wpIn_wide (n:=9)).1 ?_
 refine wpIn_rangeL rfl (by omega) (gf:=g) (lb:=lb) rfl trivial heg (HSQ.out 8 (by omega)) (fun h k=>⟨h.1.trans k.1,h.2.trans k.2⟩)
  (fun U o hr=>⟨fun b hb=>World.putObj_heap_other (by have:=hS b hb;omega),KeepU.put o hr⟩) nV (fun _=>rfl)
  (fun i U=>(∃ v,Boxed U w.heap.size 54 v∧U.ownsRow w.heap.size 56 3 v i ((L.take i).flatMap Fl.enc)∧True)∧Below w.heap.size w U∧V.heap.size≤U.heap.size)
  (fun _ _ _=>False)
  (OwnFrom.and (Own.from (holdsRow_own w.heap.size w.heap.size 54 56 3 (fun i:Nat=>i) (fun i:Nat=>(L.take i).flatMap Fl.enc) (fun _ _=>True)) _) (OwnFrom.and (ownFrom_below (Nat.le_refl _) nV.size) (fun _ _ _ _ hs hg _=>Nat.le_trans hs hg.size)))
  (fun _ _ _ _ _ hs _ _=>hs)
  ⟨⟨_,bv,World.ownsRow_nil _ _ _ _,trivial⟩,nV,Nat.le_refl _⟩
  (fun i a' U=>∃ (f:Fl) (Q:Nat),L[i]? = some f∧V.heap.size≤Q∧U.heap[Q]? = some (.cells #[.int .i64 f.y,.int .i64 f.top,.int .i64 f.area] 56 (0,0))∧a'={ tmps:=#[.slice none 0 0,.func (.func g) #[] lb,.pointer (some ⟨w.heap.size,0,none⟩),undef,.slice none 0 0,.pointer (some ⟨Q,0,none⟩),.func (.func g) #[] lb,.agg #[.int .i64 f.y,.int .i64 f.top,.int .i64 f.area],undef,undef,undef,undef,undef],defers:=[] })
  (fun i a'=>?axown) ?assign ?body ?done ?stop
 case axown =>
  rintro _ X Y row ⟨f,Q,h1,h2,h3,rfl⟩ hg hr
  exact⟨f,Q,h1,h2,own_blk (β:=Unit) Q V.heap.size () X Y row h3 hg hr,rfl⟩
 case assign =>
  intro i hi' U K hI hK
  generalize hk:L[i]=f
  simp only[flA]
  simp only[List.zip_toArray,List.zip_cons_cons,List.zip_nil_right,List.foldl_toArray',List.foldl_cons,List.foldl_nil,List.setIfInBounds_toArray,List.set_cons_succ,List.set_cons_zero,List.size_toArray,List.length_cons,List.length_nil]
  gi_wp2
  obtain⟨⟨v,hv,hrow,-⟩,hB,hVU⟩:=hI
  have nU:New U (U.alloc (.cells #[.int .i64 f.y,.int .i64 f.top,.int .i64 f.area] 56)):=by exact nw
  have hBs:=hB.size
  exact hK _ _ (keepsFrom_new nU) ⟨KeepS.new (fun b hb=>Nat.lt_of_lt_of_le (hS b hb) hBs) nU,fun b cs t fr ht hb=>nU.block b (Array.getElem?_eq_some_iff.1 hb).1⟩
   ⟨⟨v,hv.alloc _,hrow.alloc _,trivial⟩,New.trans (show New w U from hB) nU,Nat.le_trans hVU nU.size⟩ ⟨f,U.heap.size,by rw[List.getElem?_eq_getElem hi',hk],hVU,World.alloc_heap_new _ _,rfl⟩
 case body =>
  rintro i hi' a' U - ⟨⟨v,hv,hrow,-⟩,hB,hVU⟩ ⟨f,Q,hf,hQ,hq,rfl⟩
  have hcell:=hv.cell
  obtain⟨q0,q1,q2⟩:=fl_cells3 hq
  have hBs:=hB.size
  have hS3:∀ b∈S,b<w.heap.size∧b≠w.heap.size∧b<U.heap.size:=fun b hb=>by have:=hS b hb;omega
  gi_wp2_with (gi_at_builtin;refine wpListIn_append_own _ rfl _ _ 54 rfl w.heap.size 56 i0 _ 3 24 Tryz.underlying54 hi hz0 hz1 hz2 rfl (by decide) _ _ _ rfl (hrow.alloc _) ⟨U.heap.size,0,none⟩ 1 1 f.enc rfl rfl (fl_new _ _ _) (Fl.enc_one _) (by unfold maxLen;omega) (by omega) (by simp;omega) ?_;intro v' w1 hown' hgrow _;obtain⟨g',cap',rfl⟩:=ownsRow_succ hown';obtain⟨hv1,hv2,hr2,hk2,hb2⟩:=hv.appended (by decide) hrow hBs (Nat.le_refl _) hown' hgrow;have hc1:=hv1.cell;have hf1:=hv1.frozen)
  refine⟨hk2.from _,app_keepG hv hrow hgrow hS3,⟨_,hv2,?_,trivial⟩,hB.trans hb2,Nat.le_trans hVU hb2.size⟩
  rw[List.take_add_one,hf]
  simp only[Option.toList_some,List.flatMap_append,List.flatMap_cons,List.flatMap_nil,List.append_nil]
  exact hr2
 case done =>
  rintro U ⟨⟨v,hv,hrow,-⟩,hB,hVU⟩ hD
  have hcell:=hv.cell
  go_wp2_with fail
  refine ret_mark hD fun U2 hU2 hk=>⟨_,by simp[results,Tryz.results133,go_sem],v,rfl,?_,?_⟩
  ·have h1:=ownsRow_putObj hrow (.deferred none) hD rfl
   rw[←hU2,List.take_length]at h1
   exact h1
  ·rw[hU2]
   exact Go.RowKit.Below.trans hB (belowK_b (w:=w) (Nat.le_refl _) _ _ _ _ nV.size hD rfl rfl)
 case stop =>
  rintro i q U _ _ h _
  exact h.elim
theorem fl_collect (g:Nat) (lb:Array Value) (L:List Fl) (S:List Nat) (hL:L.length≤8) (w:World) (heg:∀ args W,(callFunc g args).run Tryz.prog W=.ok (.enter g args) W) (hsq:∀ n,7≤n→SeqL Fence.wide n Tryz.prog g lb flA L (KeepG S) w) (hS:∀ b∈S,b<w.heap.size) :
  Calls Tryz.prog 110 #[.func (.func g) #[] lb] w fun e w'=>∃ v,e=.returned v∧w'.ownsRow w.heap.size 56 3 v L.length (L.flatMap Fl.enc)∧New w w':=by
 have K:=fl_appendSeq g lb L S hL w heg hsq hS
 clear hsq heg hS hL
 generalize L.length=n at *
 generalize L.flatMap Fl.enc=xs at *
 go_enter Tryz.func110,Tryz.ntmps110
 go_wp2_with fail
 refine K.mono ?_
 rintro e w' ⟨v,rfl,ho,hn⟩
 go_wp2_with fail
 refine bodyPost_ret (v:=v) (by simp[results,Tryz.results110,go_sem, *]) rfl ?_
 exact⟨v,rfl,ho,hn⟩
theorem opX_len8 (C:CfgR) (l:List Sn):(opX C l).length≤8:=by
 unfold opX
 split
 ·rename_i h
  unfold opL
  have h1:=List.length_filter_le (opnB C l) (List.range l.length)
  rw[List.length_range]at h1
  have:=(chkE_zero (fiE_ok h).2).1
  omega
 ·simp
theorem flX_len8 (C:CfgR) (l:List Sn):(flX C l).length≤8:=by rw[flX_len];exact opX_len8 C l
theorem og_gather (C:CfgR) (at0:Option Addr) (l:List Sn) (cap Bc Bl:Nat) (w:World) (H:FloAt w C Bc Bl at0 cap l) :
  Calls Tryz.prog 110 #[.func (.func 134) #[] #[.pointer (some ⟨Bc,0,none⟩),.pointer (some ⟨Bl,0,none⟩)]] w fun e w'=>∃ v,e=.returned v∧w'.ownsRow w.heap.size 56 3 v (flX C l).length ((flX C l).flatMap Fl.enc)∧New w w' :=
 fl_collect _ _ _ (floS Bc Bl at0 l) (flX_len8 C l) w (enters_of Tryz.func134 (by kernel_rfl) rfl) (fun n hn=>og_floors1 C at0 l cap Bc Bl n hn w H) H.lt
end Go.Proofs.YtmhghnbgllaihaaGreatDoor
