import Derived.Test.YtmhghnbgllaihaaGreatDoorRaEP2Z2
import Derived.Test.YtmhghnbgllaihaaGreatDoorSoXFP2Z2
import Derived.Test.YtmhghnbgllaihaaGreatDoorLooseEP2Z2
import Derived.Test.YtmhghnbgllaihaaGreatDoorSoETP2Z2
import Derived.Test.YtmhghnbgllaihaaGreatDoorSoLSP2Z2
import Derived.Deep.LoopGhost
import Derived.Deep.DeepCutAuto
set_option linter.unusedVariables false
set_option maxHeartbeats 16000000
set_option maxRecDepth 100000

namespace Go.Proofs.YtmhghnbgllaihaaGreatDoor
open Go.RowKit
def inX (b:BoxR) (x z y:Int):Bool:=wiB x b.x0 b.x1&&(wiB z b.z0 b.z1&&wiB y b.y0 b.y1)
def stepX (x z y:Int) (o:Option BoxR) (b:BoxR):Option BoxR:=if inX b x z y=true∧(∀ q,o=some q→q.i≤b.i)then some b else o
def bestX (l:List BoxR) (x z y:Int):Option BoxR:=l.foldl (stepX x z y) none
def ofX (l:List BoxR) (x z y:Int):Int:=match bestX l x z y with
 | some b=>b.ar
 | none=>1
theorem stepX_out {x z y:Int} {o:Option BoxR} {b:BoxR} (h:inX b x z y=false):stepX x z y o b=o:=by unfold stepX;rw[h];simp
theorem stepX_first {x z y:Int} {b:BoxR} (h:inX b x z y=true):stepX x z y none b=some b:=by unfold stepX;rw[if_pos ⟨h,fun q e=>by cases e⟩]
theorem stepX_more {x z y:Int} {q b:BoxR} (h:inX b x z y=true) (hq:q.i≤b.i):stepX x z y (some q) b=some b:=by unfold stepX;rw[if_pos ⟨h,fun p e=>by cases e;exact hq⟩]
theorem stepX_less {x z y:Int} {q b:BoxR} (hq:¬ q.i≤b.i):stepX x z y (some q) b=some q:=by unfold stepX;rw[if_neg];rintro⟨-,h⟩;exact hq (h q rfl)
theorem bestX_snoc (l:List BoxR) (b:BoxR) (x z y:Int):bestX (l++[b]) x z y=stepX x z y (bestX l x z y) b:=by unfold bestX;rw[List.foldl_append];rfl
theorem bestX_take {l:List BoxR} {j:Nat} (h:j<l.length) (x z y:Int):bestX (l.take (j+1)) x z y=stepX x z y (bestX (l.take j) x z y) l[j]:=by
 rw[List.take_succ_eq_append_getElem h,bestX_snoc]
theorem bestX_app (l m:List BoxR) (x z y:Int):bestX (l++m) x z y=m.foldl (stepX x z y) (bestX l x z y):=by unfold bestX;rw[List.foldl_append]
theorem ofX_drop {l:List BoxR} {j:Nat} (h:j<l.length) (x z y:Int) (hi:inX l[j] x z y=false):ofX l x z y=ofX (l.take j++l.drop (j+1)) x z y:=by
 have e:l=l.take (j+1)++l.drop (j+1):=(List.take_append_drop _ _).symm
 have e2:bestX l x z y=bestX (l.take j++l.drop (j+1)) x z y:=by
  conv=>lhs;rw[e]
  rw[bestX_app,bestX_app,bestX_take h,stepX_out hi]
 unfold ofX
 rw[e2]
theorem foldX_is:∀ (l:List BoxR) (x z y:Int) (o:Option BoxR) (b:BoxR),l.foldl (stepX x z y) o=some b→((b∈l∧inX b x z y=true)∨o=some b)∧(∀ q∈l,inX q x z y=true→q.i≤b.i)∧∀ p,o=some p→p.i≤b.i:=by
 intro l x z y
 induction l with
 | nil=>intro o b h;exact⟨.inr h,fun q hq=>(by cases hq),fun p hp=>(by rw[List.foldl_nil]at h;rw[h]at hp;cases hp;exact Int.le_refl _)⟩
 | cons c l ih =>
  intro o b h
  rw[List.foldl_cons]at h
  obtain⟨h1,h2,h3⟩:=ih _ _ h
  by_cases hc:inX c x z y=true∧(∀ q,o=some q→q.i≤c.i)
  ·have e:stepX x z y o c=some c:=by unfold stepX;rw[if_pos hc]
   rw[e]at h1 h3
   have hcb:=h3 c rfl
   refine⟨?_,fun q hq hi=>?_,fun p hp=>Int.le_trans (hc.2 p hp) hcb⟩
   ·rcases h1 with ⟨m,hi⟩|e2
    ·exact .inl ⟨List.mem_cons_of_mem _ m,hi⟩
    ·cases e2;exact .inl ⟨List.mem_cons_self,hc.1⟩
   ·rcases List.mem_cons.1 hq with rfl|hq
    ·exact hcb
    ·exact h2 q hq hi
  ·have e:stepX x z y o c=o:=by unfold stepX;rw[if_neg hc]
   rw[e]at h1 h3
   refine⟨?_,fun q hq hi=>?_,h3⟩
   ·rcases h1 with ⟨m,hi⟩|e2
    ·exact .inl ⟨List.mem_cons_of_mem _ m,hi⟩
    ·exact .inr e2
   ·rcases List.mem_cons.1 hq with rfl|hq
    ·by_cases hp:∀ p,o=some p→p.i≤q.i
     ·exact absurd ⟨hi,hp⟩ hc
     ·have:∃ p,o=some p∧¬ p.i≤q.i:=by
       cases o with
       | none=>exact absurd (fun p e=>by cases e) hp
       | some p=>exact⟨p,rfl,fun h=>hp (fun r e=>by cases e;exact h)⟩
      obtain⟨p,hp1,hp2⟩:=this
      have:=h3 p hp1
      omega
    ·exact h2 q hq hi
theorem bestX_some (l:List BoxR) (x z y:Int) (b:BoxR) (h:bestX l x z y=some b):b∈l∧inX b x z y=true∧∀ q∈l,inX q x z y=true→q.i≤b.i:=by
 obtain⟨h1,h2,-⟩:=foldX_is l x z y none b h
 rcases h1 with ⟨m,hi⟩|e
 ·exact⟨m,hi,h2⟩
 ·cases e
def Fl.put (f:Fl) (a:Int):Fl:=⟨f.y,f.top,a⟩
def mkX (l:List BoxR) (s:St):Fl:=s.f.put (ofX l s.x s.z s.y)
def markC (G:Gd) (l:List BoxR) (i:Nat):List Fl:=((gcol G i).map (stOf G i)).map (mkX l)
def markL (G:Gd) (l:List BoxR):List (List Fl):=(List.range G.L.length).map (markC G l)
theorem markL_len (G:Gd) (l:List BoxR):(markL G l).length=G.L.length:=by unfold markL;simp
theorem markL_at (G:Gd) (l:List BoxR) {i:Nat} (h:i<(markL G l).length):(markL G l)[i]=markC G l i:=by
 unfold markL at h ⊢
 rw[List.getElem_map,List.getElem_range]
theorem markC_len (G:Gd) (l:List BoxR) (i:Nat):(markC G l i).length=(gcol G i).length:=by unfold markC;simp
theorem markC_at (G:Gd) (l:List BoxR) (i:Nat) {k:Nat} (h:k<(markC G l i).length):(markC G l i)[k]=mkX l (stOf G i ((gcol G i)[k]'(by rw[←markC_len G l i];exact h))):=by
 unfold markC at h ⊢
 rw[List.getElem_map,List.getElem_map]
def ixS (G:Gd) (s:St):Nat:=ixG G s.x s.z
def colS (G:Gd) (l:List BoxR) (S:List St) (k:Nat):List Fl:=(S.filter fun s=>ixS G s==k).map (mkX l)
theorem colS_snoc (G:Gd) (l:List BoxR) (S:List St) (s:St) (k:Nat):colS G l (S++[s]) k=if ixS G s=k then colS G l S k++[mkX l s]else colS G l S k:=by
 unfold colS
 rw[List.filter_append,List.map_append]
 by_cases h:ixS G s=k
 ·rw[if_pos h];simp[h]
 ·rw[if_neg h];simp[h]
theorem colS_len (G:Gd) (l:List BoxR) (S:List St) (k:Nat):(colS G l S k).length≤S.length:=by
 unfold colS
 rw[List.length_map]
 exact List.length_filter_le _ _
theorem ix_st {G:Gd} (hE:gE G=0) {i:Nat} (h:i<G.L.length) (f:Fl):ixS G (stOf G i f)=i:=by
 have hb:=placeB_iff.1 (gd_is hE).1
 have hl:=(gd_is hE).2.1
 have hw:0<G.w.toNat:=by
  rcases Nat.eq_zero_or_pos G.w.toNat with q|q
  ·exfalso
   have:G.w=0:=by omega
   rw[this,Int.zero_mul]at hl
   omega
  ·exact q
 unfold ixS ixG stOf
 simp only
 have e1:G.z+((i / G.w.toNat:Nat):Int) - G.z=((i / G.w.toNat:Nat):Int):=by omega
 have e2:G.x+((i % G.w.toNat:Nat):Int) - G.x=((i % G.w.toNat:Nat):Int):=by omega
 rw[e1,e2]
 have e3:((i / G.w.toNat:Nat):Int)*G.w=(((i / G.w.toNat)*G.w.toNat:Nat):Int):=by
  rw[Int.natCast_mul]
  congr 1
  omega
 rw[e3,←Int.natCast_add,Int.toNat_natCast,Nat.mul_comm]
 exact Nat.div_add_mod i G.w.toNat
theorem colS_to {G:Gd} (hE:gE G=0) (l:List BoxR) (k:Nat):∀ n,n≤G.L.length→colS G l (stTo G n) k=if k<n then markC G l k else []
 | 0,_=>by rw[if_neg (by omega)];unfold stTo;rfl
 | n+1,h=>by
  have ih:=colS_to hE l k n (by omega)
  have e:colS G l (stTo G (n+1)) k=colS G l (stTo G n) k++(if n=k then markC G l n else []):=by
   rw[stTo_succ]
   unfold colS
   rw[List.filter_append,List.map_append]
   congr 1
   by_cases q:n=k
   ·rw[if_pos q]
    have:((gcol G n).map (stOf G n)).filter (fun s=>ixS G s==k)=(gcol G n).map (stOf G n):=by
     rw[List.filter_eq_self]
     intro s hs
     obtain⟨f,hf,rfl⟩:=List.mem_map.1 hs
     rw[ix_st hE (by omega)]
     simpa using q
    rw[this]
    rfl
   ·rw[if_neg q]
    have:((gcol G n).map (stOf G n)).filter (fun s=>ixS G s==k)=[]:=by
     rw[List.filter_eq_nil_iff]
     intro s hs
     obtain⟨f,hf,rfl⟩:=List.mem_map.1 hs
     rw[ix_st hE (by omega)]
     simpa using q
    rw[this]
    rfl
  rw[e,ih]
  by_cases q:n=k
  ·subst q
   rw[if_neg (by omega),if_pos rfl,if_pos (by omega)]
   rfl
  ·rw[if_neg q,List.append_nil]
   by_cases q2:k<n
   ·rw[if_pos q2,if_pos (by omega)]
   ·rw[if_neg q2,if_neg (by omega)]
theorem colS_all {G:Gd} (hE:gE G=0) (l:List BoxR) {k:Nat} (h:k<G.L.length):colS G l (allG G) k=markC G l k:=by
 unfold allG
 rw[colS_to hE l k _ (Nat.le_refl _),if_pos h]
theorem st_mem {G:Gd} (hE:gE G=0) {s:St} (h:s∈allG G):∃ i f,i<G.L.length∧f∈gcol G i∧s=stOf G i f:=by
 unfold allG stTo at h
 obtain⟨i,hi,hs⟩:=List.mem_flatMap.1 h
 obtain⟨f,hf,rfl⟩:=List.mem_map.1 hs
 exact⟨i,f,List.mem_range.1 hi,hf,rfl⟩
theorem frz_setCells (b:Nat):∀ (vs:List Value) (o:Nat) (W:World) (q:Addr),(W.setCells b o vs).frozen? q=W.frozen? q
 | [],o,W,q=>rfl
 | v::vs,o,W,q=>by rw[World.setCells,frz_setCells b vs];exact World.frozen?_setCell _ _ _ _
structure StoAt (W:World) (b:Nat) (vs:List Value):Prop where
 at':CellsAt W b 0 vs
 thr:Thr W b vs.length
theorem StoAt.new {W W':World} {b:Nat} {vs:List Value} (h:StoAt W b vs) (n:New W W'):StoAt W' b vs:=⟨h.at'.keep n,h.thr.keep n⟩
theorem wpList_store_sto {P:Program} {ops:Array Oper} {rest:List Oper} {op:Oper} {a:Act} {w:World} {Q:Exit→Act→World→Prop} (hgd:op.guard=none) (ty:TypeId) (x y:Operand) (ho:op.op=.store ty x y)
  (b:Nat) (cells:Array Value) (hx:a.eval x=.pointer (some ⟨b,0,none⟩)) (hy:a.eval y=.agg cells)
  (ht:Thr w b cells.size) (hi:(P.info? ty).map (·.size)=some cells.size) (h1:∀ v∈cells.toList,v.oneCell'=true)
  (h:∀ W,(∀ a0,New a0 w→a0.heap.size≤b→New a0 W)→(∀ b' o v,b'≠b→w.cell? ⟨b',o,none⟩=some v→W.cell? ⟨b',o,none⟩=some v)→StoAt W b cells.toList→wpList P ops Q rest (a.put op.dst undef) W):wpList P ops Q (op::rest) a w:=by
 have ht':w.there b 0 cells.size:=fun j hj=>by
  obtain⟨⟨v,hv⟩,hf⟩:=ht j hj
  rw[Nat.zero_add]
  exact⟨by rw[hv];rfl,hf⟩
 have hc:CellsAt (w.setCells b 0 cells.toList) b 0 cells.toList:=fun j hj=>by
  have:=World.rangeAt_setCells_same w b 0 cells.toList (by simpa using ht')
  exact this j _ (List.getElem?_eq_getElem hj)
 refine wpList_store_mid hgd ty x y ho b 0 cells hx hy ht' hi (all_oneCell_toArray h1) (h _ (fun a0 h0 hb=>new_setCells h0 hb _ _) (fun b' o v hne hv=>by rw[World.cell?_setCells_out b _ 0 w ⟨b',o,none⟩ (fun e=>absurd e hne)];exact hv) ⟨hc,fun j hj=>⟨⟨_,by have:=hc j hj;rwa [Nat.zero_add]at this⟩,?_⟩⟩)
 rw[frz_setCells]
 exact(ht j (by simpa using hj)).2
theorem ar_within (n lo hi:Int) (w:World):Calls Tryz.prog 210 #[.int .i64 n,.int .i64 lo,.int .i64 hi] w fun e w'=>e=.returned (.bool (wiB n lo hi))∧w=w':=by
 unfold wiB
 cases h1:decide (lo≤n)
 ·go_enter Tryz.func210,Tryz.ntmps210
  go_wp2_with fail
  go_ret
  exact⟨rfl,rfl⟩
 ·go_enter Tryz.func210,Tryz.ntmps210
  go_wp2_with fail
  go_ret
  exact⟨rfl,rfl⟩
theorem ar_In (X:BoxR) (x z y:Int) (w:World):Calls Tryz.prog 177 #[.agg #[.int .i64 X.i,.int .i64 X.x0,.int .i64 X.z0,.int .i64 X.x1,.int .i64 X.z1,.int .i64 X.y0,.int .i64 X.y1,.int .i64 X.ar],.agg #[.int .i64 x,.int .i64 z,.int .i64 y]] w fun e w'=>e=.returned (.bool (inX X x z y))∧New w w':=by
 have K1:=fun W=>ar_within x X.x0 X.x1 W
 have K2:=fun W=>ar_within z X.z0 X.z1 W
 have K3:=fun W=>ar_within y X.y0 X.y1 W
 unfold inX
 generalize wiB x X.x0 X.x1=b1 at *
 generalize wiB z X.z0 X.z1=b2 at *
 generalize wiB y X.y0 X.y1=b3 at *
 cases b1
 ·go_enter Tryz.func177,Tryz.ntmps177
  go_wp2_with fail
  refine(K1 _).mono ?_
  rintro e w2 ⟨rfl,rfl⟩
  go_wp2_with fail
  go_ret
  exact⟨rfl,by exact nw⟩
 cases b2
 ·go_enter Tryz.func177,Tryz.ntmps177
  go_wp2_with fail
  refine(K1 _).mono ?_
  rintro e w2 ⟨rfl,rfl⟩
  go_wp2_with fail
  refine(K2 _).mono ?_
  rintro e w2 ⟨rfl,rfl⟩
  go_wp2_with fail
  go_ret
  exact⟨rfl,by exact nw⟩
 go_enter Tryz.func177,Tryz.ntmps177
 go_wp2_with fail
 refine(K1 _).mono ?_
 rintro e w2 ⟨rfl,rfl⟩
 go_wp2_with fail
 refine(K2 _).mono ?_
 rintro e w2 ⟨rfl,rfl⟩
 go_wp2_with fail
 refine(K3 _).mono ?_
 rintro e w2 ⟨rfl,rfl⟩
 go_wp2_with fail
 go_ret
 exact⟨rfl,by exact nw⟩
structure SpotAt (W:World) (B:Nat) (x z y:Int):Prop where
 c0:W.cell? ⟨B,0,none⟩=some (.int .i64 x)
 c1:W.cell? ⟨B,1,none⟩=some (.int .i64 z)
 c2:W.cell? ⟨B,2,none⟩=some (.int .i64 y)
theorem SpotAt.new {W W':World} {B:Nat} {x z y:Int} (h:SpotAt W B x z y) (n:New W W'):SpotAt W' B x z y:=⟨n.keep h.c0,n.keep h.c1,n.keep h.c2⟩
theorem ar_Of1 (X:BoxR) (B:Nat) (x z y:Int) (w:World) (h:SpotAt w B x z y):Calls Tryz.prog 176 #[.agg #[.int .i64 X.i,.int .i64 X.x0,.int .i64 X.z0,.int .i64 X.x1,.int .i64 X.z1,.int .i64 X.y0,.int .i64 X.y1,.int .i64 X.ar],.pointer (some ⟨B,0,none⟩)] w fun e w'=>e=.returned (.bool (inX X x z y))∧New w w':=by
 have K:=fun W=>ar_In X x z y W
 obtain⟨c0,c1,c2⟩:=h
 have hz:B<w.heap.size:=World.block_lt_of_cell? _ _ c0
 generalize inX X x z y=b at *
 go_enter Tryz.func176,Tryz.ntmps176
 go_wp2_with fail
 refine(K _).mono ?_
 rintro e w2 ⟨rfl,n2⟩
 go_wp2_with fail
 go_ret
 exact⟨rfl,New.trans (by exact nw) n2⟩
theorem ar_Of2 (X:BoxR) (w:World):Calls Tryz.prog 178 #[.agg #[.int .i64 X.i,.int .i64 X.x0,.int .i64 X.z0,.int .i64 X.x1,.int .i64 X.z1,.int .i64 X.y0,.int .i64 X.y1,.int .i64 X.ar]] w fun e w'=>e=.returned (.int .i64 X.i)∧New w w':=by
 go_enter Tryz.func178,Tryz.ntmps178
 go_wp2_with fail
 go_ret
 exact⟨rfl,by exact nw⟩
def Kept (W:World) (b:Nat) (o:Option BoxR):Prop:=StoAt W b (o.getD BoxR.zero).enc
theorem Kept.new {W W':World} {b:Nat} {o:Option BoxR} (h:Kept W b o) (n:New W W'):Kept W' b o:=StoAt.new h n
theorem ar_last (at0:Option Addr) (l:List BoxR) (cap B:Nat) (x z y:Int) (hl:l.length≤maxLen) (w:World) (H:RowIn BoxR.enc 8 w at0 l) (hB:SpotAt w B x z y) :
  Calls Tryz.prog 175 #[.slice at0 l.length cap,.func (.func 176) #[] #[.pointer (some ⟨B,0,none⟩)],.func (.func 178) #[] #[]] w fun e w'=>e=.returned (.tuple #[.agg #[.int .i64 ((bestX l x z y).getD BoxR.zero).i,.int .i64 ((bestX l x z y).getD BoxR.zero).x0,.int .i64 ((bestX l x z y).getD BoxR.zero).z0,.int .i64 ((bestX l x z y).getD BoxR.zero).x1,.int .i64 ((bestX l x z y).getD BoxR.zero).z1,.int .i64 ((bestX l x z y).getD BoxR.zero).y0,.int .i64 ((bestX l x z y).getD BoxR.zero).y1,.int .i64 ((bestX l x z y).getD BoxR.zero).ar],.bool (bestX l x z y).isSome])∧New w w':=by
 have K1:=Lib.hid (fun X W n=>ar_Of1 X B x z y W (hB.new (n:New w W)))
 have K2:=Lib.hid (fun X W=>ar_Of2 X W)
 have HH:=Lib.hid H
 unfold maxLen at hl
 obtain⟨R,hR⟩:∃ R,R=bestX l x z y:=⟨_,rfl⟩
 rw[←hR]
 have HR:=Lib.hid hR
 obtain⟨n,hn⟩:∃ q,q=l.length:=⟨_,rfl⟩
 rw[←hn]at hl ⊢
 have HN:=Lib.hid hn
 clear hR hn H
 go_enter Tryz.func175,Tryz.ntmps175
 go_wp2_with fail
 refine Code.at (fun W0 hW=>?_)
 have n0:New w W0:=by subst hW;exact nw
 have hk:Kept W0 w.heap.size none:=by
  subst hW
  exact⟨fun i hi=>by rw[Nat.zero_add];exact cell_of_heap (heap_new _ _) (by
   have:i<8:=hi
   rcases(show i=0∨i=1∨i=2∨i=3∨i=4∨i=5∨i=6∨i=7 by omega)with rfl|rfl|rfl|rfl|rfl|rfl|rfl|rfl <;> rfl),Thr.new _ _ _ _ rfl⟩
 clear hW
 have N0:=Lib.hid n0
 obtain⟨P,hP⟩:∃ q,q=w.heap.size:=⟨_,rfl⟩
 rw[←hP]at hk ⊢
 have HP:=Lib.hid hP
 clear hP n0 hB
 go_loopg [12,7] n (fun gk s12 s7 wr=>∃ (i:Nat) (o:Option BoxR),s12=.int .i64 i∧s7=.bool o.isSome∧i≤n∧n - i≤gk∧Hid (o=bestX (l.take i) x z y)∧Hid (Kept wr P o)∧Hid (New w wr))
 case atStart=>exact⟨0,none,rfl,rfl,by omega,by omega,Lib.hid rfl,Lib.hid hk,Lib.hid N0.out⟩
 case round =>
  clear hk
  obtain⟨i,o,rfl,rfl,hi,hgk,HO,HK,HNW⟩:=hrel
  by_cases hlt:i<n
  ·have hil:i<l.length:=by rw[←HN.out];exact hlt
   obtain⟨b,off,rfl,hA⟩:=HH.out (by omega)
   obtain⟨c0,c1,c2,c3,c4,c5,c6,c7⟩:=BoxR.cells (hA.keep HNW.out) i hil
   have hst:=bestX_take hil x z y
   rw[←HO.out]at hst
   obtain⟨X,hX⟩:∃ X,X=l[i]:=⟨_,rfl⟩
   rw[←hX]at c0 c1 c2 c3 c4 c5 c6 c7 hst
   have HST:=Lib.hid hst
   have HPW:Hid (P<wr.heap.size):=Lib.hid (HK.out.thr.lt (by show 0<8;omega))
   clear hA hX hst
   go_upto_region 4 with fail
   refine Code.at (fun W5 hW=>?_)
   have n5:New wr W5:=by subst hW;exact nw
   have d0:W5.cell? ⟨wr.heap.size,0,none⟩=some (.int .i64 X.i):=by subst hW;go_simp
   have d1:W5.cell? ⟨wr.heap.size,1,none⟩=some (.int .i64 X.x0):=by subst hW;go_simp
   have d2:W5.cell? ⟨wr.heap.size,2,none⟩=some (.int .i64 X.z0):=by subst hW;go_simp
   have d3:W5.cell? ⟨wr.heap.size,3,none⟩=some (.int .i64 X.x1):=by subst hW;go_simp
   have d4:W5.cell? ⟨wr.heap.size,4,none⟩=some (.int .i64 X.z1):=by subst hW;go_simp
   have d5:W5.cell? ⟨wr.heap.size,5,none⟩=some (.int .i64 X.y0):=by subst hW;go_simp
   have d6:W5.cell? ⟨wr.heap.size,6,none⟩=some (.int .i64 X.y1):=by subst hW;go_simp
   have d7:W5.cell? ⟨wr.heap.size,7,none⟩=some (.int .i64 X.ar):=by subst hW;go_simp
   clear hW c0 c1 c2 c3 c4 c5 c6 c7
   have HD:=Lib.hid (fun W (q:New W5 W)=>And.intro (q.keep d0) (And.intro (q.keep d1) (And.intro (q.keep d2) (And.intro (q.keep d3) (And.intro (q.keep d4) (And.intro (q.keep d5) (And.intro (q.keep d6) (q.keep d7))))))))
   have HK5:=Lib.hid (HK.out.new n5)
   have NW5:=Lib.hid (HNW.out.trans n5)
   have F1:=Lib.hid (fun(q:Hat W5)=>K1.out X q.w (NW5.out.trans q.h))
   have F2:=Lib.hid (fun(q:Hat W5)=>K2.out X q.w)
   have hzw:wr.heap.size<W5.heap.size:=World.block_lt_of_cell? _ _ d0
   obtain⟨Q,hQ⟩:∃ q,q=wr.heap.size:=⟨_,rfl⟩
   rw[←hQ]at d0 d1 d2 d3 d4 d5 d6 d7 HD hzw ⊢
   have hPQ:P<Q:=by rw[hQ];exact HPW.out
   clear hQ n5 HPW
   have fin:∀ (W6:World),New W5 W6→Hid (New w W6):=fun W6 q=>Lib.hid (NW5.out.trans q)
   cases hin:inX X x z y
   ·have HE:Hid (o=bestX (l.take (i+1)) x z y):=Lib.hid (by rw[HST.out,stepX_out hin])
    rw[hin]at F1
    clear hin
    (refine wp_region_hat (by kernel_rfl) (by kernel_rfl) ?_;intro hatc hatf;(repeat(go_big_quiet_step ((go_at_call 176;with_reducible exact Calls.hat (F1.out _)))));refine wpQuiet_nil ?_;rintro _ ⟨x,rfl⟩)
    go_wp2_with fail
    go_roundg (n - (i+1))
    case measure=>omega
    case rel=>exact⟨i+1,o,by go_num,rfl,by omega,by omega,HE,Lib.hid (HK5.out.new x.h),fin _ x.h⟩
   ·rw[hin]at F1
    have HIN:=Lib.hid hin
    clear hin
    cases o with
    | none =>
     have HE:Hid (some X=bestX (l.take (i+1)) x z y):=Lib.hid (by rw[HST.out,stepX_first HIN.out])
     simp only[Option.isSome_none]
     (refine wp_region_hat (by kernel_rfl) (by kernel_rfl) ?_;intro hatc hatf;(repeat(go_big_quiet_step ((go_at_call 176;with_reducible exact Calls.hat (F1.out _)))));refine wpQuiet_nil ?_;rintro _ ⟨x,rfl⟩)
     obtain⟨e0,e1,e2,e3,e4,e5,e6,e7⟩:=HD.out _ x.h
     have hth:=(HK5.out.new x.h).thr
     have nx:=x.h
     generalize x.w=W6 at *
     go_wp2_with (refine wpList_store_sto rfl 66 _ _ rfl _ _ rfl rfl hth (by kernel_rfl) (BoxR.enc_one X) (fun Z nZ kZ cZ=>?_))
     have nz:=nZ w (NW5.out.trans nx) (by rw[HP.out];exact Nat.le_refl _)
     clear e0 e1 e2 e3 e4 e5 e6 e7 kZ nZ hth
     have HZ:=Lib.hid cZ
     have NZ:=Lib.hid nz
     clear cZ nz
     go_wp2_with fail
     go_roundg (n - (i+1))
     case measure=>omega
     case rel=>exact⟨i+1,some X,by go_num,rfl,by omega,by omega,HE,HZ,NZ⟩
    | some q =>
     have F3:=Lib.hid (fun(y:Hat W5)=>K2.out q y.w)
     obtain⟨k0,k1,k2,k3,k4,k5,k6,k7⟩:=BoxR.at (x:=q) HK5.out.at'
     simp only[Option.isSome_some]
     by_cases hq:q.i≤X.i
     ·have HE:Hid (some X=bestX (l.take (i+1)) x z y):=Lib.hid (by rw[HST.out,stepX_more HIN.out hq])
      have hg:decide (X.i≥q.i)=true:=decide_eq_true hq
      have hg2:decide (q.i≤X.i)=true:=decide_eq_true hq
      (refine wp_region_hat (by kernel_rfl) (by kernel_rfl) ?_;intro hatc hatf;(repeat(go_big_quiet_step ((first|(go_at_call 176;with_reducible exact Calls.hat (F1.out _))|(go_at_call 178;first|(with_reducible exact Calls.hat (F2.out _))|(with_reducible exact Calls.hat (F3.out _)))))));refine wpQuiet_nil ?_;rintro _ ⟨x,rfl⟩)
      obtain⟨e0,e1,e2,e3,e4,e5,e6,e7⟩:=HD.out _ x.h
      have hth:=(HK5.out.new x.h).thr
      have nx:=x.h
      clear k0 k1 k2 k3 k4 k5 k6 k7
      generalize x.w=W6 at *
      go_wp2_with (refine wpList_store_sto rfl 66 _ _ rfl _ _ rfl rfl hth (by kernel_rfl) (BoxR.enc_one X) (fun Z nZ kZ cZ=>?_))
      have nz:=nZ w (NW5.out.trans nx) (by rw[HP.out];exact Nat.le_refl _)
      clear e0 e1 e2 e3 e4 e5 e6 e7 kZ nZ hth
      have HZ:=Lib.hid cZ
      have NZ:=Lib.hid nz
      clear cZ nz
      go_wp2_with fail
      go_roundg (n - (i+1))
      case measure=>omega
      case rel=>exact⟨i+1,some X,by go_num,rfl,by omega,by omega,HE,HZ,NZ⟩
     ·have HE:Hid (some q=bestX (l.take (i+1)) x z y):=Lib.hid (by rw[HST.out,stepX_less hq])
      have hg:decide (X.i≥q.i)=false:=decide_eq_false hq
      have hg2:decide (q.i≤X.i)=false:=decide_eq_false hq
      (refine wp_region_hat (by kernel_rfl) (by kernel_rfl) ?_;intro hatc hatf;(repeat(go_big_quiet_step ((first|(go_at_call 176;with_reducible exact Calls.hat (F1.out _))|(go_at_call 178;first|(with_reducible exact Calls.hat (F2.out _))|(with_reducible exact Calls.hat (F3.out _)))))));refine wpQuiet_nil ?_;rintro _ ⟨x,rfl⟩)
      go_wp2_with fail
      go_roundg (n - (i+1))
      case measure=>omega
      case rel=>exact⟨i+1,some q,by go_num,rfl,by omega,by omega,HE,Lib.hid (HK5.out.new x.h),fin _ x.h⟩
  ·obtain rfl:i=n:=by omega
   have HE:Hid (o=R):=Lib.hid (by rw[HO.out,HR.out,List.take_of_length_le (by rw[HN.out];exact Nat.le_refl _)])
   obtain⟨e0,e1,e2,e3,e4,e5,e6,e7⟩:=BoxR.at (x:=o.getD BoxR.zero) HK.out.at'
   have hth:=HK.out.thr
   go_wp2_with (refine wpList_store_sto rfl 66 _ _ rfl _ _ rfl rfl hth (by kernel_rfl) (BoxR.enc_one (o.getD BoxR.zero)) (fun Z nZ kZ cZ=>?_))
   obtain⟨r0,r1,r2,r3,r4,r5,r6,r7⟩:=BoxR.at (x:=o.getD BoxR.zero) cZ.at'
   have nz:=nZ w HNW.out (by rw[HP.out];exact Nat.le_refl _)
   clear nZ kZ cZ
   refine bodyPost_ret (v:=.tuple #[.agg #[.int .i64 (o.getD BoxR.zero).i,.int .i64 (o.getD BoxR.zero).x0,.int .i64 (o.getD BoxR.zero).z0,.int .i64 (o.getD BoxR.zero).x1,.int .i64 (o.getD BoxR.zero).z1,.int .i64 (o.getD BoxR.zero).y0,.int .i64 (o.getD BoxR.zero).y1,.int .i64 (o.getD BoxR.zero).ar],.bool o.isSome]) (by simp[results,Tryz.results175,go_sem, *]) rfl ?_
   exact⟨by rw[HE.out],nz⟩
theorem ar_Of (at0:Option Addr) (l:List BoxR) (cap:Nat) (x z y:Int) (hl:l.length≤maxLen) (w:World) (H:RowIn BoxR.enc 8 w at0 l) :
  Calls Tryz.prog 139 #[.slice at0 l.length cap,.agg #[.int .i64 x,.int .i64 z,.int .i64 y]] w fun e w'=>e=.returned (.int .i64 (ofX l x z y))∧New w w':=by
 have KL:=Lib.hid (fun B W n h=>ar_last at0 l cap B x z y hl W (H.keep (n:New w W)) h)
 have e:ofX l x z y=if (bestX l x z y).isSome=true then ((bestX l x z y).getD BoxR.zero).ar else 1:=by
  unfold ofX
  cases bestX l x z y <;> rfl
 rw[e]
 clear e H
 generalize bestX l x z y=o at *
 generalize o.getD BoxR.zero=X at *
 generalize l.length=n at *
 generalize hb:o.isSome=b at *
 clear hb hl
 go_enter Tryz.func139,Tryz.ntmps139
 go_wp2_with fail
 refine Calls.at (fun W hW=>?_)
 have n0:New w W:=by subst hW;exact nw
 have hs:SpotAt W w.heap.size x z y:=by
  subst hW
  have h:=heap_new w (.cells #[.int .i64 x,.int .i64 z,.int .i64 y] 93)
  exact⟨cell_of_heap h rfl,cell_of_heap h rfl,cell_of_heap h rfl⟩
 clear hW
 refine(KL.out _ _ n0 hs).mono ?_
 rintro e w1 ⟨rfl,n1⟩
 have nn:=n0.trans n1
 clear n0 n1 hs KL
 cases b
 ·go_wp2_with fail
  go_ret
  exact⟨rfl,by exact nw⟩
 ·go_wp2_with fail
  go_ret
  exact⟨rfl,by exact nw⟩
end Go.Proofs.YtmhghnbgllaihaaGreatDoor
