import Derived.Test.YtmhghnbgllaihaaGreatDoorSpDP2Z2
import Derived.Test.YtmhghnbgllaihaaGreatDoorLooseEP2Z2
import Derived.Shelf.Abstract
import Derived.WalkKit
import Derived.OwnWalkIn
import Derived.TacticsInMore
import Derived.LoopNIn
import Derived.LoopIn
import Derived.Sort.WalkA
import Derived.Test.YtmhghnbgllaihaaGreatDoorSoXFP2Z2
import Derived.Test.YtmhghnbgllaihaaGreatDoorRaLP2Z2
set_option linter.unusedVariables false
set_option maxHeartbeats 16000000
set_option maxRecDepth 100000

namespace Go.Proofs.YtmhghnbgllaihaaGreatDoor
open Go.RowKit Go.Shelf Go.Sort
attribute [local go_sem] Oper.semAt_some
def roofF (l:List Sn) (k:Nat):Int:=match l[k+1]? with
 | some s=>s.lo
 | none=>1048576
theorem roofF_mid {l:List Sn} {k:Nat} (h:k+1<l.length):roofF l k=l[k+1].lo:=by unfold roofF;rw[List.getElem?_eq_getElem h]
theorem roofF_last {l:List Sn} {k:Nat} (h:l.length≤k+1):roofF l k=1048576:=by unfold roofF;rw[List.getElem?_eq_none h]
def roomE (l:List Sn) (k:Nat):Array Value:=#[.int .i64 k,.int .i64 (roofF l k)]
def rowB (l:List Sn) (at0:Option Addr) (B:Nat):Nat:=match l,at0 with
 | _::_,some a=>a.block
 | _,_=>B
theorem rowB_pos {l:List Sn} {a:Addr} {B:Nat} (h:0<l.length):rowB l (some a) B=a.block:=by
 cases l with
 | nil=>simp at h
 | cons x xs=>rfl
def Keep2 (B R:Nat) (W W':World):Prop:=W'.heap[B]? = W.heap[B]? ∧ W'.heap[R]? = W.heap[R]?
theorem Keep2.trans {B R:Nat} {X Y Z:World} (h:Keep2 B R X Y) (k:Keep2 B R Y Z):Keep2 B R X Z:=⟨k.1.trans h.1,k.2.trans h.2⟩
theorem Keep2.refl {B R:Nat} (W:World):Keep2 B R W W:=⟨rfl,rfl⟩
structure RowBox (w:World) (B:Nat) (at0:Option Addr) (cap:Nat) (l:List Sn):Prop where
 box:w.heap[B]? = some (.cells #[.slice at0 l.length cap] 147 (0,0))
 row:RowIn Sn.enc 3 w at0 l
theorem RowBox.lt {w:World} {B:Nat} {at0:Option Addr} {cap:Nat} {l:List Sn} (h:RowBox w B at0 cap l):B<w.heap.size:=(Array.getElem?_eq_some_iff.1 h.box).1
theorem RowBox.keep {w W:World} {B:Nat} {at0:Option Addr} {cap:Nat} {l:List Sn} (h:RowBox w B at0 cap l) (k:Keep2 B (rowB l at0 B) w W):RowBox W B at0 cap l :=
 ⟨k.1.trans h.box,fun h0=>by
  obtain⟨b,off,rfl,hr⟩:=h.row h0
  have k2:=k.2
  rw[rowB_pos h0]at k2
  exact⟨b,off,rfl,fun j hj i hi=>(World.cell?_of_block (a:=⟨b,off+j*3+i,none⟩) k2).trans (hr j hj i hi)⟩⟩
theorem RowBox.row_lt {w:World} {B:Nat} {at0:Option Addr} {cap:Nat} {l:List Sn} (h:RowBox w B at0 cap l):rowB l at0 B<w.heap.size:=by
 cases l with
 | nil=>exact h.lt
 | cons x xs =>
  obtain⟨b,off,rfl,hr⟩:=h.row (by simp)
  exact World.block_lt_of_cell? _ _ (hr 0 (by simp) 0 (by rw[Sn.enc_len];omega))
theorem RowBox.new {w W:World} {B:Nat} {at0:Option Addr} {cap:Nat} {l:List Sn} (h:RowBox w B at0 cap l) (k:New w W):RowBox W B at0 cap l :=
 ⟨(k.block B h.lt).trans h.box,h.row.keep k⟩
theorem RowBox.cell {w:World} {B:Nat} {at0:Option Addr} {cap:Nat} {l:List Sn} (h:RowBox w B at0 cap l):w.cell? ⟨B,0,none⟩=some (.slice at0 l.length cap):=cell_of_heap h.box rfl
theorem fi_rooms1 (at0:Option Addr) (l:List Sn) (cap B:Nat) (hl:l.length≤1000) (n:Nat) (hn:1≤n) (w:World) (H:RowBox w B at0 cap l) :
  SeqL Fence.wide n Tryz.prog 205 #[.pointer (some ⟨B,0,none⟩)] (roomE l) (List.range l.length) (Keep2 B (rowB l at0 B)) w:=by
 intro lp J Jx W hW hJ hJx hY h0
 have H0:=Lib.hid (H.new hW)
 have HY:=Lib.hid hY
 have HJ0:Hid (J 0 W):=h0
 clear hY h0 H hW hJ hJx
 simp only[List.append_toArray,List.cons_append,List.nil_append]
 refine callsIn_of_wp Tryz.func205 rfl trivial ?_ rfl
 simp only[Tryz.ntmps205,List.size_toArray,List.length_cons,List.length_nil,Nat.reduceAdd,Nat.reduceSub,Array.replicate_succ,Array.replicate_zero,List.push_toArray,List.append_toArray,List.nil_append,List.cons_append]
 have c0:=H0.out.cell
 gi_wp2_with fail
 gi_loopw [7] (fun vz wr=>∃ k:Nat,vz=.int .i64 k∧k≤l.length∧Hid (J k wr)∧Hid (RowBox wr B at0 cap l))
  (fun vz _=>l.length - (intOf vz).toNat)
 case atStart=>exact⟨0,by simp,Nat.zero_le _,HJ0,H0⟩
 case round =>
  clear c0 H0 HJ0
  obtain⟨k,rfl,hk,hJ1,HB⟩:=hrel
  have c0:=HB.out.cell
  by_cases hlt:k<l.length
  ·have hyall:=fun q=>HY.out k (by simpa using hlt) wr q
   have ek:(List.range l.length)[k]'(by simpa using hlt)=k:=by simp
   rw[ek]at hyall
   unfold roomE at hyall
   obtain⟨top,htop⟩:∃ top,top=roofF l k:=⟨_,rfl⟩
   rw[←htop]at hyall
   obtain⟨fn,tmps,assign,body,hy,hR⟩:=hyall hJ1.out
   clear hyall ek
   by_cases h1:k+1<l.length
   ·obtain⟨b0,off,rfl,hA⟩:=HB.out.row (by omega)
    obtain⟨d0,-,-⟩:=Sn.cells hA (k+1) h1
    rw[roofF_mid h1]at htop
    rw[←htop]at d0
    clear hA htop
    gi_wp2_with fail
    refine hR.mono ?_
    clear hy hR
    rintro e W5 (⟨rfl,-,kp,hJ5⟩|⟨rfl,-,hJx5⟩)
    ·have HB5:=Lib.hid (HB.out.keep kp)
     have hJ6:Hid (J (k+1) W5):=hJ5
     clear hJ5 kp
     gi_wp2_with fail
     go_roundw
     case rel=>exact⟨k+1,by congr 1,by omega,hJ6,HB5⟩
     case measure=>simp[intOf];omega
    ·gi_wp2_with fail
     refine bodyPost_ret (results_none rfl _ _ _) rfl ?_
     exact⟨⟨_,rfl⟩,.inr ⟨k+1,by omega,by rw[List.length_range];omega,hJx5⟩⟩
   ·rw[roofF_last (by omega)]at htop
    subst htop
    have hd:decide (((k:Nat):Int)+1<(l.length:Int))=false:=decide_eq_false (by omega)
    gi_wp2_with fail
    refine hR.mono ?_
    clear hy hR
    rintro e W5 (⟨rfl,-,kp,hJ5⟩|⟨rfl,-,hJx5⟩)
    ·have HB5:=Lib.hid (HB.out.keep kp)
     have hJ6:Hid (J (k+1) W5):=hJ5
     clear hJ5 kp
     gi_wp2_with fail
     go_roundw
     case rel=>exact⟨k+1,by congr 1,by omega,hJ6,HB5⟩
     case measure=>simp[intOf];omega
    ·gi_wp2_with fail
     refine bodyPost_ret (results_none rfl _ _ _) rfl ?_
     exact⟨⟨_,rfl⟩,.inr ⟨k+1,by omega,by rw[List.length_range];omega,hJx5⟩⟩
  ·obtain rfl:k=l.length:=by omega
   gi_wp2_with fail
   go_end0
   exact⟨⟨_,rfl⟩,.inl (by rw[List.length_range];exact hJ1.out)⟩
end Go.Proofs.YtmhghnbgllaihaaGreatDoor

namespace Go.Proofs.YtmhghnbgllaihaaGreatDoor
open Go.RowKit
theorem fi_isOpen (C:CfgR) (at0:Option Addr) (l:List Sn) (cap Bo Bc k:Nat) (hk:k<l.length) (hl:l.length≤1000) (top:Int) (w:World) (R:RowBox w Bo at0 cap l) (hc:CellsAt w Bc 0 C.enc) :
  Calls Tryz.prog 164 #[.int .i64 k,.int .i64 top,.pointer (some ⟨Bo,0,none⟩),.pointer (some ⟨Bc,0,none⟩)] w fun e w'=>e=.returned (.bool (l[k].wk&&decide (C.ht≤wrap64 (top - l[k].hi))))∧New w w':=by
 have KH:=Lib.hid (fun s W=>fi_hasRoom C s top W)
 obtain⟨b0,off,rfl,hA⟩:=R.row (by omega)
 obtain⟨d0,d1,d2⟩:=Sn.cells hA k hk
 have o0:=R.cell
 obtain⟨c0,c1,c2,c3,c4,c5,c6⟩:=CfgR.at hc
 obtain⟨s,hs⟩:∃ s,s=l[k]:=⟨_,rfl⟩
 rw[←hs]at d0 d1 d2 ⊢
 clear hs hA hc R
 generalize hn:l.length=n at *
 cases hw:s.wk
 ·rw[hw]at d2
  go_enter Tryz.func164,Tryz.ntmps164
  go_wp2_with fail
  (refine wp_region_hat (by kernel_rfl) (by kernel_rfl) ?_;intro hatc hatf;(repeat(go_big_quiet_step ((fail))));refine wpQuiet_nil ?_;rintro _ ⟨X,rfl⟩)
  go_wp2_with fail
  go_ret
  exact⟨rfl,X.h⟩
 ·rw[hw]at d2
  have KC:=Lib.hid (fun W=>by have:=KH.out s W;rw[hw]at this;exact this:∀ W,Calls Tryz.prog 165 #[.agg #[.int .i64 C.cl,.int .i64 C.cb,.int .i64 C.ht,.int .i64 C.ri,.int .i64 C.ru,.int .i64 C.wd,.int .i64 C.dp],.agg #[.int .i64 s.lo,.int .i64 s.hi,.bool true],.int .i64 top] W fun e w'=>e=.returned (.bool (decide (C.ht≤wrap64 (top - s.hi))))∧New W w')
  generalize decide (C.ht≤wrap64 (top - s.hi))=b at *
  clear KH
  go_enter Tryz.func164,Tryz.ntmps164
  go_wp2_with fail
  (refine wp_region_hat (by kernel_rfl) (by kernel_rfl) ?_;intro hatc hatf;(repeat(go_big_quiet_step ((go_at_call 165;exact Calls.hat (KC.out _)))));refine wpQuiet_nil ?_;rintro _ ⟨X,rfl⟩)
  cases b
  all_goals
   go_wp2_with fail
   go_ret
   exact⟨rfl,X.h⟩
end Go.Proofs.YtmhghnbgllaihaaGreatDoor

namespace Go.Proofs.YtmhghnbgllaihaaGreatDoor
open Go.RowKit Go.Shelf Go.Sort
attribute [local go_sem] Oper.semAt_some
def opnB (C:CfgR) (l:List Sn) (k:Nat):Bool:=match l[k]? with
 | some s=>s.wk&&decide (C.ht≤wrap64 (roofF l k - s.hi))
 | none=>false
theorem opnB_at (C:CfgR) {l:List Sn} {k:Nat} (h:k<l.length):opnB C l k=(l[k].wk&&decide (C.ht≤wrap64 (roofF l k - l[k].hi))):=by unfold opnB;rw[List.getElem?_eq_getElem h]
def opL (C:CfgR) (l:List Sn):List Nat:=(List.range l.length).filter (opnB C l)
def opN (C:CfgR) (l:List Sn) (i:Nat):Nat:=((List.range i).filter (opnB C l)).length
theorem opN_succ (C:CfgR) (l:List Sn) (i:Nat):opN C l (i+1)=if opnB C l i=true then opN C l i+1 else opN C l i:=by
 unfold opN
 rw[List.range_succ,List.filter_append,List.length_append]
 cases h:opnB C l i <;> simp[h]
theorem opL_split (C:CfgR) (l:List Sn) {i:Nat} (h:i<l.length) (ho:opnB C l i=true):∃ r,opL C l=(List.range i).filter (opnB C l)++i::r:=by
 unfold opL
 have e:List.range l.length=List.range i++i::((List.range (l.length - i - 1)).map (i+1+·)):=by
  have h1:l.length=(i+1)+(l.length - i - 1):=by omega
  conv=>lhs;rw[h1,List.range_add,List.range_succ,List.append_assoc]
  rfl
 rw[e,List.filter_append,List.filter_cons,if_pos ho]
 exact⟨_,rfl⟩
theorem opL_at (C:CfgR) (l:List Sn) {i:Nat} (h:i<l.length) (ho:opnB C l i=true):∃ h':opN C l i<(opL C l).length,(opL C l)[opN C l i]=i:=by
 obtain⟨r,e⟩:=opL_split C l h ho
 have h1:(opL C l)[opN C l i]? = some i:=by
  rw[e]
  unfold opN
  rw[List.getElem?_append_right (Nat.le_refl _),Nat.sub_self]
  rfl
 obtain⟨h2,h3⟩:=List.getElem?_eq_some_iff.1 h1
 exact⟨h2,h3⟩
def KeepT (W W':World):Prop:=∀ (b:Nat) (cs:Array Value) (t:TypeId) (fr:Nat×Nat),(t=147∨t=82)→W.heap[b]? = some (Obj.cells cs t fr)→W'.heap[b]? = W.heap[b]?
theorem KeepT.refl (W:World):KeepT W W:=fun _ _ _ _ _ _=>rfl
theorem KeepT.trans {X Y Z:World} (h:KeepT X Y) (k:KeepT Y Z):KeepT X Z:=fun b cs t fr ht hb=>(k b cs t fr ht ((h b cs t fr ht hb).trans hb)).trans (h b cs t fr ht hb)
theorem KeepT.put {W:World} {d:Nat} (o:Obj) (h:∃ r,W.heap[d]? = some (.loop r)):KeepT W (W.putObj d o):=fun b cs t fr ht hb=>World.putObj_heap_other (fun e=>by subst e;obtain⟨r,hr⟩:=h;rw[hb]at hr;cases hr)
def KeepO (S:List Nat) (W W':World):Prop:=KeepS S W W'∧KeepT W W'
theorem RowBox.cells {w:World} {B:Nat} {at0:Option Addr} {cap:Nat} {l:List Sn} (h:RowBox w B at0 cap l):∀ b∈[B,rowB l at0 B],∃ o:Obj,w.heap[b]? = some o∧o.isCells=true:=by
 intro b hb
 have hB:∃ o:Obj,w.heap[B]? = some o∧o.isCells=true:=⟨_,h.box,rfl⟩
 rcases List.mem_cons.1 hb with rfl|hb
 ·exact hB
 ·rw[List.mem_singleton]at hb
  subst hb
  cases l with
  | nil=>exact hB
  | cons x xs =>
   obtain⟨b,off,rfl,hr⟩:=h.row (by simp)
   exact cells_of_cell (hr 0 (by simp) 0 (by rw[Sn.enc_len];omega))
structure FEachAt (w:World) (C:CfgR) (Bo Bi Bc:Nat) (at0:Option Addr) (cap:Nat) (l:List Sn):Prop where
 own:RowBox w Bo at0 cap l
 fn:w.heap[Bi]? = some (.cells #[.func (.func 164) #[] #[.pointer (some ⟨Bo,0,none⟩),.pointer (some ⟨Bc,0,none⟩)]] 82 (0,0))
 cfg:w.heap[Bc]? = some (.cells #[.int .i64 C.cl,.int .i64 C.cb,.int .i64 C.ht,.int .i64 C.ri,.int .i64 C.ru,.int .i64 C.wd,.int .i64 C.dp] 23 (0,0))
def eachS (Bo Bi Bc:Nat) (at0:Option Addr) (l:List Sn):List Nat:=[Bo,rowB l at0 Bo,Bi,Bc]
theorem FEachAt.keep {w W:World} {C:CfgR} {Bo Bi Bc:Nat} {at0:Option Addr} {cap:Nat} {l:List Sn} (h:FEachAt w C Bo Bi Bc at0 cap l) (k:KeepS (eachS Bo Bi Bc at0 l) w W):FEachAt W C Bo Bi Bc at0 cap l :=
 ⟨h.own.keep ⟨k _ (by simp[eachS]),k _ (by simp[eachS])⟩,(k _ (by simp[eachS])).trans h.fn,(k _ (by simp[eachS])).trans h.cfg⟩
theorem FEachAt.cells {w:World} {C:CfgR} {Bo Bi Bc:Nat} {at0:Option Addr} {cap:Nat} {l:List Sn} (h:FEachAt w C Bo Bi Bc at0 cap l):∀ b∈eachS Bo Bi Bc at0 l,∃ o:Obj,w.heap[b]? = some o∧o.isCells=true:=by
 intro b hb
 simp only[eachS,List.mem_cons,List.not_mem_nil,or_false]at hb
 rcases hb with rfl|rfl|rfl|rfl
 ·exact h.own.cells _ (by simp)
 ·exact h.own.cells _ (by simp)
 ·exact⟨_,h.fn,rfl⟩
 ·exact⟨_,h.cfg,rfl⟩
theorem FEachAt.lt {w:World} {C:CfgR} {Bo Bi Bc:Nat} {at0:Option Addr} {cap:Nat} {l:List Sn} (h:FEachAt w C Bo Bi Bc at0 cap l):∀ b∈eachS Bo Bi Bc at0 l,b<w.heap.size:=fun b hb=>by
 obtain⟨o,ho,-⟩:=h.cells b hb
 exact(Array.getElem?_eq_some_iff.1 ho).1
theorem cfg_cells {w:World} {C:CfgR} {B:Nat} {t:TypeId} (h:w.heap[B]? = some (.cells #[.int .i64 C.cl,.int .i64 C.cb,.int .i64 C.ht,.int .i64 C.ri,.int .i64 C.ru,.int .i64 C.wd,.int .i64 C.dp] t (0,0))):CellsAt w B 0 C.enc:=fun i hi=>by
 rw[Nat.zero_add]
 exact cell_of_heap h (by
  have:i<7:=hi
  rcases(show i=0∨i=1∨i=2∨i=3∨i=4∨i=5∨i=6 by omega)with rfl|rfl|rfl|rfl|rfl|rfl|rfl <;> rfl)
theorem rowB_two (l:List Sn) (at0:Option Addr) (B B':Nat):rowB l at0 B=B∨rowB l at0 B=rowB l at0 B':=by
 cases l with
 | nil=>exact .inl rfl
 | cons x xs=>cases at0 with
  | none=>exact .inl rfl
  | some a=>exact .inr rfl
theorem fi_each3 (C:CfgR) (at0:Option Addr) (l:List Sn) (cap Bo Bi Bc:Nat) (hl:l.length≤1000) (n:Nat) (hn:4≤n) (w:World) (H:FEachAt w C Bo Bi Bc at0 cap l) :
  SeqL Fence.wide n Tryz.prog 166 #[.pointer (some ⟨Bo,0,none⟩),.pointer (some ⟨Bi,0,none⟩)] (roomE l) (opL C l) (KeepO (eachS Bo Bi Bc at0 l)) w:=by
 intro lp J Jx W hW hJ hJx hY h0
 have E0:FEachAt W C Bo Bi Bc at0 cap l:=H.keep (KeepS.new H.lt hW)
 clear H hW
 simp only[List.append_toArray,List.cons_append,List.nil_append]
 refine callsIn_of_wp_marks Tryz.func166 rfl trivial ?_ rfl
 simp only[Tryz.ntmps166,List.size_toArray,List.length_cons,List.length_nil,Nat.reduceAdd,Nat.reduceSub,Array.replicate_succ,Array.replicate_zero,List.push_toArray,List.append_toArray,List.nil_append,List.cons_append]
 refine wpIn_wide.2 ?_
 have HY:=Lib.hid hY
 have HJ:=Lib.hid hJ
 have HJx:=Lib.hid hJx
 have H0:Hid (J 0 W):=h0
 have HE0:=Lib.hid E0
 clear hY hJ hJx h0 E0
 go_upto_region 1 with fail
 refine Code.at (fun V1 hV=>?_)
 have n1:New W V1:=by subst hV;exact nw
 have z1:V1.heap.size=W.heap.size+1:=by subst hV;simp
 have y1:V1.heap[W.heap.size]? = some (.cells #[.func (.yield lp) #[] #[]] 82 (0,0)):=by subst hV;exact World.alloc_heap_new _ _
 have J1:J 0 V1:=by subst hV;exact HJ.out.alloc _ H0.out
 clear hV
 have E1:=HE0.out.keep (KeepS.new HE0.out.lt n1)
 have c0:=E1.own.cell
 go_wp2_with fail
 refine(callsIn_wide.1 (fi_rooms at0 l.length cap 4 _)).mono ?_
 rintro e V2 ⟨rfl,hV⟩
 have n2:New V1 V2:=by subst hV;exact nw
 have z2:V2.heap.size=W.heap.size+1+1:=by subst hV;simp[z1]
 have x2:V2.heap[W.heap.size+1]? = some (.cells #[.slice at0 l.length cap] 147 (0,0)):=by rw[←z1];subst hV;exact World.alloc_heap_new _ _
 have y2:=New.stays n2 y1
 have J2:J 0 V2:=by subst hV;exact HJ.out.alloc _ J1
 rw[z1]
 clear hV
 have E2:=E1.keep (KeepS.new E1.lt n2)
 have hn2:New W V2:=n1.trans n2
 clear c0 E1 n1 n2 z1 y1 J1
 have RB:RowBox V2 (W.heap.size+1) at0 cap l:=⟨x2,E2.own.row⟩
 go_wp2_with fail
 refine(wpIn_wide (n:=n)).1 ?_
 have hlt:=RB.lt
 have hrl:=RB.row_lt
 have h2s:=hn2.size
 have hS:∀ b∈W.heap.size::(W.heap.size+1)::eachS Bo Bi Bc at0 l,∃ o:Obj,V2.heap[b]? = some o∧o.isCells=true:=by
  intro b hb
  rcases List.mem_cons.1 hb with rfl|hb
  ·exact⟨_,y2,rfl⟩
  ·rcases List.mem_cons.1 hb with rfl|hb
   ·exact⟨_,x2,rfl⟩
   ·exact E2.cells b hb
 refine wpIn_rangeL rfl (by omega) (gf:=205) (lb:=#[.pointer (some ⟨W.heap.size+1,0,none⟩)]) rfl trivial (enters_of Tryz.func205 (by kernel_rfl) rfl)
  (fi_rooms1 at0 l cap (W.heap.size+1) hl (n - 1) (by omega) V2 RB) (fun h k=>h.trans k) (fun V o _=>⟨World.putObj_heap_other (by omega),World.putObj_heap_other (by omega)⟩) (Below.refl _ _) (fun _=>rfl)
  (fun i V=>J (opN C l i) V∧KeepS (W.heap.size::(W.heap.size+1)::eachS Bo Bi Bc at0 l) V2 V)
  (fun q i V=>q=Code.ret∧∃ j,(0<j∧j≤(opL C l).length)∧Jx j V)
  (OwnFrom.and (own_up (opN C l) HJ.out h2s) (own_keepS hS))
  (fun q=>OwnFrom.and (own_pure _ _) (fun s X Y row hs hg hr=>by
   obtain⟨j,hj,hs⟩:=hs
   exact⟨j,hj,HJx.out j X Y row hs hg (fun r e=>⟨Nat.le_trans h2s (hr r e).1,(hr r e).2⟩)⟩))
  ⟨J2,KeepS.refl _⟩
  (fun i a' _=>a'={ tmps:=#[.func (.yield lp) #[] #[],.pointer (some ⟨Bo,0,none⟩),.pointer (some ⟨Bi,0,none⟩),.pointer (some ⟨W.heap.size,0,none⟩),.int .i64 (i:Nat),.int .i64 (roofF l i),.slice at0 l.length cap,.func (.func 205) #[] #[.pointer (some ⟨W.heap.size+1,0,none⟩)],.int .i64 (i:Nat),.int .i64 (roofF l i),undef,undef,undef,undef,undef,undef,undef,undef,undef,undef,undef],defers:=[] })
  (fun i a'=>fun _ _ _ _ hs _ _=>hs) ?assign ?body ?done ?stop
 case assign =>
  intro i hi V K hI hK
  simp only[roomE,List.getElem_range]
  simp only[List.zip_toArray,List.zip_cons_cons,List.zip_nil_right,List.foldl_toArray',List.foldl_cons,List.foldl_nil,List.setIfInBounds_toArray,List.set_cons_succ,List.set_cons_zero,List.size_toArray,List.length_cons,List.length_nil]
  gi_wp2
  exact hK _ _ (KeepsFrom.refl _ _) (Keep2.refl _) hI rfl
 case body =>
  rintro i hi a' V - ⟨hJ1,hK⟩ rfl
  have hil:i<l.length:=by simpa using hi
  have hn1:1≤n - 1 - 1:=by omega
  have hn2':1≤n - 1 - 1 - 1:=by omega
  have E:=E2.keep (fun b hb=>hK b (List.mem_cons_of_mem _ (List.mem_cons_of_mem _ hb)))
  have yc:=(show Boxed V _ _ _ from(hK W.heap.size (by simp)).trans y2).cell
  have bc:=(show Boxed V _ _ _ from E.fn).cell
  have ko:=fi_isOpen C at0 l cap Bo Bc i hil hl (roofF l i) V E.own (cfg_cells E.cfg)
  rw[←opnB_at C hil]at ko
  have hV:∀ b∈W.heap.size::(W.heap.size+1)::eachS Bo Bi Bc at0 l,b<V.heap.size:=fun b hb=>by
   obtain⟨o,ho,-⟩:=hS b hb
   exact(Array.getElem?_eq_some_iff.1 ((hK b hb).trans ho)).1
  have hK2:∀ V',KeepS (W.heap.size::(W.heap.size+1)::eachS Bo Bi Bc at0 l) V V'→Keep2 (W.heap.size+1) (rowB l at0 (W.heap.size+1)) V V':=fun V' h=>by
   refine⟨h _ (by simp),?_⟩
   rcases rowB_two l at0 (W.heap.size+1) Bo with e|e
   ·rw[e];exact h _ (by simp)
   ·rw[e];exact h _ (by simp[eachS])
  have HVV:=Lib.hid hV
  have HK2:=Lib.hid hK2
  have HKK:=Lib.hid hK
  have HJ1:Hid (J (opN C l i) V):=hJ1
  have hsz:=opN_succ C l i
  clear hJ1 hK hV hK2 H0 HE0
  cases ho:opnB C l i
  ·rw[ho]at ko hsz
   have KO:=Lib.hid ko
   have HSZ:=Lib.hid hsz
   clear ko hsz ho
   gi_wp2_with (refine⟨trivial,?_⟩;gi_at_call 164;refine(callsIn_in KO.out).mono ?_;rintro e V3 ⟨rfl,n3⟩)
   refine⟨fun _ h=>(by cases h),?_⟩
   gi_wp2_with fail
   have k3:=KeepS.new HVV.out n3
   refine⟨keepsFrom_new n3,HK2.out _ k3,?_,HKK.out.trans k3⟩
   rw[HSZ.out]
   exact own_over HJ.out HJ1.out n3
  ·obtain⟨hj,hje⟩:=opL_at C l hil ho
   rw[ho]at ko hsz
   have hyall:=fun V3 q=>HY.out (opN C l i) hj V3 q
   rw[hje]at hyall
   unfold roomE at hyall
   have KO:=Lib.hid ko
   have HSZ:=Lib.hid hsz
   have HYA:=Lib.hid hyall
   have HJE:=Lib.hid hj
   clear ko hsz ho hyall hje hj
   gi_wp2_with (refine⟨trivial,?_⟩;gi_at_call 164;refine(callsIn_in KO.out).mono ?_;rintro e V3 ⟨rfl,n3⟩;replace yc:=n3.keep yc;(obtain⟨fn,tmps,assign,body,hy,hR⟩:=HYA.out V3 (own_over HJ.out HJ1.out n3)))
   refine(roundIn_in hR).mono ?_
   clear hy hR
   rintro e V4 (⟨rfl,kf,ko,hJ4⟩|⟨rfl,kf,hJ4⟩)
   ·have k3:=KeepS.new HVV.out n3
    have y3:=(k3 W.heap.size (by simp)).trans ((HKK.out W.heap.size (by simp)).trans y2)
    have r3:=(k3 (W.heap.size+1) (by simp)).trans ((HKK.out (W.heap.size+1) (by simp)).trans x2)
    have k4:KeepS (W.heap.size::(W.heap.size+1)::eachS Bo Bi Bc at0 l) V3 V4:=fun b hb=>by
     rcases List.mem_cons.1 hb with rfl|hb
     ·exact ko.2 _ _ _ _ (.inr rfl) y3
     ·rcases List.mem_cons.1 hb with rfl|hb
      ·exact ko.2 _ _ _ _ (.inl rfl) r3
      ·exact ko.1 b hb
    have HJ4:=Lib.hid hJ4
    have HF:=Lib.hid ((keepsFrom_new n3:KeepsFrom V2.heap.size V V3).trans (keepsFrom_up kf h2s))
    have HK4:=Lib.hid (k3.trans k4)
    clear hJ4 kf ko k3 k4 y3 r3
    gi_wp2_with fail
    exact⟨HF.out,HK2.out _ HK4.out,by rw[HSZ.out];exact HJ4.out,HKK.out.trans HK4.out⟩
   ·have HJ4:Hid (∃ j,(0<j∧j≤(opL C l).length)∧Jx j V4):=Lib.hid ⟨_,⟨by omega,HJE.out⟩,hJ4⟩
    have HF:=Lib.hid ((keepsFrom_new n3:KeepsFrom V2.heap.size V V3).trans (keepsFrom_up kf h2s))
    clear hJ4 kf
    gi_wp2_with fail
    exact⟨HF.out,rfl,HJ4.out⟩
 case done =>
  rintro V ⟨hJ1,hK⟩ hD
  rw[List.length_range]at hJ1
  have HJ1:Hid (J (opL C l).length V):=hJ1
  clear hJ1
  go_wp2_with fail
  refine ret_mark hD fun U hU hk=>⟨_,results_none rfl _ _ _,⟨_,rfl⟩,.inl ?_⟩
  rw[hU]
  exact HJ.out.putObj _ HJ1.out h2s hD rfl
 case stop =>
  rintro i q V hi0 hi1 ⟨rfl,j,hj,hJ1⟩ hD
  refine wpIn_wide.2 ?_
  have HJ1:=Lib.hid hJ1
  clear hJ1
  go_wp2_with fail
  refine ret_mark hD fun U hU hk=>⟨_,results_none rfl _ _ _,⟨_,rfl⟩,.inr ⟨j,hj.1,hj.2,?_⟩⟩
  rw[hU]
  exact HJx.out.putObj _ HJ1.out h2s hD rfl
end Go.Proofs.YtmhghnbgllaihaaGreatDoor

namespace Go.Proofs.YtmhghnbgllaihaaGreatDoor
open Go.RowKit Go.Shelf Go.Sort
attribute [local go_sem] Oper.semAt_some
theorem run_store_func {P:Program} {a:Addr} {f:_root_.Go.Fn} {x y:Array Value} {m:Mode} {w:World}:(store a (.func f x y) m).run P w=stored P w a (.func f x y) m:=run_store P w a _ m rfl
attribute [local go_sem] run_store_func
def opX (C:CfgR) (l:List Sn):List Nat:=if fiE C l=0 then opL C l else []
theorem fi_each1 (enc:Nat→Array Value) (Kp:World→World→Prop) (n:Nat) (w:World):SeqL Fence.wide n Tryz.prog 162 #[] enc [] Kp w:=by
 intro lp J Jx W hW hJ hJx hY h0
 simp only[List.append_toArray,List.cons_append,List.nil_append]
 refine callsIn_of_wp Tryz.func162 rfl trivial ?_ rfl
 simp only[Tryz.ntmps162,List.size_toArray,List.length_cons,List.length_nil,Nat.reduceAdd,Nat.reduceSub,Array.replicate_succ,Array.replicate_zero,List.push_toArray,List.append_toArray,List.nil_append,List.cons_append]
 have H0:Hid (J 0 W):=h0
 clear h0
 gi_wp2_with fail
 go_end0
 exact⟨⟨_,rfl⟩,.inl H0.out⟩
def LaidT (w:World) (b:Nat):Prop:=∃ cs t fr,w.heap[b]? = some (.cells cs t fr)∧(t=147∨t=82∨t=180∨t=23)
theorem LaidT.new {w w':World} {b:Nat} (h:LaidT w b) (n:New w w'):LaidT w' b:=by
 obtain⟨cs,t,fr,h1,h2⟩:=h
 exact⟨cs,t,fr,(n.block b (Array.getElem?_eq_some_iff.1 h1).1).trans h1,h2⟩
def Eached (C:CfgR) (l:List Sn) (w:World) (e:Ending) (w':World):Prop :=
 New w w'∧∃ (g:Nat) (lb:Array Value) (S:List Nat),e=.returned (.func (.func g) #[] lb)∧(∀ b∈S,w.heap.size≤b∧b<w'.heap.size∧LaidT w' b)∧(∀ args W,(callFunc g args).run Tryz.prog W=.ok (.enter g args) W)∧∀ n,4≤n→SeqL Fence.wide n Tryz.prog g lb (roomE l) (opX C l) (KeepO S) w'
theorem fi_each (C:CfgR) (at0:Option Addr) (l:List Sn) (c:Nat) (w:World) (h:Sl Sn.enc 3 w (.slice at0 l.length c) l) :
  Calls Tryz.prog 135 #[.agg #[.int .i64 C.cl,.int .i64 C.cb,.int .i64 C.ht,.int .i64 C.ri,.int .i64 C.ru,.int .i64 C.wd,.int .i64 C.dp],.slice at0 l.length c] w (Eached C l w):=by
 have hlm:l.length≤maxLen:=by obtain⟨_,h1,h2,_⟩:=h.row';omega
 have KF:=Lib.hid (fun W n=>fi_check C at0 l c hlm W ((h.keep (n:New w W)).row'.2.2.2.2))
 have HS:=Lib.hid h
 obtain⟨r,hr⟩:∃ r,r=fiE C l:=⟨_,rfl⟩
 rw[←hr]at KF
 have HR:=Lib.hid hr
 have h3:=fiE_three C l
 rw[←hr]at h3
 clear hr hlm h
 obtain⟨Q,hQ⟩:∃ Q,Q=Eached C l w:=⟨_,rfl⟩
 rw[←hQ]
 have HQ:=Lib.hid hQ
 clear hQ
 go_enter Tryz.func135,Tryz.ntmps135
 go_upto_region 1 with fail
 refine Code.at (fun W0 hW=>?_)
 have n0:New w W0:=by subst hW;exact nw
 have z0:W0.heap.size=w.heap.size+1:=by subst hW;simp
 have x0:W0.heap[w.heap.size]? = some (.cells #[.int .i64 C.cl,.int .i64 C.cb,.int .i64 C.ht,.int .i64 C.ri,.int .i64 C.ru,.int .i64 C.wd,.int .i64 C.dp] 23 (0,0)):=by subst hW;exact World.alloc_heap_new _ _
 clear hW
 obtain⟨c0,c1,c2,c3,c4,c5,c6⟩:=CfgR.at (cfg_cells x0)
 go_wp2_with fail
 refine(KF.out _ n0).mono ?_
 rintro e W1 ⟨rfl,n1⟩
 have x1:=New.stays n1 x0
 have hn1:New w W1:=n0.trans n1
 clear c0 c1 c2 c3 c4 c5 c6 x0 n1 z0 n0
 rcases h3 with rfl|h3
 ·have KL:=Lib.hid (fun hl=>fi_clone at0 l c hl W1 (HS.out.keep hn1))
  have hl8:l.length≤8:=(chkE_zero (fiE_ok HR.out.symm).2).1
  go_wp2_with fail
  refine(KL.out (by omega)).mono ?_
  rintro e W2 ⟨a,d,rfl,hSl,n2,hab⟩
  have x2:=New.stays n2 x1
  have hn2:New w W2:=hn1.trans n2
  have hwc:w.heap.size<W1.heap.size:=(Array.getElem?_eq_some_iff.1 x1).1
  have HSl:=Lib.hid hSl
  have HAB:=Lib.hid hab
  have z2:=n2.size
  clear n2 x1 hSl hab
  go_wp2_with fail
  rw[HQ.out]
  show Eached C l w (.returned (.func (.func 166) #[] #[.pointer (some ⟨W2.heap.size,0,none⟩),.pointer (some ⟨W2.heap.size+1,0,none⟩)])) _
  obtain⟨U,hU⟩:∃ U,U=(W2.alloc (.cells #[.slice a l.length d] 147)).alloc (.cells #[.func (.func 164) #[] #[.pointer (some ⟨W2.heap.size,0,none⟩),.pointer (some ⟨w.heap.size,0,none⟩)]] 82):=⟨_,rfl⟩
  rw[←hU]
  have nU:New W2 U:=by subst hU;exact nw
  have bx:U.heap[W2.heap.size]? = some (.cells #[.slice a l.length d] 147 (0,0)):=by subst hU;exact(((New.refl _).alloc _)).stays (World.alloc_heap_new W2 _)
  have fx:U.heap[W2.heap.size+1]? = some (.cells #[.func (.func 164) #[] #[.pointer (some ⟨W2.heap.size,0,none⟩),.pointer (some ⟨w.heap.size,0,none⟩)]] 82 (0,0)):=by
   subst hU
   have h:=World.alloc_heap_new (W2.alloc (.cells #[.slice a l.length d] 147)) (.cells #[.func (.func 164) #[] #[.pointer (some ⟨W2.heap.size,0,none⟩),.pointer (some ⟨w.heap.size,0,none⟩)]] 82)
   rw[World.size_alloc]at h
   exact h
  have E:FEachAt U C W2.heap.size (W2.heap.size+1) w.heap.size a d l:=⟨⟨bx,(HSl.out.keep nU).row'.2.2.2.2⟩,fx,New.stays nU x2⟩
  refine⟨hn2.trans nU,_,_,eachS W2.heap.size (W2.heap.size+1) w.heap.size a l,rfl,fun b hb=>⟨?_,E.lt b hb,?_⟩,enters_of Tryz.func166 (by kernel_rfl) rfl,fun n hn=>by unfold opX;rw[if_pos HR.out.symm];exact fi_each3 C a l d _ _ _ (by omega) n hn U E⟩
  all_goals simp only[eachS,List.mem_cons,List.not_mem_nil,or_false]at hb
  ·rcases hb with rfl|rfl|rfl|rfl
   ·omega
   ·cases l with
    | nil=>show w.heap.size≤W2.heap.size;omega
    | cons x xs=>cases a with
     | none=>show w.heap.size≤W2.heap.size;omega
     | some ad=>have:=(HAB.out ad rfl).1;show w.heap.size≤ad.block;omega
   ·omega
   ·omega
  ·rcases hb with rfl|rfl|rfl|rfl
   ·exact⟨_,_,_,bx,.inl rfl⟩
   ·cases l with
    | nil=>exact⟨_,_,_,bx,.inl rfl⟩
    | cons x xs=>cases a with
     | none=>exact⟨_,_,_,bx,.inl rfl⟩
     | some ad =>
      obtain⟨-,cs,fr,hcs⟩:=HAB.out ad rfl
      exact LaidT.new ⟨_,_,_,hcs,.inr (.inr (.inl rfl))⟩ nU
   ·exact⟨_,_,_,fx,.inr (.inl rfl)⟩
   ·exact⟨_,_,_,New.stays nU x2,.inr (.inr (.inr rfl))⟩
 ·have hne:(r != 0)=true:=by rcases h3 with rfl|rfl <;> rfl
  have hr0:fiE C l≠0:=by rw[←HR.out];rcases h3 with rfl|rfl <;> decide
  clear h3
  go_wp2_with fail
  rw[HQ.out]
  exact⟨hn1,_,#[],[],rfl,fun b hb=>(by cases hb),enters_of Tryz.func162 (by kernel_rfl) rfl,fun n hn=>by unfold opX;rw[if_neg hr0];exact fi_each1 _ _ _ _⟩
end Go.Proofs.YtmhghnbgllaihaaGreatDoor

namespace Go.Proofs.YtmhghnbgllaihaaGreatDoor
open Go.RowKit Go.Shelf Go.Sort
attribute [local go_sem] Oper.semAt_some
def flOf (l:List Sn) (k:Nat):Fl:=⟨(l[k]?.map (·.hi)).getD 0,roofF l k,1⟩
theorem flOf_at {l:List Sn} {k:Nat} (h:k<l.length):flOf l k=⟨l[k].hi,roofF l k,1⟩:=by unfold flOf;rw[List.getElem?_eq_getElem h];rfl
def flX (C:CfgR) (l:List Sn):List Fl:=(opX C l).map (flOf l)
def flA (f:Fl):Array Value:=#[.agg #[.int .i64 f.y,.int .i64 f.top,.int .i64 f.area]]
theorem flX_len (C:CfgR) (l:List Sn):(flX C l).length=(opX C l).length:=List.length_map _
theorem flX_at {C:CfgR} {l:List Sn} {i:Nat} (h:i<(flX C l).length):(flX C l)[i]=flOf l ((opX C l)[i]'(by rw[←flX_len];exact h)):=by simp[flX]
theorem opX_in {C:CfgR} {l:List Sn} {i:Nat} (h:i<(opX C l).length):fiE C l=0∧(opX C l)[i]<l.length:=by
 have h0:fiE C l=0:=by
  by_cases h0:fiE C l=0
  ·exact h0
  ·unfold opX at h
   rw[if_neg h0]at h
   simp at h
 refine⟨h0,?_⟩
 have he:opX C l=opL C l:=by unfold opX;rw[if_pos h0]
 have hm:(opX C l)[i]∈opL C l:=by
  have:=List.getElem_mem h
  generalize hx:(opX C l)[i]=x at *
  rw[he]at this
  exact this
 unfold opL at hm
 exact List.mem_range.1 (List.mem_filter.1 hm).1
def KeepU (W W':World):Prop:=∀ (b:Nat) (cs:Array Value) (t:TypeId) (fr:Nat×Nat),(t=147∨t=82∨t=180∨t=23∨t=195)→W.heap[b]? = some (Obj.cells cs t fr)→W'.heap[b]? = W.heap[b]?
theorem KeepU.trans {X Y Z:World} (h:KeepU X Y) (k:KeepU Y Z):KeepU X Z:=fun b cs t fr ht hb=>(k b cs t fr ht ((h b cs t fr ht hb).trans hb)).trans (h b cs t fr ht hb)
theorem KeepU.put {W:World} {d:Nat} (o:Obj) (h:∃ r,W.heap[d]? = some (.loop r)):KeepU W (W.putObj d o):=fun b cs t fr ht hb=>World.putObj_heap_other (fun e=>by subst e;obtain⟨r,hr⟩:=h;rw[hb]at hr;cases hr)
theorem KeepU.keepT {W W':World} (h:KeepU W W'):KeepT W W':=fun b cs t fr ht hb=>h b cs t fr (by rcases ht with rfl|rfl <;> simp) hb
theorem KeepU.laid {W W':World} (h:KeepU W W') {b:Nat} (l:LaidT W b):W'.heap[b]? = W.heap[b]? := by
 obtain⟨cs,t,fr,h1,h2⟩:=l
 exact h b cs t fr (by rcases h2 with rfl|rfl|rfl|rfl <;> simp) h1
def KeepG (S:List Nat) (W W':World):Prop:=KeepS S W W'∧KeepU W W'
structure FloAt (w:World) (C:CfgR) (Bc Bl:Nat) (at0:Option Addr) (cap:Nat) (l:List Sn):Prop where
 cfg:w.heap[Bc]? = some (.cells #[.int .i64 C.cl,.int .i64 C.cb,.int .i64 C.ht,.int .i64 C.ri,.int .i64 C.ru,.int .i64 C.wd,.int .i64 C.dp] 23 (0,0))
 box:w.heap[Bl]? = some (.cells #[.slice at0 l.length cap] 147 (0,0))
 row:Sl Sn.enc 3 w (.slice at0 l.length cap) l
def floS (Bc Bl:Nat) (at0:Option Addr) (l:List Sn):List Nat:=[Bc,Bl,rowB l at0 Bl]
theorem FloAt.rb {w:World} {C:CfgR} {Bc Bl:Nat} {at0:Option Addr} {cap:Nat} {l:List Sn} (h:FloAt w C Bc Bl at0 cap l):RowBox w Bl at0 cap l:=⟨h.box,h.row.row'.2.2.2.2⟩
theorem FloAt.keep {w W:World} {C:CfgR} {Bc Bl:Nat} {at0:Option Addr} {cap:Nat} {l:List Sn} (h:FloAt w C Bc Bl at0 cap l) (k:KeepS (floS Bc Bl at0 l) w W):FloAt W C Bc Bl at0 cap l:=by
 have r:=h.rb.keep (W:=W) ⟨k _ (by simp[floS]),k _ (by simp[floS])⟩
 obtain⟨a,c,e,h1,h2,h3,h4⟩:=h.row
 injection e with e1 e2 e3
 subst e1 e3
 exact⟨(k _ (by simp[floS])).trans h.cfg,r.box,_,_,rfl,h1,h2,h3,r.row⟩
theorem FloAt.cells {w:World} {C:CfgR} {Bc Bl:Nat} {at0:Option Addr} {cap:Nat} {l:List Sn} (h:FloAt w C Bc Bl at0 cap l):∀ b∈floS Bc Bl at0 l,∃ o:Obj,w.heap[b]? = some o∧o.isCells=true:=by
 intro b hb
 simp only[floS,List.mem_cons,List.not_mem_nil,or_false]at hb
 rcases hb with rfl|rfl|rfl
 ·exact⟨_,h.cfg,rfl⟩
 ·exact⟨_,h.box,rfl⟩
 ·exact h.rb.cells _ (by simp)
theorem FloAt.lt {w:World} {C:CfgR} {Bc Bl:Nat} {at0:Option Addr} {cap:Nat} {l:List Sn} (h:FloAt w C Bc Bl at0 cap l):∀ b∈floS Bc Bl at0 l,b<w.heap.size:=fun b hb=>by
 obtain⟨o,ho,-⟩:=h.cells b hb
 exact(Array.getElem?_eq_some_iff.1 ho).1
theorem og_floors1 (C:CfgR) (at0:Option Addr) (l:List Sn) (cap Bc Bl:Nat) (n:Nat) (hn:7≤n) (w:World) (H:FloAt w C Bc Bl at0 cap l) :
  SeqL Fence.wide n Tryz.prog 134 #[.pointer (some ⟨Bc,0,none⟩),.pointer (some ⟨Bl,0,none⟩)] flA (flX C l) (KeepG (floS Bc Bl at0 l)) w:=by
 intro lp J Jx W hW hJ hJx hY h0
 have E0:FloAt W C Bc Bl at0 cap l:=H.keep (KeepS.new H.lt hW)
 clear H hW
 simp only[List.append_toArray,List.cons_append,List.nil_append]
 refine callsIn_of_wp_marks Tryz.func134 rfl trivial ?_ rfl
 simp only[Tryz.ntmps134,List.size_toArray,List.length_cons,List.length_nil,Nat.reduceAdd,Nat.reduceSub,Array.replicate_succ,Array.replicate_zero,List.push_toArray,List.append_toArray,List.nil_append,List.cons_append]
 refine wpIn_wide.2 ?_
 have HY:=Lib.hid hY
 have HJ:=Lib.hid hJ
 have HJx:=Lib.hid hJx
 have H0:Hid (J 0 W):=h0
 have HE0:=Lib.hid E0
 clear hY hJ hJx h0 E0
 go_upto_region 1 with fail
 refine Code.at (fun V1 hV=>?_)
 have n1:New W V1:=by subst hV;exact nw
 have z1:V1.heap.size=W.heap.size+1:=by subst hV;simp
 have y1:V1.heap[W.heap.size]? = some (.cells #[.func (.yield lp) #[] #[]] 195 (0,0)):=by subst hV;exact World.alloc_heap_new _ _
 have J1:J 0 V1:=by subst hV;exact HJ.out.alloc _ H0.out
 clear hV
 have E1:=HE0.out.keep (KeepS.new HE0.out.lt n1)
 obtain⟨c0,c1,c2,c3,c4,c5,c6⟩:=CfgR.at (cfg_cells E1.cfg)
 have b0:=E1.rb.cell
 have KE:=fi_each C at0 l cap V1 E1.row
 go_wp2_with fail
 refine KE.mono ?_
 rintro e V ⟨n2,g,lb,S,rfl,hSb,heg,hsq⟩
 have E2:=E1.keep (KeepS.new E1.lt n2)
 have y2:=New.stays n2 y1
 have J2:J 0 V:=own_over HJ.out J1 n2
 have hn2:New W V:=n1.trans n2
 have z2:=n2.size
 clear c0 c1 c2 c3 c4 c5 c6 b0 KE E1 n1 y1 J1 n2
 go_wp2_with fail
 refine(wpIn_wide (n:=n)).1 ?_
 have h2s:=hn2.size
 obtain⟨S2,hS2⟩:∃ S2,S2=W.heap.size::(floS Bc Bl at0 l++S):=⟨_,rfl⟩
 have hSo:∀ b∈S2,∃ o:Obj,V.heap[b]? = some o∧o.isCells=true:=by
  intro b hb
  rw[hS2]at hb
  rcases List.mem_cons.1 hb with rfl|hb
  ·exact⟨_,y2,rfl⟩
  ·rcases List.mem_append.1 hb with hb|hb
   ·exact E2.cells b hb
   ·obtain⟨cs,t,fr,h1,-⟩:=(hSb b hb).2.2
    exact⟨_,h1,rfl⟩
 have s0:W.heap.size∈S2:=by rw[hS2];simp
 have s1:∀ b∈floS Bc Bl at0 l,b∈S2:=fun b hb=>by rw[hS2];exact List.mem_cons_of_mem _ (List.mem_append_left _ hb)
 have s2:∀ b∈S,b∈S2:=fun b hb=>by rw[hS2];exact List.mem_cons_of_mem _ (List.mem_append_right _ hb)
 have s3:∀ b∈S2,b=W.heap.size∨b∈floS Bc Bl at0 l∨b∈S:=fun b hb=>by
  rw[hS2]at hb
  rcases List.mem_cons.1 hb with h|hb
  ·exact .inl h
  ·exact .inr (List.mem_append.1 hb)
 clear hS2
 refine wpIn_rangeL rfl (by omega) (gf:=g) (lb:=lb) rfl trivial heg (hsq (n - 1) (by omega)) (fun h k=>⟨h.1.trans k.1,h.2.trans k.2⟩)
  (fun U o hr=>⟨fun b hb=>World.putObj_heap_other (by have:=(hSb b hb).2;omega),KeepT.put o hr⟩) (Below.refl _ _) (fun _=>rfl)
  (fun i U=>J i U∧KeepS S2 V U)
  (fun q i U=>q=Code.ret∧∃ j,(0<j∧j≤(flX C l).length)∧Jx j U)
  (OwnFrom.and (own_up id HJ.out h2s) (own_keepS hSo))
  (fun q=>OwnFrom.and (own_pure _ _) (fun s X Y row hs hg hr=>by
   obtain⟨j,hj,hs⟩:=hs
   exact⟨j,hj,HJx.out j X Y row hs hg (fun r e=>⟨Nat.le_trans h2s (hr r e).1,(hr r e).2⟩)⟩))
  ⟨J2,KeepS.refl _⟩
  (fun i a' _=>∃ k:Nat,(opX C l)[i]? = some k∧a'={ tmps:=#[.func (.yield lp) #[] #[],.pointer (some ⟨Bc,0,none⟩),.pointer (some ⟨Bl,0,none⟩),.pointer (some ⟨W.heap.size,0,none⟩),.int .i64 (k:Nat),.int .i64 (roofF l k),.agg #[.int .i64 C.cl,.int .i64 C.cb,.int .i64 C.ht,.int .i64 C.ri,.int .i64 C.ru,.int .i64 C.wd,.int .i64 C.dp],.slice at0 l.length cap,.func (.func g) #[] lb,.int .i64 (k:Nat),.int .i64 (roofF l k),undef,undef,undef,undef,undef,undef,undef,undef,undef,undef],defers:=[] })
  (fun i a'=>fun _ _ _ _ hs _ _=>hs) ?assign ?body ?done ?stop
 case assign =>
  intro i hi U K hI hK
  generalize hk:(opX C l)[i]=k
  simp only[roomE]
  simp only[List.zip_toArray,List.zip_cons_cons,List.zip_nil_right,List.foldl_toArray',List.foldl_cons,List.foldl_nil,List.setIfInBounds_toArray,List.set_cons_succ,List.set_cons_zero,List.size_toArray,List.length_cons,List.length_nil]
  gi_wp2
  exact hK _ _ (KeepsFrom.refl _ _) ⟨KeepS.refl _,KeepT.refl _⟩ hI ⟨k,by rw[List.getElem?_eq_getElem hi,hk],rfl⟩
 case body =>
  rintro i hi a' U - ⟨hJ1,hK⟩ ⟨k,hk,rfl⟩
  have hn1:1≤n - 1 - 1:=by omega
  have hn2':1≤n - 1 - 1 - 1:=by omega
  have hkl:k<l.length:=by
   have h:=(opX_in hi).2
   have:(opX C l)[i]=k:=by rw[List.getElem?_eq_getElem hi]at hk;exact Option.some.inj hk
   rwa [this]at h
  have E:=E2.keep (fun b hb=>hK b (s1 b hb))
  have yc:=(show Boxed U _ _ _ from(hK W.heap.size s0).trans y2).cell
  have bc:=E.rb.cell
  obtain⟨b0,off,ha,hA⟩:=E.rb.row (by omega)
  subst ha
  obtain⟨d0,d1,d2⟩:=Sn.cells hA k hkl
  have hfi:i<(flX C l).length:=by rw[flX_len];exact hi
  have hfe:(flX C l)[i]=⟨l[k].hi,roofF l k,1⟩:=by
   have:(opX C l)[i]=k:=by rw[List.getElem?_eq_getElem hi]at hk;exact Option.some.inj hk
   rw[flX_at,this,flOf_at hkl]
  have hyall:=fun V3 q=>HY.out i hfi V3 q
  rw[hfe]at hyall
  have HYA:=Lib.hid hyall
  have HJ1:=Lib.hid hJ1
  have HKK:=Lib.hid hK
  obtain⟨hy2,hhy⟩:∃ q,q=l[k].hi:=⟨_,rfl⟩
  rw[←hhy]at d1 HYA
  obtain⟨rf,hrf⟩:∃ q,q=roofF l k:=⟨_,rfl⟩
  rw[←hrf]at HYA ⊢
  have HFI:=Lib.hid hfi
  clear hyall hJ1 hK H0 HE0 E hA d0 d2 hhy hrf hfe hk hfi
  generalize l.length=m at *
  have bcd:U.drew.cell? ⟨Bl,0,none⟩=some (.slice (some ⟨b0,off,none⟩) m cap):=bc
  have ycd:U.drew.cell? ⟨W.heap.size,0,none⟩=some (.func (.yield lp) #[] #[]):=yc
  have d1d:U.drew.cell? ⟨b0,off+k*3+1,none⟩=some (.int .i64 hy2):=d1
  clear bc yc d1
  gi_wp2_with fail
  refine wpIn_region_loose 8 (fun _ w1 w2=>w2=w1) (fun _ w1=>w1=U.drew) (fun i w' v=>match i with
   | 0=>v=.func (.yield lp) #[] #[]∧w'=U.drew
   | 1=>v=.slice (some ⟨b0,off,none⟩) m cap
   | 2=>v=.int .i64 (k:Nat)
   | 3=>v=.pointer (some ⟨b0,off+k*3,none⟩)
   | 4=>v=.pointer (some ⟨b0,off+k*3+1,none⟩)
   | 5=>v=.int .i64 hy2
   | 6=>v=.int .i64 rf
   | 7=>v=.agg #[.int .i64 hy2,.int .i64 rf,.int .i64 1]
   | _=>True) (by kernel_rfl) (by kernel_rfl) (by kernel_rfl) ?_ ?_ ?_ ?_ ?_
  ·rintro i j' w1 w2 v hij h rfl
   exact h
  ·rfl
  ·rintro listed j' w1 w2 hj' hs h rfl
   exact h
  ·intro i o listed hi ho hls a' w' hKK hr hd
   subst hKK
   rcases(show i=0∨i=1∨i=2∨i=3∨i=4∨i=5∨i=6∨i=7 by omega)with rfl|rfl|rfl|rfl|rfl|rfl|rfl|rfl <;> obtain rfl:=Option.some.inj ho
   ·have r3:(a'.tmps[3]?).getD undef=.pointer (some ⟨W.heap.size,0,none⟩):=(eval_get a' 3).symm.trans (hr 3 (by kernel_rfl))
    exact⟨_,_,by go_simp,rfl,rfl,rfl⟩
   ·have r2:(a'.tmps[2]?).getD undef=.pointer (some ⟨Bl,0,none⟩):=(eval_get a' 2).symm.trans (hr 2 (by kernel_rfl))
    exact⟨_,_,by go_simp,rfl,rfl⟩
   ·have r4:(a'.tmps[4]?).getD undef=.int .i64 (k:Nat):=(eval_get a' 4).symm.trans (hr 4 (by kernel_rfl))
    exact⟨_,_,by go_simp,rfl,rfl⟩
   ·have r12:(a'.tmps[12]?).getD undef=.slice (some ⟨b0,off,none⟩) m cap:=(eval_get a' 12).symm.trans (hd 1 12 (by omega) (by kernel_rfl) (by kernel_rfl))
    have r13:(a'.tmps[13]?).getD undef=.int .i64 (k:Nat):=(eval_get a' 13).symm.trans (hd 2 13 (by omega) (by kernel_rfl) (by kernel_rfl))
    exact⟨_,_,by go_simp,rfl,rfl⟩
   ·have r14:(a'.tmps[14]?).getD undef=.pointer (some ⟨b0,off+k*3,none⟩):=(eval_get a' 14).symm.trans (hd 3 14 (by omega) (by kernel_rfl) (by kernel_rfl))
    exact⟨_,_,by go_simp,rfl,rfl⟩
   ·have r15:(a'.tmps[15]?).getD undef=.pointer (some ⟨b0,off+k*3+1,none⟩):=(eval_get a' 15).symm.trans (hd 4 15 (by omega) (by kernel_rfl) (by kernel_rfl))
    exact⟨_,_,by go_simp,rfl,rfl⟩
   ·have r5:(a'.tmps[5]?).getD undef=.int .i64 rf:=(eval_get a' 5).symm.trans (hr 5 (by kernel_rfl))
    exact⟨_,_,by go_simp,rfl,rfl⟩
   ·have r16:(a'.tmps[16]?).getD undef=.int .i64 hy2:=(eval_get a' 16).symm.trans (hd 5 16 (by omega) (by kernel_rfl) (by kernel_rfl))
    have r17:(a'.tmps[17]?).getD undef=.int .i64 rf:=(eval_get a' 17).symm.trans (hd 6 17 (by omega) (by kernel_rfl) (by kernel_rfl))
    exact⟨_,_,by go_simp,rfl,rfl⟩
  ·intro vs w' hv'
   obtain⟨e0,rfl⟩:=hv' 0 (by omega)
   have e1:=hv' 1 (by omega)
   have e2:=hv' 2 (by omega)
   have e3:=hv' 3 (by omega)
   have e4:=hv' 4 (by omega)
   have e5:=hv' 5 (by omega)
   have e6:=hv' 6 (by omega)
   have e7:=hv' 7 (by omega)
   simp only[]at e0 e1 e2 e3 e4 e5 e6 e7
   clear hv'
   simp only[List.take_succ_cons,List.take_zero,List.drop_succ_cons,List.drop_zero,putL,Act.put,List.setIfInBounds_toArray,List.set_cons_zero,List.set_cons_succ,Nat.reduceAdd,Nat.zero_add]
   rw[e0,e1,e2,e3,e4,e5,e6,e7]
   clear e0 e1 e2 e3 e4 e5 e6 e7 bcd ycd d1d
   have nU:New U U.drew:=(New.refl _).drew
   have hJ2:=own_over HJ.out HJ1.out nU
   have hlt:∀ b∈S2,b<U.heap.size:=fun b hb=>by
    obtain⟨o,ho,-⟩:=hSo b hb
    exact(Array.getElem?_eq_some_iff.1 ((HKK.out b hb).trans ho)).1
   have hK2:KeepS S2 V U.drew:=HKK.out.trans (KeepS.new hlt nU)
   have KO0:Hid (KeepO S U U.drew):=Lib.hid ⟨KeepS.new (fun b hb=>hlt b (s2 b hb)) nU,fun b cs t fr ht hb=>nU.block b (Array.getElem?_eq_some_iff.1 hb).1⟩
   have HN:=Lib.hid nU
   clear nU HKK HJ1 hlt
   generalize U.drew=U2 at *
   have HJ2:=Lib.hid hJ2
   have HK2:=Lib.hid hK2
   have hyz:=HYA.out U2 HJ2.out
   unfold flA at hyz
   simp only at hyz
   obtain⟨fn,tmps,assign,body,hy,hR⟩:=hyz
   clear hJ2 hK2 HYA
   gi_wp2_with fail
   refine(roundIn_in hR).mono ?_
   clear hy hR
   have u2:∀ U3,KeepsFrom W.heap.size U2 U3→KeepsFrom V.heap.size U U3:=fun U3 kf=>(keepsFrom_new HN.out).trans (keepsFrom_up kf h2s)
   rintro e U3 (⟨rfl,kf,ko,hJ4⟩|⟨rfl,kf,hJ4⟩)
   ·have k4:KeepS S2 U2 U3:=fun b hb=>by
     rcases s3 b hb with rfl|h|h
     ·exact ko.2 _ _ _ _ (.inr (.inr (.inr (.inr rfl)))) ((HK2.out _ hb).trans y2)
     ·exact ko.1 b h
     ·obtain⟨cs,t,fr,h1,h2⟩:=(hSb b h).2.2
      exact ko.2.laid ⟨cs,t,fr,(HK2.out _ hb).trans h1,h2⟩
    have HO:Hid (KeepO S U U3):=Lib.hid ⟨KO0.out.1.trans (fun b hb=>k4 b (s2 b hb)),KO0.out.2.trans ko.2.keepT⟩
    have HF:=Lib.hid (u2 _ kf)
    have HJ4:=Lib.hid hJ4
    have HK4:=Lib.hid (HK2.out.trans k4)
    clear hJ4 kf ko k4 u2
    gi_wp2_with fail
    exact⟨HF.out,HO.out,HJ4.out,HK4.out⟩
   ·have HJ4:Hid (∃ j,(0<j∧j≤(flX C l).length)∧Jx j U3):=Lib.hid ⟨_,⟨by omega,HFI.out⟩,hJ4⟩
    have HF:=Lib.hid (u2 _ kf)
    clear hJ4 kf u2
    gi_wp2_with fail
    exact⟨HF.out,rfl,HJ4.out⟩
 case done =>
  rintro U ⟨hJ1,hK⟩ hD
  rw[←flX_len]at hJ1
  have HJ1:Hid (J (flX C l).length U):=hJ1
  clear hJ1
  go_wp2_with fail
  refine ret_mark hD fun U2 hU hk=>⟨_,results_none rfl _ _ _,⟨_,rfl⟩,.inl ?_⟩
  rw[hU]
  exact HJ.out.putObj _ HJ1.out h2s hD rfl
 case stop =>
  rintro i q U hi0 hi1 ⟨rfl,j,hj,hJ1⟩ hD
  refine wpIn_wide.2 ?_
  have HJ1:=Lib.hid hJ1
  clear hJ1
  go_wp2_with fail
  refine ret_mark hD fun U2 hU hk=>⟨_,results_none rfl _ _ _,⟨_,rfl⟩,.inr ⟨j,hj.1,hj.2,?_⟩⟩
  rw[hU]
  exact HJx.out.putObj _ HJ1.out h2s hD rfl
end Go.Proofs.YtmhghnbgllaihaaGreatDoor
