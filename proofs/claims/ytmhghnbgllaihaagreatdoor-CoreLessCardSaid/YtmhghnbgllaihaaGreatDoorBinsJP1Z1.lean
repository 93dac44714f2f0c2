import Derived.Test.YtmhghnbgllaihaaGreatDoorSoLSP1Z1
import Derived.Test.YtmhghnbgllaihaaGreatDoorSoSP1Z1
import Derived.Test.YtmhghnbgllaihaaGreatDoorBinsCP1Z1
import Derived.Test.YtmhghnbgllaihaaGreatDoorWholeIP1Z1
import Derived.Outline
import Derived.Deep.DeepCutAuto
import Derived.Deep.LoopGhost
import Derived.RangeFuncNested
import Derived.RangeFuncWrites
import Derived.RangeFuncBound
import Derived.RangeFuncCalls
import Derived.RangeFuncLeaves
import Derived.Shelf.Abstract
import Derived.Shelf.RegionOpen
import Derived.WalkKit
import Derived.OwnWalkIn
import Derived.TacticsInMore
import Derived.LoopNIn
import Derived.LoopIn
import Derived.Sort.WalkA
import Derived.Maps.AppendAt
import Derived.OwnWalk

namespace Go.Proofs.YtmhghnbgllaihaaGreatDoor
open Go.RowKit
set_option linter.unusedVariables false
set_option maxRecDepth 100000
def upTo (T:Int→Bool) (m:Nat):List Int:=((List.range m).map (fun j:Nat=>(j:Int))).filter T
theorem upTo_succ (T:Int→Bool) (m:Nat):upTo T (m+1)=upTo T m++(if T m then [(m:Int)]else []):=by
  unfold upTo
  rw[List.range_succ,List.map_append,List.filter_append,List.map_cons,List.map_nil,List.filter_cons,List.filter_nil]
theorem upTo_len (T:Int→Bool) (m:Nat):(upTo T m).length≤m:=by
  unfold upTo
  refine Nat.le_trans (List.length_filter_le _ _) ?_
  simp
def tilesL (cl cb ht ri ru wd dp x0 z0 x1 z1:Int):List Int:=upTo (fun k=>touchB cl cb ht ri ru wd dp k x0 z0 x1 z1) (countN cl cb ht ri ru wd dp).toNat
end Go.Proofs.YtmhghnbgllaihaaGreatDoor

namespace Go.Proofs.YtmhghnbgllaihaaGreatDoor
open Go.RowKit Go.Shelf
set_option linter.unusedVariables false
set_option maxRecDepth 100000
attribute [local go_sem] Oper.semAt_some
theorem b_each (cl cb ht ri ru wd dp x0 z0 x1 z1:Int) (w:World) :
    Calls Tryz.prog 171 #[.agg #[.int .i64 cl,.int .i64 cb,.int .i64 ht,.int .i64 ri,.int .i64 ru,.int .i64 wd,.int .i64 dp],.int .i64 x0,.int .i64 z0,.int .i64 x1,.int .i64 z1] w fun e w' =>
      e=.returned (.func (.func 206) #[] #[.pointer (some ⟨w.heap.size,0,none⟩),.pointer (some ⟨w.heap.size+1,0,none⟩),.pointer (some ⟨w.heap.size+1+1,0,none⟩),.pointer (some ⟨w.heap.size+1+1+1,0,none⟩),.pointer (some ⟨w.heap.size+1+1+1+1,0,none⟩)]) ∧
      w'=((((w.alloc (.cells #[.int .i64 cl,.int .i64 cb,.int .i64 ht,.int .i64 ri,.int .i64 ru,.int .i64 wd,.int .i64 dp] 23)).alloc (.cells #[.int .i64 x0] 3)).alloc (.cells #[.int .i64 z0] 3)).alloc (.cells #[.int .i64 x1] 3)).alloc (.cells #[.int .i64 z1] 3):=by
  go_enter Tryz.func171,Tryz.ntmps171
  go_wp2_with fail
  go_ret
  exact⟨rfl,rfl⟩
theorem upTo_prefix (T:Int→Bool) {m n:Nat} (h:m≤n):upTo T m <+: upTo T n:=by
  obtain⟨d,rfl⟩:=Nat.exists_eq_add_of_le h
  clear h
  induction d with
  | zero=>exact List.prefix_refl _
  | succ d ih=>exact ih.trans (by rw[←Nat.add_assoc,upTo_succ];exact List.prefix_append _ _)
def numOf:Value→Int
  | .int _ k=>k
  | _=>0
theorem keeps_new {B:Nat} {W w w':World} (h:∀ b,b<B→w.heap[b]? = W.heap[b]?) (hB:B≤W.heap.size) (n:New w w'):∀ b,b<B→w'.heap[b]? = W.heap[b]? := fun b hb=>by
  have h1:=h b hb
  rw[Array.getElem?_eq_getElem (show b<W.heap.size by omega)]at h1
  exact(n.block b (Array.getElem?_eq_some_iff.1 h1).1).trans (h b hb)
set_option maxHeartbeats 4000000 in
theorem b_each1 (cl cb ht ri ru wd dp x0 z0 x1 z1:Int) (T:Int→Bool) (n:Int) (hn:0≤n∧n≤16)
    (hC:∀ W,Calls Tryz.prog 207 #[.agg #[.int .i64 cl,.int .i64 cb,.int .i64 ht,.int .i64 ri,.int .i64 ru,.int .i64 wd,.int .i64 dp]] W fun e w'=>e=.returned (.int .i64 n)∧New W w')
    (hT:∀ k W,Nowhere W→Calls Tryz.prog 208 #[.agg #[.int .i64 cl,.int .i64 cb,.int .i64 ht,.int .i64 ri,.int .i64 ru,.int .i64 wd,.int .i64 dp],.int .i64 k,.int .i64 x0,.int .i64 z0,.int .i64 x1,.int .i64 z1] W fun e w'=>e=.returned (.bool (T k))∧New W w')
    (N l B Bc:Nat) (hN:1≤N) (J Jx:List Int→World→Prop)
    (hY:∀ (pre:List Int) (t:Int) W,J pre W→pre.length<17→YieldAt Fence.wide (N - 1) Tryz.prog l #[.int .i64 t] W fun e W' =>
      (e=.returned (.bool true)∧J (pre++[t]) W'∧∀ b,b<B→W'.heap[b]? = W.heap[b]?)∨(e=.returned (.bool false)∧Jx (pre++[t]) W'))
    (W:World) (hJ:∀ pre W1 W2,J pre W1→New W1 W2→J pre W2) (hl:Nowhere W) (hB:Bc+1+1+1+1<B) (hBW:B≤W.heap.size) (hB0:0<B)
    (c0:W.cell? ⟨Bc,0,none⟩=some (.int .i64 cl)) (c1:W.cell? ⟨Bc,1,none⟩=some (.int .i64 cb)) (c2:W.cell? ⟨Bc,2,none⟩=some (.int .i64 ht)) (c3:W.cell? ⟨Bc,3,none⟩=some (.int .i64 ri)) (c4:W.cell? ⟨Bc,4,none⟩=some (.int .i64 ru)) (c5:W.cell? ⟨Bc,5,none⟩=some (.int .i64 wd)) (c6:W.cell? ⟨Bc,6,none⟩=some (.int .i64 dp))
    (d0:W.cell? ⟨Bc+1,0,none⟩=some (.int .i64 x0)) (d1:W.cell? ⟨Bc+1+1,0,none⟩=some (.int .i64 z0)) (d2:W.cell? ⟨Bc+1+1+1,0,none⟩=some (.int .i64 x1)) (d3:W.cell? ⟨Bc+1+1+1+1,0,none⟩=some (.int .i64 z1))
    (h0:J [] W) :
    CallsIn Fence.wide N Tryz.prog 206 #[.func (.yield l) #[] #[],.pointer (some ⟨Bc,0,none⟩),.pointer (some ⟨Bc+1,0,none⟩),.pointer (some ⟨Bc+1+1,0,none⟩),.pointer (some ⟨Bc+1+1+1,0,none⟩),.pointer (some ⟨Bc+1+1+1+1,0,none⟩)] W fun e W'=>(∃ v,e=.returned v) ∧
      ((∃ ys,ys=upTo T n.toNat∧J ys W')∨(∃ pre:List Int,pre <+: upTo T n.toNat∧Jx pre W')):=by
  have CC:=Lib.hid hC
  have TT:=Lib.hid hT
  have YY:=Lib.hid hY
  clear hC hT hY
  refine callsIn_of_wp Tryz.func206 rfl trivial ?_ rfl
  simp only[Tryz.ntmps206,List.size_toArray,List.length_cons,List.length_nil,Nat.reduceAdd,Nat.reduceSub,Array.replicate_succ,Array.replicate_zero,List.push_toArray,List.append_toArray,List.nil_append,List.cons_append]
  gi_wp2_with (refine⟨trivial,?_⟩;gi_at_call 207;refine(callsIn_wide.2 (CC.out _)).mono ?_;rintro e w1 ⟨rfl,n1⟩)
  have HK0:=keeps_new (W:=W) (w:=W) (fun b _=>rfl) hBW n1
  have HJ0:Hid (J [] w1):=hJ _ _ _ h0 n1
  clear h0 CC n1
  gi_loopw [10] (fun v wr=>∃ m:Nat,v=.int .i64 m∧(m:Int)≤n∧Hid (J (upTo T m) wr)∧Hid (∀ b,b<B→wr.heap[b]? = W.heap[b]?))
    (fun v _=>n.toNat - (numOf v).toNat)
  case atStart=>exact⟨0,rfl,hn.1,HJ0,HK0⟩
  case round =>
    clear HJ0 HK0
    obtain⟨m,rfl,hm,hJ1,hK⟩:=hrel
    by_cases hlt:(m:Int)<n
    · have bl:decide ((m:Int)<n)=true:=decide_eq_true hlt
      have hk:=hK.out
      replace c0:=(World.cell?_of_block (a:=⟨Bc,0,none⟩) (hk Bc (by omega))).trans c0
      replace c1:=(World.cell?_of_block (a:=⟨Bc,1,none⟩) (hk Bc (by omega))).trans c1
      replace c2:=(World.cell?_of_block (a:=⟨Bc,2,none⟩) (hk Bc (by omega))).trans c2
      replace c3:=(World.cell?_of_block (a:=⟨Bc,3,none⟩) (hk Bc (by omega))).trans c3
      replace c4:=(World.cell?_of_block (a:=⟨Bc,4,none⟩) (hk Bc (by omega))).trans c4
      replace c5:=(World.cell?_of_block (a:=⟨Bc,5,none⟩) (hk Bc (by omega))).trans c5
      replace c6:=(World.cell?_of_block (a:=⟨Bc,6,none⟩) (hk Bc (by omega))).trans c6
      replace d0:=(World.cell?_of_block (a:=⟨Bc+1,0,none⟩) (hk (Bc+1) (by omega))).trans d0
      replace d1:=(World.cell?_of_block (a:=⟨Bc+1+1,0,none⟩) (hk (Bc+1+1) (by omega))).trans d1
      replace d2:=(World.cell?_of_block (a:=⟨Bc+1+1+1,0,none⟩) (hk (Bc+1+1+1) (by omega))).trans d2
      replace d3:=(World.cell?_of_block (a:=⟨Bc+1+1+1+1,0,none⟩) (hk (Bc+1+1+1+1) (by omega))).trans d3
      have l0:=(World.cell?_of_block (a:=⟨0,0,none⟩) (hk 0 hB0)).trans hl.c0
      have l1:=(World.cell?_of_block (a:=⟨0,1,none⟩) (hk 0 hB0)).trans hl.c1
      have l2:=(World.cell?_of_block (a:=⟨0,2,none⟩) (hk 0 hB0)).trans hl.c2
      have l3:=(World.cell?_of_block (a:=⟨0,3,none⟩) (hk 0 hB0)).trans hl.c3
      have HL:=Lib.hid (Nowhere.mk l0 l1 l2 l3)
      clear hk l0 l1 l2 l3
      have hlen:(upTo T m).length<17:=by have:=upTo_len T m;omega
      have hs:=upTo_succ T m
      cases hT:T m with
      | false =>
        rw[hT]at hs
        have T1:=TT.out m
        rw[hT]at T1
        have U1:=Lib.hid T1
        have HS:=Lib.hid hs
        clear T1 hs hT TT
        gi_wp2_with (refine⟨trivial,?_⟩;gi_at_call 208;refine(callsIn_wide.2 (U1.out _ HL.out)).mono ?_;rintro e w2 ⟨rfl,n2⟩)
        refine⟨fun _ h=>(by cases h),?_⟩
        gi_wp2
        go_roundw
        case rel=>exact⟨m+1,by go_num,by omega,by show J _ _;rw[HS.out];simpa using hJ _ _ _ hJ1.out n2,keeps_new hK.out hBW n2⟩
        case measure=>simp[numOf];omega
      | true =>
        rw[hT]at hs
        have T1:=TT.out m
        rw[hT]at T1
        have U1:=Lib.hid T1
        have HS:=Lib.hid hs
        clear T1 hs hT TT
        gi_wp2_with (refine⟨trivial,?_⟩;gi_at_call 208;refine(callsIn_wide.2 (U1.out _ HL.out)).mono ?_;rintro e w2 ⟨rfl,n2⟩;(obtain⟨fn,tmps,assign,body,hy,hR⟩:=YY.out (upTo T m) m w2 (hJ _ _ _ hJ1.out n2) hlen))
        refine hR.mono ?_
        have hk2:=keeps_new hK.out hBW n2
        have HK2:=Lib.hid hk2
        clear hk2 hy hR YY c0 c1 c2 c3 c4 c5 c6 d0 d1 d2 d3
        rintro e W5 (⟨rfl,hJ5,hk5⟩|⟨rfl,hJx5⟩)
        · have HJ5:=Lib.hid hJ5
          have HK5:=Lib.hid hk5
          clear hJ5 hk5
          gi_wp2
          go_roundw
          case rel=>exact⟨m+1,by go_num,by omega,by rw[HS.out];exact HJ5.out,fun b hb=>(HK5.out b hb).trans (HK2.out b hb)⟩
          case measure=>simp[numOf];omega
        · gi_wp2
          refine bodyPost_ret (results_none rfl _ _ _) rfl ?_
          exact⟨⟨_,rfl⟩,.inr ⟨_,by rw[show upTo T m++[(m:Int)]=upTo T (m+1)from HS.out.symm];exact upTo_prefix T (by omega),hJx5⟩⟩
    · have bl:decide ((m:Int)<n)=false:=decide_eq_false hlt
      have em:m=n.toNat:=by omega
      have E:=Lib.hid em
      clear em
      gi_wp2_with fail
      go_end0
      exact⟨⟨_,rfl⟩,.inl (by rw[←E.out];exact hJ1.out)⟩
structure EachAt (w:World) (Bc:Nat) (cl cb ht ri ru wd dp x0 z0 x1 z1:Int):Prop where
  c0:w.cell? ⟨Bc,0,none⟩=some (.int .i64 cl)
  c1:w.cell? ⟨Bc,1,none⟩=some (.int .i64 cb)
  c2:w.cell? ⟨Bc,2,none⟩=some (.int .i64 ht)
  c3:w.cell? ⟨Bc,3,none⟩=some (.int .i64 ri)
  c4:w.cell? ⟨Bc,4,none⟩=some (.int .i64 ru)
  c5:w.cell? ⟨Bc,5,none⟩=some (.int .i64 wd)
  c6:w.cell? ⟨Bc,6,none⟩=some (.int .i64 dp)
  d0:w.cell? ⟨Bc+1,0,none⟩=some (.int .i64 x0)
  d1:w.cell? ⟨Bc+1+1,0,none⟩=some (.int .i64 z0)
  d2:w.cell? ⟨Bc+1+1+1,0,none⟩=some (.int .i64 x1)
  d3:w.cell? ⟨Bc+1+1+1+1,0,none⟩=some (.int .i64 z1)
theorem EachAt.new {w w':World} {Bc:Nat} {cl cb ht ri ru wd dp x0 z0 x1 z1:Int} (h:EachAt w Bc cl cb ht ri ru wd dp x0 z0 x1 z1) (n:New w w'):EachAt w' Bc cl cb ht ri ru wd dp x0 z0 x1 z1 :=
  ⟨n.keep h.c0,n.keep h.c1,n.keep h.c2,n.keep h.c3,n.keep h.c4,n.keep h.c5,n.keep h.c6,n.keep h.d0,n.keep h.d1,n.keep h.d2,n.keep h.d3⟩
def seqV (Bc:Nat):Value:=.func (.func 206) #[] #[.pointer (some ⟨Bc,0,none⟩),.pointer (some ⟨Bc+1,0,none⟩),.pointer (some ⟨Bc+1+1,0,none⟩),.pointer (some ⟨Bc+1+1+1,0,none⟩),.pointer (some ⟨Bc+1+1+1+1,0,none⟩)]
theorem bEach_any (cl cb ht ri ru wd dp x0 z0 x1 z1:Int) (w:World) :
    Calls Tryz.prog 171 #[.agg #[.int .i64 cl,.int .i64 cb,.int .i64 ht,.int .i64 ri,.int .i64 ru,.int .i64 wd,.int .i64 dp],.int .i64 x0,.int .i64 z0,.int .i64 x1,.int .i64 z1] w fun e w' =>
      ∃ Bc,e=.returned (seqV Bc)∧EachAt w' Bc cl cb ht ri ru wd dp x0 z0 x1 z1∧w.heap.size≤Bc∧Bc+1+1+1+1<w'.heap.size∧New w w':=by
  refine(b_each cl cb ht ri ru wd dp x0 z0 x1 z1 w).mono ?_
  rintro e w' ⟨rfl,hw⟩
  have hn:New w w':=by subst hw;exact nw
  have hE:EachAt w' w.heap.size cl cb ht ri ru wd dp x0 z0 x1 z1:=by
    subst hw
    exact⟨by go_simp,by go_simp,by go_simp,by go_simp,by go_simp,by go_simp,by go_simp,by go_simp,by go_simp,by go_simp,by go_simp⟩
  exact⟨w.heap.size,rfl,hE,Nat.le_refl _,World.block_lt_of_cell? _ _ hE.d3,hn⟩
theorem b_stops (cl cb ht ri ru wd dp x0 z0 x1 z1:Int) (N:Nat) (hN:1≤N) (Bc B:Nat) (w:World) (hE:EachAt w Bc cl cb ht ri ru wd dp x0 z0 x1 z1) (hl:Nowhere w) (hB:Bc+1+1+1+1<B) (hBw:B≤w.heap.size) :
    SeqStopsK Fence.wide N Tryz.prog 206 #[.pointer (some ⟨Bc,0,none⟩),.pointer (some ⟨Bc+1,0,none⟩),.pointer (some ⟨Bc+1+1,0,none⟩),.pointer (some ⟨Bc+1+1+1,0,none⟩),.pointer (some ⟨Bc+1+1+1+1,0,none⟩)] (fun t:Int=>#[.int .i64 t]) (fun W W'=>∀ b,b<B→W'.heap[b]? = W.heap[b]?)
      (fun ys=>ys=tilesL cl cb ht ri ru wd dp x0 z0 x1 z1) (fun pre=>pre <+: tilesL cl cb ht ri ru wd dp x0 z0 x1 z1) 17 w:=by
  intro l J Jx W hW hJ _ hY h0
  have n:New w W:=hW
  have h:=hE.new n
  exact b_each1 cl cb ht ri ru wd dp x0 z0 x1 z1 (fun k=>touchB cl cb ht ri ru wd dp k x0 z0 x1 z1) (countN cl cb ht ri ru wd dp) (count_bd _ _ _ _ _ _ _) (fun W=>Count_any cl cb ht ri ru wd dp W) (fun k W hl=>Touch_any cl cb ht ri ru wd dp k x0 z0 x1 z1 W hl)
    N l B Bc hN J Jx hY W (fun pre W1 W2 hj hn=>hJ pre W1 W2 none hj ⟨hn.os,hn.tape,hn.output,hn.size,fun k hk _=>hn.block k hk⟩ (fun r e=>by cases e)) (hl.new n) hB (Nat.le_trans hBw n.size) (by omega)
    h.c0 h.c1 h.c2 h.c3 h.c4 h.c5 h.c6 h.d0 h.d1 h.d2 h.d3 h0
end Go.Proofs.YtmhghnbgllaihaaGreatDoor

namespace Go.Proofs.YtmhghnbgllaihaaGreatDoor
open Go.RowKit Go.Shelf
set_option linter.unusedVariables false
set_option maxRecDepth 100000
attribute [local go_sem] Oper.semAt_some
theorem own_put {W:World} {base size n D:Nat} {e:TypeId} {v:Value} {xs:List Value} {o:Obj} (h:W.ownsRow base e size v n xs) (hD:W.heap[D]? = some (.deferred (some []))):(W.putObj D o).ownsRow base e size v n xs:=by
  obtain⟨h1,h2⟩:=h
  refine⟨h1,h2.imp id ?_⟩
  rintro⟨g,cap,cur,rfl,hb,hg,r⟩
  have hne:g≠D:=fun e=>by subst e;rw[hg]at hD;cases hD
  exact⟨g,cap,cur,rfl,hb,(World.putObj_heap_other hne).trans hg,r⟩
set_option maxHeartbeats 4000000 in
theorem bn_list (cl cb ht ri ru wd dp x0 z0 x1 z1:Int) (Bc:Nat) (w:World) (hE:EachAt w Bc cl cb ht ri ru wd dp x0 z0 x1 z1) (hl:Nowhere w) :
    CallsIn Fence.wide 5 Tryz.prog 170 #[seqV Bc] w fun e w' =>
      ∃ v,e=.returned v∧w'.ownsRow w.heap.size 3 1 v (tilesL cl cb ht ri ru wd dp x0 z0 x1 z1).length ((tilesL cl cb ht ri ru wd dp x0 z0 x1 z1).flatMap iE)∧New w w':=by
  obtain⟨i0,hi,hz0,hz1,hz2⟩:=info_parts int_info
  unfold seqV
  refine callsIn_of_wp_marks Tryz.func170 rfl trivial ?_ rfl
  simp only[Tryz.ntmps170,List.size_toArray,List.length_cons,List.length_nil,Nat.reduceAdd,Nat.reduceSub,Array.replicate_succ,Array.replicate_zero,List.push_toArray,List.append_toArray,List.nil_append,List.cons_append]
  gi_wp2_with fail
  obtain⟨W0,hW0⟩:∃ W0,W0=w.alloc (.cells #[.slice none 0 0] 41):=⟨_,rfl⟩
  have hs0:W0.heap.size=w.heap.size+1:=by subst hW0;simp
  have bO:Boxed W0 w.heap.size 41 (.slice none 0 0):=by subst hW0;exact Boxed.new w _ _
  have hn0:Below w.heap.size w W0:=by subst hW0;exact(Below.refl _ w).alloc (Nat.le_refl _) _
  have hn:New w W0:=hn0
  rw[←hW0]
  clear hW0
  have hBc:Bc+1+1+1+1<w.heap.size:=World.block_lt_of_cell? _ _ hE.d3
  refine wpIn_rangeFunc_ownH rfl (by omega) (gf:=206) (lb:=#[.pointer (some ⟨Bc,0,none⟩),.pointer (some ⟨Bc+1,0,none⟩),.pointer (some ⟨Bc+1+1,0,none⟩),.pointer (some ⟨Bc+1+1+1,0,none⟩),.pointer (some ⟨Bc+1+1+1+1,0,none⟩)]) rfl trivial (enters_of Tryz.func206 (by kernel_rfl) rfl)
    (b_stops cl cb ht ri ru wd dp x0 z0 x1 z1 4 (by omega) Bc w.heap.size W0 (hE.new hn) (hl.new hn) hBc (by omega))
    (fun h k=>fun b hb=>(k b hb).trans (h b hb)) (fun W l o o' hl _ _ _=>fun b hb=>World.putObj_heap_other (by omega)) (Below.refl _ _) (fun _=>rfl)
    (fun pre W=>(∃ v,Boxed W w.heap.size 41 v∧W.ownsRow w.heap.size 3 1 v pre.length (pre.flatMap iE)∧True)∧Below w.heap.size w W)
    (fun _ _ _=>False)
    (OwnFrom.and (Own.from (holdsRow_own w.heap.size w.heap.size 41 3 1 (fun(pre:List Int)=>pre.length) (fun(pre:List Int)=>pre.flatMap iE) (fun _ _=>True)) _) (ownFrom_below (Nat.le_refl _) (by omega)))
    (fun _ _ _ _ _ hs _ _=>hs)
    ⟨⟨_,bO,World.ownsRow_nil _ _ _ _,trivial⟩,hn0⟩
    (fun t a' _=>a'={ tmps:=#[.func (.func 206) #[] #[.pointer (some ⟨Bc,0,none⟩),.pointer (some ⟨Bc+1,0,none⟩),.pointer (some ⟨Bc+1+1,0,none⟩),.pointer (some ⟨Bc+1+1+1,0,none⟩),.pointer (some ⟨Bc+1+1+1+1,0,none⟩)],undef,.slice none 0 0,.pointer (some ⟨w.heap.size,0,none⟩),.int .i64 t,.func (.func 206) #[] #[.pointer (some ⟨Bc,0,none⟩),.pointer (some ⟨Bc+1,0,none⟩),.pointer (some ⟨Bc+1+1,0,none⟩),.pointer (some ⟨Bc+1+1+1,0,none⟩),.pointer (some ⟨Bc+1+1+1+1,0,none⟩)],.int .i64 t,undef,undef,undef,undef,undef],defers:=[] })
    (fun _ _ _ _ _ _ hs _ _=>hs) ?assign ?body ?done ?stop
  case assign =>
    intro l pre t W K hi' hK
    simp only[List.zip_toArray,List.zip_cons_cons,List.zip_nil_right,List.foldl_toArray',List.foldl_cons,List.foldl_nil,List.setIfInBounds_toArray,List.set_cons_succ,List.set_cons_zero,List.size_toArray,List.length_cons,List.length_nil]
    gi_wp2
    exact hK _ _ ((KeepsOthers.refl _).from _) (fun _ _=>rfl) hi' rfl
  case body =>
    rintro l pre t a' W hl' ⟨r,hr⟩ ⟨⟨v,hv,hrow,_⟩,hB⟩ rfl hlt
    have hc:=hv.cell
    have hBs:=hB.size
    gi_wp2_with (gi_at_builtin;refine wpListIn_append_own _ rfl _ _ 41 rfl w.heap.size 3 i0 (.int .i64 0) 1 8 Tryz.underlying41 hi hz0 hz1 hz2 rfl (by decide) _ _ _ rfl (hrow.alloc _) ⟨W.heap.size,0,none⟩ 1 1 (iE t) rfl rfl (cells_int _ _ _) (by intro u hu;simp at hu;subst hu;rfl) (by unfold maxLen;omega) (by omega) (by simp;omega) ?_;intro v' w1 hown' hgrow _;obtain⟨g',cap',rfl⟩:=ownsRow_succ hown';obtain⟨hv1,hv2,hr2,hk2,hb2⟩:=hv.appended (by decide) hrow hB.size (Nat.le_refl _) hown' hgrow;have hc1:=hv1.cell;have hf1:=hv1.frozen)
    refine⟨hk2.from _,fun b hb=>?_,⟨_,hv2,by rw[List.flatMap_append,List.length_append];simpa using hr2,trivial⟩,hB.trans hb2⟩
    exact hb2.block b hb
  case done =>
    rintro D ys W hD rfl ⟨⟨v,hv,hrow,_⟩,hB⟩ hK
    have hc:=hv.cell
    gi_wp2_with fail
    refine⟨by simp,.inl ⟨_,_,rfl,run_takeDeferred hK,?_⟩⟩
    exact⟨_,results_tmp rfl _ _ _,v,rfl,own_put hrow hK,Go.RowKit.Below.trans hB (belowK_b (w:=w) (Nat.le_refl _) W D _ _ (by omega) hK rfl rfl)⟩
  case stop =>
    rintro D c pre W _ _ h _
    exact h.elim
theorem bList_any (cl cb ht ri ru wd dp x0 z0 x1 z1:Int) (Bc:Nat) (w:World) (hE:EachAt w Bc cl cb ht ri ru wd dp x0 z0 x1 z1) (hl:Nowhere w) :
    Calls Tryz.prog 170 #[seqV Bc] w fun e w' =>
      ∃ v,e=.returned v∧w'.ownsRow w.heap.size 3 1 v (tilesL cl cb ht ri ru wd dp x0 z0 x1 z1).length ((tilesL cl cb ht ri ru wd dp x0 z0 x1 z1).flatMap iE)∧New w w' :=
  (callsIn_wide (n:=5)).1 (bn_list cl cb ht ri ru wd dp x0 z0 x1 z1 Bc w hE hl)
def ListPost (c:Int) (l:List Int) (w:World) (e:Ending) (w':World):Prop :=
  ∃ v,e=.returned (.tuple #[v,.int .i64 c])∧Sl iE 1 w' v l∧New w w'
end Go.Proofs.YtmhghnbgllaihaaGreatDoor
